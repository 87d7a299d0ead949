/- Records is proved: for every book's size, records, bytes, place package record answers as the reference, and the samples hold. Condition: errors.errorType reads as the text of the program lays it (the card ties it). -/
import Derived.Test.YtiebpjkppjollaaDoorRecords
import Derived.Test.YtiebpjkppjollaaDoorRcin
import Derived.Test.YtiebpjkppjollaaDoorFrameI
import Derived.Test.YtiebpjkppjollaaDoorFframe
import Derived.Test.YtiebpjkppjollaaDoorFrame0
namespace Go.Proofs.YtiebpjkppjollaaDoor
open Go Go.ChangeShapes Go.WideShapes Go.RowKit Go.WideMaps Go.WideElems
open Go.ChangeMaps (open_string shut_string)

set_option maxRecDepth 100000 in
theorem records_lifted (os : Os) (started : os.Started) (H : Type) (enc : TypeId × Value → H) :
    ReturnsInHanded {} Tryd.checked os 3 .any (fun w args => (Rows.recordsSpec.pre enc Tryd.prog Tryd.f3 [] false w args ∧ laidMetH Tryd.prog theLaid w) ∧ sizedMet enc Tryd.prog Tryd.f3 (OpenSpec.ofChange Rows.recordsSpec) false w args)
      (Rows.recordsSpec.post enc Tryd.prog Tryd.f3 false true false false) := by
  refine returnsInHanded_of_change_and (C := Tryd.checked) (X := fun w _ => laidMetH Tryd.prog theLaid w) (fun _ _ _ hh h => h.of_heap hh) ownK started (by kernel_rfl) Tryd.func3
    (ChangeSpec.witness_at (enc := enc) (C := Tryd.checked) (os := os) (X := fun w _ => laidMetH Tryd.prog theLaid w) false (laidWorld os) #[.int .i64 0, .slice none 0 0, .string ⟨#[]⟩, .int .i64 0, .int .i64 0] 8 rfl (by kernel_rfl) (by kernel_rfl) (by kernel_rfl) (by kernel_rfl) (by kernel_rfl) (laidWorld_met os _)) ?_
  intro W base args ds gs before hval0 hW _ hsz0 hL _
  have hval : ∀ (j : Nat) t v, Tryd.f3.params[j]? = some t → args[j]? = some v → Value.okWide Tryd.prog W .any base t v := hval0
  have hsz : (DataW.weightsEach Tryd.prog (Tryd.f3.params.toList ++ DataSpec.varTypes Tryd.prog Rows.recordsSpec.plain) (ds ++ gs)).all (· ≤ reachBytes) = true := hsz0
  have hW' := hW
  obtain ⟨p, q, hA0, hV, rfl, hfz, hnd⟩ := hW
  have hA : DataW.TrodAll enc Tryd.prog W 0 (fun _ => true) true Tryd.f3.params.toList args.toList ds p := hA0
  rw [Tryd.params3] at hA hval hsz
  obtain ⟨v0, v1, v2, v3, v4, d0, d1, d2, d3, d4, p0, p1, p2, p3, p4, rfl, rfl, rfl, h0, h1, h2, h3, h4⟩ := trodAll_five hA
  obtain ⟨rfl, rfl⟩ := trodVars_none hV
  obtain ⟨most, rfl, rfl, rfl, wmost⟩ := open_int Tryd.underlying3 (hval 0 3 v0 rfl rfl) h0
  obtain ⟨s, rfl, rfl, rfl, ws⟩ := open_string Tryd.underlying9 (hval 2 9 v2 rfl rfl) h2
  obtain ⟨seq, rfl, rfl, rfl, wseq⟩ := open_int Tryd.underlying3 (hval 3 3 v3 rfl rfl) h3
  obtain ⟨prev, rfl, rfl, rfl, wprev⟩ := open_int Tryd.underlying3 (hval 4 3 v4 rfl rfl) h4
  obtain ⟨xsa, xslen, xscap, rfl⟩ := okWide_slice Tryd.underlying22 (hval 1 22 v1 rfl rfl)
  have hg := gd_of_laid hL
  obtain ⟨xs, xsl, ra_xs⟩ := rc_arg h1 (fun elems spare hd => rows_sized hsz (j := 1) (t := 22) (e := 34) rfl (by rw [← hd]; rfl) Tryd.underlying22)
  subst xsl
  obtain ⟨most0, most1⟩ := bounds_i64 wmost
  have hs_s := sized_string hsz (j := 2) (t := 9) rfl rfl
  rw [← Lib.size_eq] at hs_s
  unfold reachBytes at hs_s
  obtain ⟨seq0, seq1⟩ := bounds_i64 wseq
  obtain ⟨prev0, prev1⟩ := bounds_i64 wprev
  have e1 : Rows.recordsSpec.fn H ([.lit (.int .i64 most), d1, .lit (.string s.data.toList), .lit (.int .i64 seq), .lit (.int .i64 prev)] ++ []) = { results := [.lit (.bool true)], args := [.lit (.int .i64 most), d1, .lit (.string s.data.toList), .lit (.int .i64 seq), .lit (.int .i64 prev)] } := by simp [Rows.recordsSpec]
  refine (records_walk most xsa xscap xs s seq prev W hg ⟨ra_xs.cell, ra_xs.few⟩ (by omega)).mono fun e W' ⟨he, hw⟩ => ?_
  subst he
  refine ⟨_, rfl, _, _, _, [], ([] ++ (p1 ++ ([] ++ ([] ++ [])))), [], hW', ?_, ?_, ?_, hw.frame _, fun h => by cases h⟩
  · rw [e1]; exact trodAll_mk1 (shut_bool Tryd.underlying4 true)
  · rw [e1]; exact trodAll_mk5 (shut_int Tryd.underlying3 wmost) (Below.trod laidOut0 rcR_read rcR_row h1 hw (fun x hx => by simpa using hW'.lt x (by simp [hx]))) (shut_string Tryd.underlying9 ws) (shut_int Tryd.underlying3 wseq) (shut_int Tryd.underlying3 wprev)
  · rw [e1]; rfl

theorem records_row : Rows.RecordsSaid :=
  OpenClaim.holds_of_wide 3 Tryd.f3 rfl rfl rfl rfl rfl rfl rfl ⟨rfl, rfl, rfl, rfl, rfl⟩ rfl rfl rfl rfl rfl (by kernel_rfl) Tryd.func3 (by kernel_rfl)
    (of_decide_eq_true (by kernel_rfl)) (by unfold Func.isWrapper; first | (rw [if_pos (by decide +kernel)]; kernel_rfl) | (rw [if_neg (by decide +kernel)]; exact ⟨rfl, rfl⟩))
    (fun os started H enc _ => records_lifted os started H enc)

theorem records_holds : Rows.RecordsCardSaid :=
  Claim7.holds_tied_plain_at .later [] [.handle] true _ true
    records_row (fun _ h => by cases h) (by kernel_rfl) (fun _ h => by cases h) records_row_tie rfl ⟨rfl, rfl⟩ (by kernel_rfl) rfl
    (fun f fn hf hfn => by
      obtain rfl : f = 3 := Option.some.inj ((show Tryd.prog.funcNamed "bastion/bastionlaw9.Records" = some 3 by kernel_rfl).symm.trans hf) |>.symm
      obtain rfl : fn = Tryd.f3 := (Option.some.inj (Tryd.func3.symm.trans hfn)).symm
      exact ⟨by kernel_rfl, fun j t ht => by
        rw [Tryd.params3] at ht
        have hm : t ∈ [3, 22, 9, 3, 3] := by simpa using Array.mem_of_getElem? ht
        have hall : ([3, 22, 9, 3, 3].all fun u => !Tryd.prog.wantsStandIn u) = true := by kernel_rfl
        exact (show Tryd.prog.wantsStandIn t = false by simpa using List.all_eq_true.1 hall t hm)⟩)
    (by kernel_rfl)
end Go.Proofs.YtiebpjkppjollaaDoor
