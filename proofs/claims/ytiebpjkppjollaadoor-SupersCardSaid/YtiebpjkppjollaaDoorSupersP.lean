/- Supers is proved: for every book's size, boots, bytes package super answers as the reference, and the samples hold. Condition: errors.errorType reads as the text of the program lays it (the card ties it). -/
import Derived.Test.YtiebpjkppjollaaDoorSupers
import Derived.Test.YtiebpjkppjollaaDoorIArg
import Derived.Test.YtiebpjkppjollaaDoorFrameI
import Derived.Test.YtiebpjkppjollaaDoorFframe
import Derived.Test.YtiebpjkppjollaaDoorFrame0
namespace Go.Proofs.YtiebpjkppjollaaDoor
open Go Go.ChangeShapes Go.WideShapes Go.RowKit Go.WideMaps Go.WideElems
open Go.ChangeMaps (open_string shut_string)

set_option maxRecDepth 100000 in
theorem supers_lifted (os : Os) (started : os.Started) (H : Type) (enc : TypeId × Value → H) :
    ReturnsInHanded {} Tryd.checked os 8 .any (fun w args => (Rows.supersSpec.pre enc Tryd.prog Tryd.f8 [] false w args ∧ laidMetH Tryd.prog theLaid w) ∧ sizedMet enc Tryd.prog Tryd.f8 (OpenSpec.ofChange Rows.supersSpec) false w args)
      (Rows.supersSpec.post enc Tryd.prog Tryd.f8 false true false false) := by
  refine returnsInHanded_of_change_and (C := Tryd.checked) (X := fun w _ => laidMetH Tryd.prog theLaid w) (fun _ _ _ hh h => h.of_heap hh) ownK started (by kernel_rfl) Tryd.func8
    (ChangeSpec.witness_at (enc := enc) (C := Tryd.checked) (os := os) (X := fun w _ => laidMetH Tryd.prog theLaid w) false (laidWorld os) #[.int .i64 0, .slice none 0 0, .string ⟨#[]⟩, .string ⟨#[]⟩] 8 rfl (by kernel_rfl) (by kernel_rfl) (by kernel_rfl) (by kernel_rfl) (by kernel_rfl) (laidWorld_met os _)) ?_
  intro W base args ds gs before hval0 hW _ hsz0 hL _
  have hval : ∀ (j : Nat) t v, Tryd.f8.params[j]? = some t → args[j]? = some v → Value.okWide Tryd.prog W .any base t v := hval0
  have hsz : (DataW.weightsEach Tryd.prog (Tryd.f8.params.toList ++ DataSpec.varTypes Tryd.prog Rows.supersSpec.plain) (ds ++ gs)).all (· ≤ reachBytes) = true := hsz0
  have hW' := hW
  obtain ⟨p, q, hA0, hV, rfl, hfz, hnd⟩ := hW
  have hA : DataW.TrodAll enc Tryd.prog W 0 (fun _ => true) true Tryd.f8.params.toList args.toList ds p := hA0
  rw [Tryd.params8] at hA hval hsz
  obtain ⟨v0, v1, v2, v3, d0, d1, d2, d3, p0, p1, p2, p3, rfl, rfl, rfl, h0, h1, h2, h3⟩ := trodAll_four hA
  obtain ⟨rfl, rfl⟩ := trodVars_none hV
  obtain ⟨most, rfl, rfl, rfl, wmost⟩ := open_int Tryd.underlying3 (hval 0 3 v0 rfl rfl) h0
  obtain ⟨s, rfl, rfl, rfl, ws⟩ := open_string Tryd.underlying9 (hval 2 9 v2 rfl rfl) h2
  obtain ⟨t, rfl, rfl, rfl, wt⟩ := open_string Tryd.underlying9 (hval 3 9 v3 rfl rfl) h3
  obtain ⟨bootsa, bootslen, bootscap, rfl⟩ := okWide_slice Tryd.underlying52 (hval 1 52 v1 rfl rfl)
  have hg := gd_of_laid hL
  obtain ⟨boots, bootsl, ia_boots⟩ := iarg_of h1 (fun elems spare hd => by
    have := sized_slice hsz (j := 1) (t := 52) (e := 3) (elems := elems) (spare := spare) rfl (by rw [← hd]; rfl) Tryd.underlying52
    rw [bytesI] at this
    unfold reachBytes at this
    omega)
  subst bootsl
  obtain ⟨most0, most1⟩ := bounds_i64 wmost
  have hs_s := sized_string hsz (j := 2) (t := 9) rfl rfl
  rw [← Lib.size_eq] at hs_s
  unfold reachBytes at hs_s
  have hs_t := sized_string hsz (j := 3) (t := 9) rfl rfl
  rw [← Lib.size_eq] at hs_t
  unfold reachBytes at hs_t
  have e1 : Rows.supersSpec.fn H ([.lit (.int .i64 most), d1, .lit (.string s.data.toList), .lit (.string t.data.toList)] ++ []) = { results := [.lit (.bool true)], args := [.lit (.int .i64 most), d1, .lit (.string s.data.toList), .lit (.string t.data.toList)] } := by simp [Rows.supersSpec]
  refine (supers_walk most bootsa bootscap boots s t W hg ia_boots (by omega) (by omega)).mono fun e W' ⟨he, hw⟩ => ?_
  subst he
  refine ⟨_, rfl, _, _, _, [], ([] ++ (p1 ++ ([] ++ []))), [], hW', ?_, ?_, ?_, hw.frame _, fun h => by cases h⟩
  · rw [e1]; exact trodAll_mk1 (shut_bool Tryd.underlying4 true)
  · rw [e1]; exact trodAll_mk4 (shut_int Tryd.underlying3 wmost) (Below.trod laidOut0 ints_read ints_row h1 hw (fun x hx => by simpa using hW'.lt x (by simp [hx]))) (shut_string Tryd.underlying9 ws) (shut_string Tryd.underlying9 wt)
  · rw [e1]; rfl

theorem supers_row : Rows.SupersSaid :=
  OpenClaim.holds_of_wide 8 Tryd.f8 rfl rfl rfl rfl rfl rfl rfl ⟨rfl, rfl, rfl, rfl, rfl⟩ rfl rfl rfl rfl rfl (by kernel_rfl) Tryd.func8 (by kernel_rfl)
    (of_decide_eq_true (by kernel_rfl)) (by unfold Func.isWrapper; first | (rw [if_pos (by decide +kernel)]; kernel_rfl) | (rw [if_neg (by decide +kernel)]; exact ⟨rfl, rfl⟩))
    (fun os started H enc _ => supers_lifted os started H enc)

theorem supers_holds : Rows.SupersCardSaid :=
  Claim7.holds_tied_plain_at .later [] [.handle] true _ true
    supers_row (fun _ h => by cases h) (by kernel_rfl) (fun _ h => by cases h) supers_row_tie rfl ⟨rfl, rfl⟩ (by kernel_rfl) rfl
    (fun f fn hf hfn => by
      obtain rfl : f = 8 := Option.some.inj ((show Tryd.prog.funcNamed "bastion/bastionlaw10.Supers" = some 8 by kernel_rfl).symm.trans hf) |>.symm
      obtain rfl : fn = Tryd.f8 := (Option.some.inj (Tryd.func8.symm.trans hfn)).symm
      exact ⟨by kernel_rfl, fun j t ht => by
        rw [Tryd.params8] at ht
        have hm : t ∈ [3, 52, 9, 9] := by simpa using Array.mem_of_getElem? ht
        have hall : ([3, 52, 9, 9].all fun u => !Tryd.prog.wantsStandIn u) = true := by kernel_rfl
        exact (show Tryd.prog.wantsStandIn t = false by simpa using List.all_eq_true.1 hall t hm)⟩)
    (by kernel_rfl)
end Go.Proofs.YtiebpjkppjollaaDoor
