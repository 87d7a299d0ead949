/- RecordTorn is proved: of a record that is torn over zeros, or over another one of its place, nothing is read, but it is whole, or the other one is. Condition: errors.errorType reads as the text of the program lays it (the card ties it). -/
import Derived.Test.YtiebpjkppjollaaDoorBto
import Derived.Test.YtiebpjkppjollaaDoorOpenEv
import Derived.Test.YtiebpjkppjollaaDoorFframe
import Derived.Test.YtiebpjkppjollaaDoorFrame0
namespace Go.Proofs.YtiebpjkppjollaaDoor
open Go Go.ChangeShapes Go.WideShapes Go.RowKit Go.WideMaps Go.WideElems
open Go.ChangeMaps (open_string shut_string)

set_option maxRecDepth 100000 in
theorem recordTorn_lifted (os : Os) (started : os.Started) (H : Type) (enc : TypeId × Value → H) :
    ReturnsInHanded {} Tryd.checked os 7 .any (fun w args => (Rows.recordTornSpec.pre enc Tryd.prog Tryd.f7 [] false w args ∧ laidMetH Tryd.prog theLaid w) ∧ sizedMet enc Tryd.prog Tryd.f7 (OpenSpec.ofChange Rows.recordTornSpec) false w args)
      (Rows.recordTornSpec.post enc Tryd.prog Tryd.f7 false true false false) := by
  refine returnsInHanded_of_change_and (C := Tryd.checked) (X := fun w _ => laidMetH Tryd.prog theLaid w) (fun _ _ _ hh h => h.of_heap hh) ownK started (by kernel_rfl) Tryd.func7
    (ChangeSpec.witness_at (enc := enc) (C := Tryd.checked) (os := os) (X := fun w _ => laidMetH Tryd.prog theLaid w) false (laidWorld os) #[.agg #[.int .i64 0, .int .i64 0, .int .i64 0, .int .i64 0, .int .i64 0, .int .i64 0, .int .i64 0, .int .i64 0], .agg #[.int .i64 0, .int .i64 0, .int .i64 0, .int .i64 0, .int .i64 0, .int .i64 0, .int .i64 0, .int .i64 0], .int .i64 0, .int .i64 0] 8 rfl (by kernel_rfl) (by kernel_rfl) (by kernel_rfl) (by kernel_rfl) (by kernel_rfl) (laidWorld_met os _)) ?_
  intro W base args ds gs before hval0 hW _ hsz0 hL _
  have hval : ∀ (j : Nat) t v, Tryd.f7.params[j]? = some t → args[j]? = some v → Value.okWide Tryd.prog W .any base t v := hval0
  have hsz : (DataW.weightsEach Tryd.prog (Tryd.f7.params.toList ++ DataSpec.varTypes Tryd.prog Rows.recordTornSpec.plain) (ds ++ gs)).all (· ≤ reachBytes) = true := hsz0
  have hW' := hW
  obtain ⟨p, q, hA0, hV, rfl, hfz, hnd⟩ := hW
  have hA : DataW.TrodAll enc Tryd.prog W 0 (fun _ => true) true Tryd.f7.params.toList args.toList ds p := hA0
  rw [Tryd.params7] at hA hval hsz
  obtain ⟨v0, v1, v2, v3, d0, d1, d2, d3, p0, p1, p2, p3, rfl, rfl, rfl, h0, h1, h2, h3⟩ := trodAll_four hA
  obtain ⟨rfl, rfl⟩ := trodVars_none hV
  obtain ⟨a, rfl, hd_a⟩ := ev_open (hval 0 32 v0 rfl rfl) h0
  obtain ⟨c, rfl, hd_c⟩ := ev_open (hval 1 32 v1 rfl rfl) h1
  obtain ⟨tn, rfl, rfl, rfl, wtn⟩ := open_int Tryd.underlying3 (hval 2 3 v2 rfl rfl) h2
  obtain ⟨bo, rfl, rfl, rfl, wbo⟩ := open_int Tryd.underlying3 (hval 3 3 v3 rfl rfl) h3
  have hg := gd_of_laid hL
  obtain ⟨tn0, tn1⟩ := bounds_i64 wtn
  obtain ⟨bo0, bo1⟩ := bounds_i64 wbo
  clear hsz
  have e1 : Rows.recordTornSpec.fn H ([d0, d1, .lit (.int .i64 tn), .lit (.int .i64 bo)] ++ []) = { results := [.lit (.bool true)], args := [d0, d1, .lit (.int .i64 tn), .lit (.int .i64 bo)] } := by simp [Rows.recordTornSpec]
  refine (rtorn_walk a c tn bo W hg).mono fun e W' ⟨he, hw⟩ => ?_
  subst he
  refine ⟨_, rfl, _, _, _, [], (p0 ++ (p1 ++ ([] ++ []))), [], hW', ?_, ?_, ?_, hw.frame _, fun h => by cases h⟩
  · rw [e1]; exact trodAll_mk1 (shut_bool Tryd.underlying4 true)
  · rw [e1]; exact trodAll_mk4 (Below.trod laidOut0 ev_read ev_row h0 hw (fun x hx => by simpa using hW'.lt x (by simp [hx]))) (Below.trod laidOut0 ev_read ev_row h1 hw (fun x hx => by simpa using hW'.lt x (by simp [hx]))) (shut_int Tryd.underlying3 wtn) (shut_int Tryd.underlying3 wbo)
  · rw [e1]; rfl

theorem recordTorn_row : Rows.RecordTornSaid :=
  OpenClaim.holds_of_wide 7 Tryd.f7 rfl rfl rfl rfl rfl rfl rfl ⟨rfl, rfl, rfl, rfl, rfl⟩ rfl rfl rfl rfl rfl (by kernel_rfl) Tryd.func7 (by kernel_rfl)
    (of_decide_eq_true (by kernel_rfl)) (by unfold Func.isWrapper; first | (rw [if_pos (by decide +kernel)]; kernel_rfl) | (rw [if_neg (by decide +kernel)]; exact ⟨rfl, rfl⟩))
    (fun os started H enc _ => recordTorn_lifted os started H enc)

theorem recordTorn_holds : Rows.RecordTornCardSaid :=
  Claim7.holds_tied_plain_at .later [] [.handle] true _ true
    recordTorn_row (fun _ h => by cases h) (by kernel_rfl) (fun _ h => by cases h) recordTorn_row_tie rfl ⟨rfl, rfl⟩ (by kernel_rfl) rfl
    (fun f fn hf hfn => by
      obtain rfl : f = 7 := Option.some.inj ((show Tryd.prog.funcNamed "bastion/bastionlaw9.RecordTorn" = some 7 by kernel_rfl).symm.trans hf) |>.symm
      obtain rfl : fn = Tryd.f7 := (Option.some.inj (Tryd.func7.symm.trans hfn)).symm
      exact ⟨by kernel_rfl, fun j t ht => by
        rw [Tryd.params7] at ht
        have hm : t ∈ [32, 32, 3, 3] := by simpa using Array.mem_of_getElem? ht
        have hall : ([32, 32, 3, 3].all fun u => !Tryd.prog.wantsStandIn u) = true := by kernel_rfl
        exact (show Tryd.prog.wantsStandIn t = false by simpa using List.all_eq_true.1 hall t hm)⟩)
    (by kernel_rfl)
end Go.Proofs.YtiebpjkppjollaaDoor
