/- TicketBack is proved: a ticket opens to its body just while its epoch is live, and unlike ones have unlike names. No condition. -/
import Derived.Test.YtcakipojmkehgaaDoorTkback
import Derived.Test.YtcakipojmkehgaaDoorOpenBd
import Derived.Test.YtcakipojmkehgaaDoorFframe
import Derived.Test.YtcakipojmkehgaaDoorFrame0
namespace Go.Proofs.YtcakipojmkehgaaDoor
open Go Go.ChangeShapes Go.WideShapes Go.RowKit Go.WideMaps Go.WideElems
open Go.ChangeMaps (open_string shut_string)

set_option maxRecDepth 100000 in
theorem ticketBack_lifted (os : Os) (started : os.Started) (H : Type) (enc : TypeId × Value → H) :
    ReturnsInHanded {} Tryd.checked os 4 .any (fun w args => (Rows.ticketBackSpec.pre enc Tryd.prog Tryd.f4 [] false w args ∧ laidMetH Tryd.prog theLaid w) ∧ sizedMet enc Tryd.prog Tryd.f4 (OpenSpec.ofChange Rows.ticketBackSpec) false w args)
      (Rows.ticketBackSpec.post enc Tryd.prog Tryd.f4 false true false false) := by
  refine returnsInHanded_of_change_and (C := Tryd.checked) (X := fun w _ => laidMetH Tryd.prog theLaid w) (fun _ _ _ hh h => h.of_heap hh) ownK started (by kernel_rfl) Tryd.func4
    (ChangeSpec.witness_at (enc := enc) (C := Tryd.checked) (os := os) (X := fun w _ => laidMetH Tryd.prog theLaid w) false (laidWorld os) #[.agg #[.int .i64 0, .int .i64 0, .int .i64 0, .int .i64 0, .int .i64 0], .agg #[.int .i64 0, .int .i64 0, .int .i64 0, .int .i64 0, .int .i64 0], .int .i64 0, .int .i64 0, .int .i64 0] 8 rfl (by kernel_rfl) (by kernel_rfl) (by kernel_rfl) (by kernel_rfl) (by kernel_rfl) (laidWorld_met os _)) ?_
  intro W base args ds gs before hval0 hW _ hsz0 hL _
  have hval : ∀ (j : Nat) t v, Tryd.f4.params[j]? = some t → args[j]? = some v → Value.okWide Tryd.prog W .any base t v := hval0
  have hsz : (DataW.weightsEach Tryd.prog (Tryd.f4.params.toList ++ DataSpec.varTypes Tryd.prog Rows.ticketBackSpec.plain) (ds ++ gs)).all (· ≤ reachBytes) = true := hsz0
  have hW' := hW
  obtain ⟨p, q, hA0, hV, rfl, hfz, hnd⟩ := hW
  have hA : DataW.TrodAll enc Tryd.prog W 0 (fun _ => true) true Tryd.f4.params.toList args.toList ds p := hA0
  rw [Tryd.params4] at hA hval hsz
  obtain ⟨v0, v1, v2, v3, v4, d0, d1, d2, d3, d4, p0, p1, p2, p3, p4, rfl, rfl, rfl, h0, h1, h2, h3, h4⟩ := trodAll_five hA
  obtain ⟨rfl, rfl⟩ := trodVars_none hV
  obtain ⟨a, rfl, hd_a⟩ := bd_open (hval 0 34 v0 rfl rfl) h0
  obtain ⟨c, rfl, hd_c⟩ := bd_open (hval 1 34 v1 rfl rfl) h1
  obtain ⟨epoch, rfl, rfl, rfl, wepoch⟩ := open_int Tryd.underlying3 (hval 2 3 v2 rfl rfl) h2
  obtain ⟨now, rfl, rfl, rfl, wnow⟩ := open_int Tryd.underlying3 (hval 3 3 v3 rfl rfl) h3
  obtain ⟨keep, rfl, rfl, rfl, wkeep⟩ := open_int Tryd.underlying3 (hval 4 3 v4 rfl rfl) h4
  have hg := gd_of_laid hL
  obtain ⟨epoch0, epoch1⟩ := bounds_i64 wepoch
  obtain ⟨now0, now1⟩ := bounds_i64 wnow
  obtain ⟨keep0, keep1⟩ := bounds_i64 wkeep
  clear hsz
  have e1 : Rows.ticketBackSpec.fn H ([d0, d1, .lit (.int .i64 epoch), .lit (.int .i64 now), .lit (.int .i64 keep)] ++ []) = { results := [.lit (.bool true)], args := [d0, d1, .lit (.int .i64 epoch), .lit (.int .i64 now), .lit (.int .i64 keep)] } := by simp [Rows.ticketBackSpec]
  refine (tkback_walk a c epoch now keep W hg).mono fun e W' ⟨he, hw⟩ => ?_
  subst he
  refine ⟨_, rfl, _, _, _, [], (p0 ++ (p1 ++ ([] ++ ([] ++ [])))), [], hW', ?_, ?_, ?_, hw.frame _, fun h => by cases h⟩
  · rw [e1]; exact trodAll_mk1 (shut_bool Tryd.underlying4 true)
  · rw [e1]; exact trodAll_mk5 (Below.trod laidOut0 bd_read bd_row h0 hw (fun x hx => by simpa using hW'.lt x (by simp [hx]))) (Below.trod laidOut0 bd_read bd_row h1 hw (fun x hx => by simpa using hW'.lt x (by simp [hx]))) (shut_int Tryd.underlying3 wepoch) (shut_int Tryd.underlying3 wnow) (shut_int Tryd.underlying3 wkeep)
  · rw [e1]; rfl

theorem ticketBack_row : Rows.TicketBackSaid :=
  OpenClaim.holds_of_wide 4 Tryd.f4 rfl rfl rfl rfl rfl rfl rfl ⟨rfl, rfl, rfl, rfl, rfl⟩ rfl rfl rfl rfl rfl (by kernel_rfl) Tryd.func4 (by kernel_rfl)
    (of_decide_eq_true (by kernel_rfl)) (by unfold Func.isWrapper; first | (rw [if_pos (by decide +kernel)]; kernel_rfl) | (rw [if_neg (by decide +kernel)]; exact ⟨rfl, rfl⟩))
    (fun os started H enc _ => ticketBack_lifted os started H enc)

theorem ticketBack_holds : Rows.TicketBackCardSaid :=
  Claim7.holds_tied_plain_at .later [] [.handle] true _ true
    ticketBack_row (fun _ h => by cases h) (by kernel_rfl) (fun _ h => by cases h) ticketBack_row_tie rfl ⟨rfl, rfl⟩ (by kernel_rfl) rfl
    (fun f fn hf hfn => by
      obtain rfl : f = 4 := Option.some.inj ((show Tryd.prog.funcNamed "bastion/bastionlaw15.TicketBack" = some 4 by kernel_rfl).symm.trans hf) |>.symm
      obtain rfl : fn = Tryd.f4 := (Option.some.inj (Tryd.func4.symm.trans hfn)).symm
      exact ⟨by kernel_rfl, fun j t ht => by
        rw [Tryd.params4] at ht
        have hm : t ∈ [34, 34, 3, 3, 3] := by simpa using Array.mem_of_getElem? ht
        have hall : ([34, 34, 3, 3, 3].all fun u => !Tryd.prog.wantsStandIn u) = true := by kernel_rfl
        exact (show Tryd.prog.wantsStandIn t = false by simpa using List.all_eq_true.1 hall t hm)⟩)
    (by kernel_rfl)
end Go.Proofs.YtcakipojmkehgaaDoor
