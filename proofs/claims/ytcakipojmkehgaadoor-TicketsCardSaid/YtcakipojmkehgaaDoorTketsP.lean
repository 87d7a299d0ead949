/- Tickets is proved: at every book, row of epochs, row of bodies, now, keep and tag the calls of package ticket answer as the reference says, and the books stay alike. No condition. -/
import Derived.Test.YtcakipojmkehgaaDoorTkets
import Derived.Test.YtcakipojmkehgaaDoorOpenBd
import Derived.Test.YtcakipojmkehgaaDoorFrameI
import Derived.Test.YtcakipojmkehgaaDoorFrameS
import Derived.Test.YtcakipojmkehgaaDoorFrame7
import Derived.Test.YtcakipojmkehgaaDoorFframe
import Derived.Test.YtcakipojmkehgaaDoorFrame0
namespace Go.Proofs.YtcakipojmkehgaaDoor
open Go Go.ChangeShapes Go.WideShapes Go.RowKit Go.WideMaps Go.WideElems
open Go.ChangeMaps (open_string shut_string)

set_option maxRecDepth 100000 in
theorem tickets_lifted (os : Os) (started : os.Started) (H : Type) (enc : TypeId × Value → H) :
    ReturnsInHanded {} Tryd.checked os 3 .any (fun w args => (Rows.ticketsSpec.pre enc Tryd.prog Tryd.f3 [] false w args ∧ laidMetH Tryd.prog theLaid w) ∧ sizedMet enc Tryd.prog Tryd.f3 (OpenSpec.ofChange Rows.ticketsSpec) false w args)
      (Rows.ticketsSpec.post enc Tryd.prog Tryd.f3 false true false false) := by
  refine returnsInHanded_of_change_and (C := Tryd.checked) (X := fun w _ => laidMetH Tryd.prog theLaid w) (fun _ _ _ hh h => h.of_heap hh) ownK started (by kernel_rfl) Tryd.func3
    (ChangeSpec.witness_at (enc := enc) (C := Tryd.checked) (os := os) (X := fun w _ => laidMetH Tryd.prog theLaid w) false (laidWorld os) #[.int .i64 0, .slice none 0 0, .slice none 0 0, .slice none 0 0, .int .i64 0, .int .i64 0, .int .i64 0] 8 rfl (by kernel_rfl) (by kernel_rfl) (by kernel_rfl) (by kernel_rfl) (by kernel_rfl) (laidWorld_met os _)) ?_
  intro W base args ds gs before hval0 hW _ hsz0 hL _
  have hval : ∀ (j : Nat) t v, Tryd.f3.params[j]? = some t → args[j]? = some v → Value.okWide Tryd.prog W .any base t v := hval0
  have hsz : (DataW.weightsEach Tryd.prog (Tryd.f3.params.toList ++ DataSpec.varTypes Tryd.prog Rows.ticketsSpec.plain) (ds ++ gs)).all (· ≤ reachBytes) = true := hsz0
  have hW' := hW
  obtain ⟨p, q, hA0, hV, rfl, hfz, hnd⟩ := hW
  have hA : DataW.TrodAll enc Tryd.prog W 0 (fun _ => true) true Tryd.f3.params.toList args.toList ds p := hA0
  rw [Tryd.params3] at hA hval hsz
  obtain ⟨v0, v1, v2, v3, v4, v5, v6, d0, d1, d2, d3, d4, d5, d6, p0, p1, p2, p3, p4, p5, p6, rfl, rfl, rfl, h0, h1, h2, h3, h4, h5, h6⟩ := trodAll_seven hA
  obtain ⟨rfl, rfl⟩ := trodVars_none hV
  obtain ⟨most, rfl, rfl, rfl, wmost⟩ := open_int Tryd.underlying3 (hval 0 3 v0 rfl rfl) h0
  obtain ⟨now, rfl, rfl, rfl, wnow⟩ := open_int Tryd.underlying3 (hval 4 3 v4 rfl rfl) h4
  obtain ⟨keep, rfl, rfl, rfl, wkeep⟩ := open_int Tryd.underlying3 (hval 5 3 v5 rfl rfl) h5
  obtain ⟨tag, rfl, rfl, rfl, wtag⟩ := open_int Tryd.underlying3 (hval 6 3 v6 rfl rfl) h6
  obtain ⟨termsa, termslen, termscap, rfl⟩ := okWide_slice Tryd.underlying22 (hval 1 22 v1 rfl rfl)
  obtain ⟨epochsa, epochslen, epochscap, rfl⟩ := okWide_slice Tryd.underlying23 (hval 2 23 v2 rfl rfl)
  obtain ⟨tsa, tslen, tscap, rfl⟩ := okWide_slice Tryd.underlying24 (hval 3 24 v3 rfl rfl)
  have hg := gd_of_laid hL
  obtain ⟨terms, termsl, sa_terms⟩ := sarg_of h1 (fun elems spare hd => by
    have := sized_slice hsz (j := 1) (t := 22) (e := 9) (elems := elems) (spare := spare) rfl (by rw [← hd]; rfl) Tryd.underlying22
    rw [bytesS] at this
    unfold reachBytes at this
    omega)
  subst termsl
  obtain ⟨epochs, epochsl, ia_epochs⟩ := iarg_of h2 (fun elems spare hd => by
    have := sized_slice hsz (j := 2) (t := 23) (e := 3) (elems := elems) (spare := spare) rfl (by rw [← hd]; rfl) Tryd.underlying23
    rw [bytesI] at this
    unfold reachBytes at this
    omega)
  subst epochsl
  obtain ⟨ts, tsl, ra_ts⟩ := bd_arg h3 (fun elems spare hd => rows_sized hsz (j := 3) (t := 24) (e := 34) rfl (by rw [← hd]; rfl) Tryd.underlying24)
  subst tsl
  obtain ⟨most0, most1⟩ := bounds_i64 wmost
  obtain ⟨now0, now1⟩ := bounds_i64 wnow
  obtain ⟨keep0, keep1⟩ := bounds_i64 wkeep
  obtain ⟨tag0, tag1⟩ := bounds_i64 wtag
  have e1 : Rows.ticketsSpec.fn H ([.lit (.int .i64 most), d1, d2, d3, .lit (.int .i64 now), .lit (.int .i64 keep), .lit (.int .i64 tag)] ++ []) = { results := [.lit (.bool true)], args := [.lit (.int .i64 most), d1, d2, d3, .lit (.int .i64 now), .lit (.int .i64 keep), .lit (.int .i64 tag)] } := by simp [Rows.ticketsSpec]
  refine (tkets_walk most now keep tag termsa epochsa tsa termscap epochscap tscap terms epochs ts W hg sa_terms ia_epochs ra_ts).mono fun e W' ⟨he, hw⟩ => ?_
  subst he
  refine ⟨_, rfl, _, _, _, [], ([] ++ (p1 ++ (p2 ++ (p3 ++ ([] ++ ([] ++ [])))))), [], hW', ?_, ?_, ?_, hw.frame _, fun h => by cases h⟩
  · rw [e1]; exact trodAll_mk1 (shut_bool Tryd.underlying4 true)
  · rw [e1]; exact trodAll_mk7 (shut_int Tryd.underlying3 wmost) (Below.trod laidOut0 strs_read strs_row h1 hw (fun x hx => by simpa using hW'.lt x (by simp [hx]))) (Below.trod laidOut0 ints_read ints_row h2 hw (fun x hx => by simpa using hW'.lt x (by simp [hx]))) (Below.trod laidOut0 bdR_read bdR_row h3 hw (fun x hx => by simpa using hW'.lt x (by simp [hx]))) (shut_int Tryd.underlying3 wnow) (shut_int Tryd.underlying3 wkeep) (shut_int Tryd.underlying3 wtag)
  · rw [e1]; rfl

theorem tickets_row : Rows.TicketsSaid :=
  OpenClaim.holds_of_wide 3 Tryd.f3 rfl rfl rfl rfl rfl rfl rfl ⟨rfl, rfl, rfl, rfl, rfl⟩ rfl rfl rfl rfl rfl (by kernel_rfl) Tryd.func3 (by kernel_rfl)
    (of_decide_eq_true (by kernel_rfl)) (by unfold Func.isWrapper; first | (rw [if_pos (by decide +kernel)]; kernel_rfl) | (rw [if_neg (by decide +kernel)]; exact ⟨rfl, rfl⟩))
    (fun os started H enc _ => tickets_lifted os started H enc)

theorem tickets_holds : Rows.TicketsCardSaid :=
  Claim7.holds_tied_plain_at .later [] [.handle] true _ true
    tickets_row (fun _ h => by cases h) (by kernel_rfl) (fun _ h => by cases h) tickets_row_tie rfl ⟨rfl, rfl⟩ (by kernel_rfl) rfl
    (fun f fn hf hfn => by
      obtain rfl : f = 3 := Option.some.inj ((show Tryd.prog.funcNamed "bastion/bastionlaw15.Tickets" = some 3 by kernel_rfl).symm.trans hf) |>.symm
      obtain rfl : fn = Tryd.f3 := (Option.some.inj (Tryd.func3.symm.trans hfn)).symm
      exact ⟨by kernel_rfl, fun j t ht => by
        rw [Tryd.params3] at ht
        have hm : t ∈ [3, 22, 23, 24, 3, 3, 3] := by simpa using Array.mem_of_getElem? ht
        have hall : ([3, 22, 23, 24, 3, 3, 3].all fun u => !Tryd.prog.wantsStandIn u) = true := by kernel_rfl
        exact (show Tryd.prog.wantsStandIn t = false by simpa using List.all_eq_true.1 hall t hm)⟩)
    (by kernel_rfl)
end Go.Proofs.YtcakipojmkehgaaDoor
