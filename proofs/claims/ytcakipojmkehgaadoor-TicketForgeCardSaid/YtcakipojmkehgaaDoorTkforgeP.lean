/- TicketForge is proved: no other term opens as a ticket, whatever it is. No condition. -/
import Derived.Test.YtcakipojmkehgaaDoorTkforge
import Derived.Test.YtcakipojmkehgaaDoorFrameI
import Derived.Test.YtcakipojmkehgaaDoorFrameZ
import Derived.Test.YtcakipojmkehgaaDoorFframe
import Derived.Test.YtcakipojmkehgaaDoorFrame0
namespace Go.Proofs.YtcakipojmkehgaaDoor
open Go Go.ChangeShapes Go.WideShapes Go.RowKit Go.WideMaps Go.WideElems
open Go.ChangeMaps (open_string shut_string)

set_option maxRecDepth 100000 in
theorem ticketForge_lifted (os : Os) (started : os.Started) (H : Type) (enc : TypeId × Value → H) :
    ReturnsInHanded {} Tryd.checked os 6 .any (fun w args => (Rows.ticketForgeSpec.pre enc Tryd.prog Tryd.f6 [] false w args ∧ laidMetH Tryd.prog theLaid w) ∧ sizedMet enc Tryd.prog Tryd.f6 (OpenSpec.ofChange Rows.ticketForgeSpec) false w args)
      (Rows.ticketForgeSpec.post enc Tryd.prog Tryd.f6 false true false false) := by
  refine returnsInHanded_of_change_and (C := Tryd.checked) (X := fun w _ => laidMetH Tryd.prog theLaid w) (fun _ _ _ hh h => h.of_heap hh) ownK started (by kernel_rfl) Tryd.func6
    (ChangeSpec.witness_at (enc := enc) (C := Tryd.checked) (os := os) (X := fun w _ => laidMetH Tryd.prog theLaid w) false (laidWorld os) #[.slice none 0 0, .slice none 0 0, .int .i64 0] 8 rfl (by kernel_rfl) (by kernel_rfl) (by kernel_rfl) (by kernel_rfl) (by kernel_rfl) (laidWorld_met os _)) ?_
  intro W base args ds gs before hval0 hW _ hsz0 hL _
  have hval : ∀ (j : Nat) t v, Tryd.f6.params[j]? = some t → args[j]? = some v → Value.okWide Tryd.prog W .any base t v := hval0
  have hsz : (DataW.weightsEach Tryd.prog (Tryd.f6.params.toList ++ DataSpec.varTypes Tryd.prog Rows.ticketForgeSpec.plain) (ds ++ gs)).all (· ≤ reachBytes) = true := hsz0
  have hW' := hW
  obtain ⟨p, q, hA0, hV, rfl, hfz, hnd⟩ := hW
  have hA : DataW.TrodAll enc Tryd.prog W 0 (fun _ => true) true Tryd.f6.params.toList args.toList ds p := hA0
  rw [Tryd.params6] at hA hval hsz
  obtain ⟨v0, v1, v2, d0, d1, d2, p0, p1, p2, rfl, rfl, rfl, h0, h1, h2⟩ := trodAll_three hA
  obtain ⟨rfl, rfl⟩ := trodVars_none hV
  obtain ⟨epoch, rfl, rfl, rfl, wepoch⟩ := open_int Tryd.underlying3 (hval 2 3 v2 rfl rfl) h2
  obtain ⟨textsa, textslen, textscap, rfl⟩ := okWide_slice Tryd.underlying22 (hval 0 22 v0 rfl rfl)
  obtain ⟨keysa, keyslen, keyscap, rfl⟩ := okWide_slice Tryd.underlying23 (hval 1 23 v1 rfl rfl)
  have hg := gd_of_laid hL
  obtain ⟨texts, textsl, sa_texts, sz_texts⟩ := szarg_of h0 (fun elems spare hd => rows_sized hsz (j := 0) (t := 22) (e := 9) rfl (by rw [← hd]; rfl) Tryd.underlying22)
  subst textsl
  obtain ⟨keys, keysl, ia_keys⟩ := iarg_of h1 (fun elems spare hd => by
    have := sized_slice hsz (j := 1) (t := 23) (e := 3) (elems := elems) (spare := spare) rfl (by rw [← hd]; rfl) Tryd.underlying23
    rw [bytesI] at this
    unfold reachBytes at this
    omega)
  subst keysl
  obtain ⟨epoch0, epoch1⟩ := bounds_i64 wepoch
  have e1 : Rows.ticketForgeSpec.fn H ([d0, d1, .lit (.int .i64 epoch)] ++ []) = { results := [.lit (.bool true)], args := [d0, d1, .lit (.int .i64 epoch)] } := by simp [Rows.ticketForgeSpec]
  refine (tkforge_walk epoch textsa keysa textscap keyscap texts keys W hg sa_texts sz_texts ia_keys).mono fun e W' ⟨he, hw⟩ => ?_
  subst he
  refine ⟨_, rfl, _, _, _, [], (p0 ++ (p1 ++ [])), [], hW', ?_, ?_, ?_, hw.frame _, fun h => by cases h⟩
  · rw [e1]; exact trodAll_mk1 (shut_bool Tryd.underlying4 true)
  · rw [e1]; exact trodAll_mk3 (Below.trod laidOut0 strs_read strs_row h0 hw (fun x hx => by simpa using hW'.lt x (by simp [hx]))) (Below.trod laidOut0 ints_read ints_row h1 hw (fun x hx => by simpa using hW'.lt x (by simp [hx]))) (shut_int Tryd.underlying3 wepoch)
  · rw [e1]; rfl

theorem ticketForge_row : Rows.TicketForgeSaid :=
  OpenClaim.holds_of_wide 6 Tryd.f6 rfl rfl rfl rfl rfl rfl rfl ⟨rfl, rfl, rfl, rfl, rfl⟩ rfl rfl rfl rfl rfl (by kernel_rfl) Tryd.func6 (by kernel_rfl)
    (of_decide_eq_true (by kernel_rfl)) (by unfold Func.isWrapper; first | (rw [if_pos (by decide +kernel)]; kernel_rfl) | (rw [if_neg (by decide +kernel)]; exact ⟨rfl, rfl⟩))
    (fun os started H enc _ => ticketForge_lifted os started H enc)

theorem ticketForge_holds : Rows.TicketForgeCardSaid :=
  Claim7.holds_tied_plain_at .later [] [.handle] true _ true
    ticketForge_row (fun _ h => by cases h) (by kernel_rfl) (fun _ h => by cases h) ticketForge_row_tie rfl ⟨rfl, rfl⟩ (by kernel_rfl) rfl
    (fun f fn hf hfn => by
      obtain rfl : f = 6 := Option.some.inj ((show Tryd.prog.funcNamed "bastion/bastionlaw15.TicketForge" = some 6 by kernel_rfl).symm.trans hf) |>.symm
      obtain rfl : fn = Tryd.f6 := (Option.some.inj (Tryd.func6.symm.trans hfn)).symm
      exact ⟨by kernel_rfl, fun j t ht => by
        rw [Tryd.params6] at ht
        have hm : t ∈ [22, 23, 3] := by simpa using Array.mem_of_getElem? ht
        have hall : ([22, 23, 3].all fun u => !Tryd.prog.wantsStandIn u) = true := by kernel_rfl
        exact (show Tryd.prog.wantsStandIn t = false by simpa using List.all_eq_true.1 hall t hm)⟩)
    (by kernel_rfl)
end Go.Proofs.YtcakipojmkehgaaDoor
