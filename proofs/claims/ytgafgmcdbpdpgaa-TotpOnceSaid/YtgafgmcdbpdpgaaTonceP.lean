/- TotpOnce is proved: at every step and row of ticks a code is taken just while its step is near and above the last one taken. No condition. -/
import Derived.Test.YtgafgmcdbpdpgaaTonce
import Derived.Test.YtgafgmcdbpdpgaaFrameI
import Derived.Test.YtgafgmcdbpdpgaaFrame0
namespace Go.Proofs.Ytgafgmcdbpdpgaa
open Go Go.ChangeShapes Go.WideShapes Go.ChangeAt Go.RowKit Go.WideMaps Go.WideElems
open Go.ChangeMaps (open_string shut_string)

set_option maxRecDepth 100000 in
theorem totpOnce_lifted (os : Os) (started : os.Started) (H : Type) (enc : TypeId × Value → H) :
    ReturnsInHanded {} Try.checked os 4 .any (Rows.totpOnceSpec.pre6 enc Try.prog Try.f4 Rows.totpOnceRow.domain false) (Rows.totpOnceSpec.post enc Try.prog Try.f4 false true false false) := by
  refine returnsInHanded_of_change_sized (C := Try.checked) own0 started (by kernel_rfl) Try.func4
    (ChangeSpec.witness6 (enc := enc) (C := Try.checked) false ⟨#[], #[.int .i64 0, .slice none 0 0], []⟩ 8 (by kernel_rfl) (by kernel_rfl) (by kernel_rfl) (by kernel_rfl)) ?_
  intro W base args ds gs before hval0 hW _ hsz0 _
  have hsz : (DataW.weightsEach Try.prog (Try.f4.params.toList ++ Rows.totpOnceSpec.plain.varTypes Try.prog) (ds ++ gs)).all (· ≤ reachBytes) = true := hsz0
  clear hsz0
  have hval : ∀ (j : Nat) t v, Try.f4.params[j]? = some t → args[j]? = some v → Value.okWide Try.prog W .any base t v := hval0
  have hW' := hW
  obtain ⟨p, q, hA0, hV, rfl, _, _⟩ := hW
  have hA : DataW.TrodAll enc Try.prog W 0 (fun _ => true) true Try.f4.params.toList args.toList ds p := hA0
  rw [Try.params4] at hA hval hsz
  obtain ⟨v0, v1, d0, d1, p0, p1, rfl, rfl, rfl, h0, h1⟩ := trodAll_two hA
  obtain ⟨rfl, rfl⟩ := trodVars_none hV
  obtain ⟨step, rfl, rfl, rfl, wstep⟩ := open_int Try.underlying3 (hval 0 3 v0 rfl rfl) h0
  obtain ⟨ticksa, tickslen, tickscap, rfl⟩ := okWide_slice Try.underlying22 (hval 1 22 v1 rfl rfl)
  clear hA0 hval0
  obtain ⟨step0, step1⟩ := bounds_i64 wstep
  obtain ⟨ticks, ticksl, ia_ticks⟩ := iarg_of h1 (fun elems spare hd => by
    have := sized_slice hsz (j := 1) (t := 22) (e := 3) (elems := elems) (spare := spare) rfl (by rw [← hd]; rfl) Try.underlying22
    rw [bytesI] at this
    unfold reachBytes at this
    omega)
  subst ticksl
  have e1 : Rows.totpOnceSpec.fn H ([.lit (.int .i64 step), d1] ++ []) = { results := [.lit (.bool true)], args := [.lit (.int .i64 step), d1] } := by simp [Rows.totpOnceSpec]
  refine (tonce_walk step ticksa tickscap ticks W ia_ticks).mono fun e W' ⟨he, hw⟩ => ?_
  subst he
  refine ⟨_, rfl, _, _, _, [], ([] ++ p1), [], hW', ?_, ?_, ?_, hw.frame _, fun h => by cases h⟩
  · rw [e1]; exact trodAll_mk1 (shut_bool Try.underlying4 true)
  · rw [e1]; exact trodAll_mk2 (shut_int Try.underlying3 wstep) (Below.trod laidOut0 ints_read ints_row h1 hw (fun x hx => by simpa using hW'.lt x (by simp [hx])))
  · rw [e1]; rfl

theorem totpOnce_holds : Rows.TotpOnceSaid :=
  OpenClaim.holds_of_wide 4 Try.f4 rfl rfl rfl rfl rfl rfl rfl ⟨rfl, rfl, rfl, rfl, rfl⟩ rfl rfl rfl rfl rfl (by kernel_rfl) Try.func4 (by kernel_rfl)
    (of_decide_eq_true (by kernel_rfl)) (by unfold Func.isWrapper; first | (rw [if_pos (by decide +kernel)]; kernel_rfl) | (rw [if_neg (by decide +kernel)]; exact ⟨rfl, rfl⟩))
    (fun os started H enc _ => totpOnce_lifted os started H enc)
end Go.Proofs.Ytgafgmcdbpdpgaa
