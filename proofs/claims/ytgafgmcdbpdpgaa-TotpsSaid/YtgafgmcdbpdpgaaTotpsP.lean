/- Totps is proved: at every book, secret, steps, last step, tick and code the calls of package totp answer as the reference says, and the samples hold. No condition. -/
import Derived.Test.YtgafgmcdbpdpgaaTotps
import Derived.Test.YtgafgmcdbpdpgaaFrameI
import Derived.Test.YtgafgmcdbpdpgaaFrame6
import Derived.Test.YtgafgmcdbpdpgaaFrame0
namespace Go.Proofs.Ytgafgmcdbpdpgaa
open Go Go.ChangeShapes Go.WideShapes Go.ChangeAt Go.RowKit Go.WideMaps Go.WideElems
open Go.ChangeMaps (open_string shut_string)

set_option maxRecDepth 100000 in
theorem totps_lifted (os : Os) (started : os.Started) (H : Type) (enc : TypeId × Value → H) :
    ReturnsInHanded {} Try.checked os 3 .any (Rows.totpsSpec.pre6 enc Try.prog Try.f3 Rows.totpsRow.domain false) (Rows.totpsSpec.post enc Try.prog Try.f3 false true false false) := by
  refine returnsInHanded_of_change_sized (C := Try.checked) own0 started (by kernel_rfl) Try.func3
    (ChangeSpec.witness6 (enc := enc) (C := Try.checked) false ⟨#[], #[.int .i64 0, .int .i64 0, .slice none 0 0, .int .i64 0, .int .i64 0, .int .i64 0], []⟩ 8 (by kernel_rfl) (by kernel_rfl) (by kernel_rfl) (by kernel_rfl)) ?_
  intro W base args ds gs before hval0 hW _ hsz0 _
  have hsz : (DataW.weightsEach Try.prog (Try.f3.params.toList ++ Rows.totpsSpec.plain.varTypes Try.prog) (ds ++ gs)).all (· ≤ reachBytes) = true := hsz0
  clear hsz0
  have hval : ∀ (j : Nat) t v, Try.f3.params[j]? = some t → args[j]? = some v → Value.okWide Try.prog W .any base t v := hval0
  have hW' := hW
  obtain ⟨p, q, hA0, hV, rfl, _, _⟩ := hW
  have hA : DataW.TrodAll enc Try.prog W 0 (fun _ => true) true Try.f3.params.toList args.toList ds p := hA0
  rw [Try.params3] at hA hval hsz
  obtain ⟨v0, v1, v2, v3, v4, v5, d0, d1, d2, d3, d4, d5, p0, p1, p2, p3, p4, p5, rfl, rfl, rfl, h0, h1, h2, h3, h4, h5⟩ := trodAll_six hA
  obtain ⟨rfl, rfl⟩ := trodVars_none hV
  obtain ⟨most, rfl, rfl, rfl, wmost⟩ := open_int Try.underlying3 (hval 0 3 v0 rfl rfl) h0
  obtain ⟨sec, rfl, rfl, rfl, wsec⟩ := open_int Try.underlying3 (hval 1 3 v1 rfl rfl) h1
  obtain ⟨madea, madelen, madecap, rfl⟩ := okWide_slice Try.underlying22 (hval 2 22 v2 rfl rfl)
  obtain ⟨last, rfl, rfl, rfl, wlast⟩ := open_int Try.underlying3 (hval 3 3 v3 rfl rfl) h3
  obtain ⟨tick, rfl, rfl, rfl, wtick⟩ := open_int Try.underlying3 (hval 4 3 v4 rfl rfl) h4
  obtain ⟨code, rfl, rfl, rfl, wcode⟩ := open_int Try.underlying3 (hval 5 3 v5 rfl rfl) h5
  clear hA0 hval0
  obtain ⟨most0, most1⟩ := bounds_i64 wmost
  obtain ⟨sec0, sec1⟩ := bounds_i64 wsec
  obtain ⟨made, madel, ia_made⟩ := iarg_of h2 (fun elems spare hd => by
    have := sized_slice hsz (j := 2) (t := 22) (e := 3) (elems := elems) (spare := spare) rfl (by rw [← hd]; rfl) Try.underlying22
    rw [bytesI] at this
    unfold reachBytes at this
    omega)
  subst madel
  obtain ⟨last0, last1⟩ := bounds_i64 wlast
  obtain ⟨tick0, tick1⟩ := bounds_i64 wtick
  obtain ⟨code0, code1⟩ := bounds_i64 wcode
  have e1 : Rows.totpsSpec.fn H ([.lit (.int .i64 most), .lit (.int .i64 sec), d2, .lit (.int .i64 last), .lit (.int .i64 tick), .lit (.int .i64 code)] ++ []) = { results := [.lit (.bool true)], args := [.lit (.int .i64 most), .lit (.int .i64 sec), d2, .lit (.int .i64 last), .lit (.int .i64 tick), .lit (.int .i64 code)] } := by simp [Rows.totpsSpec]
  refine (totps_walk most sec last tick code madea madecap made W ia_made sec0 sec1).mono fun e W' ⟨he, hw⟩ => ?_
  subst he
  refine ⟨_, rfl, _, _, _, [], ([] ++ ([] ++ (p2 ++ ([] ++ ([] ++ []))))), [], hW', ?_, ?_, ?_, hw.frame _, fun h => by cases h⟩
  · rw [e1]; exact trodAll_mk1 (shut_bool Try.underlying4 true)
  · rw [e1]; exact trodAll_mk6 (shut_int Try.underlying3 wmost) (shut_int Try.underlying3 wsec) (Below.trod laidOut0 ints_read ints_row h2 hw (fun x hx => by simpa using hW'.lt x (by simp [hx]))) (shut_int Try.underlying3 wlast) (shut_int Try.underlying3 wtick) (shut_int Try.underlying3 wcode)
  · rw [e1]; rfl

theorem totps_holds : Rows.TotpsSaid :=
  OpenClaim.holds_of_wide 3 Try.f3 rfl rfl rfl rfl rfl rfl rfl ⟨rfl, rfl, rfl, rfl, rfl⟩ rfl rfl rfl rfl rfl (by kernel_rfl) Try.func3 (by kernel_rfl)
    (of_decide_eq_true (by kernel_rfl)) (by unfold Func.isWrapper; first | (rw [if_pos (by decide +kernel)]; kernel_rfl) | (rw [if_neg (by decide +kernel)]; exact ⟨rfl, rfl⟩))
    (fun os started H enc _ => totps_lifted os started H enc)
end Go.Proofs.Ytgafgmcdbpdpgaa
