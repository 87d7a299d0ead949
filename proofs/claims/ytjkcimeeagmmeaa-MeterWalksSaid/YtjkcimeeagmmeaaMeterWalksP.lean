/- MeterWalks is proved: what is delivered is at most the quota and one frame more; behind the limits all is over. No condition. -/
import Derived.Test.YtjkcimeeagmmeaaMewalks
import Derived.Test.YtjkcimeeagmmeaaMep
import Derived.Test.YtjkcimeeagmmeaaFrameI
import Derived.Test.YtjkcimeeagmmeaaFrame0
namespace Go.Proofs.Ytjkcimeeagmmeaa
open Go Go.ChangeShapes Go.WideShapes Go.ChangeAt Go.RowKit Go.WideMaps Go.WideElems
open Go.ChangeMaps (open_string shut_string)

set_option maxRecDepth 100000 in
theorem meterWalks_lifted (os : Os) (started : os.Started) (H : Type) (enc : TypeId × Value → H) :
    ReturnsInHanded {} Try.checked os 4 .any (Rows.meterWalksSpec.pre6 enc Try.prog Try.f4 Rows.meterWalksRow.domain false) (Rows.meterWalksSpec.post enc Try.prog Try.f4 false true false false) := by
  refine returnsInHanded_of_change_sized (C := Try.checked) own0 started (by kernel_rfl) Try.func4
    (ChangeSpec.witness6 (enc := enc) (C := Try.checked) false ⟨#[], #[.slice none 0 0, .int .i64 0, .int .i64 0, .int .i64 0], []⟩ 8 (by kernel_rfl) (by kernel_rfl) (by kernel_rfl) (by kernel_rfl)) ?_
  intro W base args ds gs before hval0 hW _ hsz0 _
  have hsz : (DataW.weightsEach Try.prog (Try.f4.params.toList ++ Rows.meterWalksSpec.plain.varTypes Try.prog) (ds ++ gs)).all (· ≤ reachBytes) = true := hsz0
  clear hsz0
  have hval : ∀ (j : Nat) t v, Try.f4.params[j]? = some t → args[j]? = some v → Value.okWide Try.prog W .any base t v := hval0
  have hW' := hW
  obtain ⟨p, q, hA0, hV, rfl, _, _⟩ := hW
  have hA : DataW.TrodAll enc Try.prog W 0 (fun _ => true) true Try.f4.params.toList args.toList ds p := hA0
  rw [Try.params4] at hA hval hsz
  obtain ⟨v0, v1, v2, v3, d0, d1, d2, d3, p0, p1, p2, p3, rfl, rfl, rfl, h0, h1, h2, h3⟩ := trodAll_four hA
  obtain ⟨rfl, rfl⟩ := trodVars_none hV
  obtain ⟨actsa, actslen, actscap, rfl⟩ := okWide_slice Try.underlying34 (hval 0 34 v0 rfl rfl)
  obtain ⟨quota, rfl, rfl, rfl, wquota⟩ := open_int Try.underlying3 (hval 1 3 v1 rfl rfl) h1
  obtain ⟨idle, rfl, rfl, rfl, widle⟩ := open_int Try.underlying3 (hval 2 3 v2 rfl rfl) h2
  obtain ⟨abs, rfl, rfl, rfl, wabs⟩ := open_int Try.underlying3 (hval 3 3 v3 rfl rfl) h3
  clear hA0 hval0
  obtain ⟨acts, actsl, ia_acts⟩ := iarg_of h0 (fun elems spare hd => by
    have := sized_slice hsz (j := 0) (t := 34) (e := 3) (elems := elems) (spare := spare) rfl (by rw [← hd]; rfl) Try.underlying34
    rw [bytesI] at this
    unfold reachBytes at this
    omega)
  subst actsl
  obtain ⟨quota0, quota1⟩ := bounds_i64 wquota
  obtain ⟨idle0, idle1⟩ := bounds_i64 widle
  obtain ⟨abs0, abs1⟩ := bounds_i64 wabs
  have e1 : Rows.meterWalksSpec.fn H ([d0, .lit (.int .i64 quota), .lit (.int .i64 idle), .lit (.int .i64 abs)] ++ []) = { results := [.lit (.bool true)], args := [d0, .lit (.int .i64 quota), .lit (.int .i64 idle), .lit (.int .i64 abs)] } := by simp [Rows.meterWalksSpec]
  refine (mewalks_walk metersOk actsa actscap acts quota idle abs W ia_acts).mono fun e W' ⟨he, hw⟩ => ?_
  subst he
  refine ⟨_, rfl, _, _, _, [], (p0 ++ ([] ++ ([] ++ []))), [], hW', ?_, ?_, ?_, hw.frame _, fun h => by cases h⟩
  · rw [e1]; exact trodAll_mk1 (shut_bool Try.underlying4 true)
  · rw [e1]; exact trodAll_mk4 (Below.trod laidOut0 ints_read ints_row h0 hw (fun x hx => by simpa using hW'.lt x (by simp [hx]))) (shut_int Try.underlying3 wquota) (shut_int Try.underlying3 widle) (shut_int Try.underlying3 wabs)
  · rw [e1]; rfl

theorem meterWalks_holds : Rows.MeterWalksSaid :=
  OpenClaim.holds_of_wide 4 Try.f4 rfl rfl rfl rfl rfl rfl rfl ⟨rfl, rfl, rfl, rfl, rfl⟩ rfl rfl rfl rfl rfl (by kernel_rfl) Try.func4 (by kernel_rfl)
    (of_decide_eq_true (by kernel_rfl)) (by unfold Func.isWrapper; first | (rw [if_pos (by decide +kernel)]; kernel_rfl) | (rw [if_neg (by decide +kernel)]; exact ⟨rfl, rfl⟩))
    (fun os started H enc _ => meterWalks_lifted os started H enc)
end Go.Proofs.Ytjkcimeeagmmeaa
