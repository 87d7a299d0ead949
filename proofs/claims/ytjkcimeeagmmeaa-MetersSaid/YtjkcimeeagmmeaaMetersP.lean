/- Meters is proved: over any meter and any numbers the calls answer as the document. No condition. -/
import Derived.Test.YtjkcimeeagmmeaaMeters
import Derived.Test.YtjkcimeeagmmeaaMep
import Derived.Test.YtjkcimeeagmmeaaOpenMe
import Derived.Test.YtjkcimeeagmmeaaFrame7
import Derived.Test.YtjkcimeeagmmeaaFrame0
namespace Go.Proofs.Ytjkcimeeagmmeaa
open Go Go.ChangeShapes Go.WideShapes Go.ChangeAt Go.RowKit Go.WideMaps Go.WideElems
open Go.ChangeMaps (open_string shut_string)

set_option maxRecDepth 100000 in
theorem meters_lifted (os : Os) (started : os.Started) (H : Type) (enc : TypeId × Value → H) :
    ReturnsInHanded {} Try.checked os 3 .any (Rows.metersSpec.pre6 enc Try.prog Try.f3 Rows.metersRow.domain false) (Rows.metersSpec.post enc Try.prog Try.f3 false true false false) := by
  refine returnsInHanded_of_change_sized (C := Try.checked) own0 started (by kernel_rfl) Try.func3
    (ChangeSpec.witness6 (enc := enc) (C := Try.checked) false ⟨#[], #[.agg #[.int .i64 0, .int .i64 0, .int .i64 0], .int .i64 0, .int .i64 0, .int .i64 0, .int .i64 0, .int .i64 0, .int .i64 0], []⟩ 8 (by kernel_rfl) (by kernel_rfl) (by kernel_rfl) (by kernel_rfl)) ?_
  intro W base args ds gs before hval0 hW _ hsz0 _
  have hsz : (DataW.weightsEach Try.prog (Try.f3.params.toList ++ Rows.metersSpec.plain.varTypes Try.prog) (ds ++ gs)).all (· ≤ reachBytes) = true := hsz0
  clear hsz0
  have hval : ∀ (j : Nat) t v, Try.f3.params[j]? = some t → args[j]? = some v → Value.okWide Try.prog W .any base t v := hval0
  have hW' := hW
  obtain ⟨p, q, hA0, hV, rfl, _, _⟩ := hW
  have hA : DataW.TrodAll enc Try.prog W 0 (fun _ => true) true Try.f3.params.toList args.toList ds p := hA0
  rw [Try.params3] at hA hval hsz
  obtain ⟨v0, v1, v2, v3, v4, v5, v6, d0, d1, d2, d3, d4, d5, d6, p0, p1, p2, p3, p4, p5, p6, rfl, rfl, rfl, h0, h1, h2, h3, h4, h5, h6⟩ := trodAll_seven hA
  obtain ⟨rfl, rfl⟩ := trodVars_none hV
  obtain ⟨mv, rfl⟩ := me_open (hval 0 23 v0 rfl rfl) h0
  obtain ⟨t, rfl, rfl, rfl, wt⟩ := open_int Try.underlying3 (hval 1 3 v1 rfl rfl) h1
  obtain ⟨i, rfl, rfl, rfl, wi⟩ := open_int Try.underlying3 (hval 2 3 v2 rfl rfl) h2
  obtain ⟨a, rfl, rfl, rfl, wa⟩ := open_int Try.underlying3 (hval 3 3 v3 rfl rfl) h3
  obtain ⟨y, rfl, rfl, rfl, wy⟩ := open_int Try.underlying3 (hval 4 3 v4 rfl rfl) h4
  obtain ⟨u, rfl, rfl, rfl, wu⟩ := open_int Try.underlying3 (hval 5 3 v5 rfl rfl) h5
  obtain ⟨q, rfl, rfl, rfl, wq⟩ := open_int Try.underlying3 (hval 6 3 v6 rfl rfl) h6
  clear hA0 hval0
  obtain ⟨t0, t1⟩ := bounds_i64 wt
  obtain ⟨i0, i1⟩ := bounds_i64 wi
  obtain ⟨a0, a1⟩ := bounds_i64 wa
  obtain ⟨y0, y1⟩ := bounds_i64 wy
  obtain ⟨u0, u1⟩ := bounds_i64 wu
  obtain ⟨q0, q1⟩ := bounds_i64 wq
  clear hsz
  have e1 : Rows.metersSpec.fn H ([d0, .lit (.int .i64 t), .lit (.int .i64 i), .lit (.int .i64 a), .lit (.int .i64 y), .lit (.int .i64 u), .lit (.int .i64 q)] ++ []) = { results := [.lit (.bool true)], args := [d0, .lit (.int .i64 t), .lit (.int .i64 i), .lit (.int .i64 a), .lit (.int .i64 y), .lit (.int .i64 u), .lit (.int .i64 q)] } := by simp [Rows.metersSpec]
  refine (meters_walk metersOk mv.1 mv.2.1 mv.2.2 t i a y u q W).mono fun e W' ⟨he, hw⟩ => ?_
  subst he
  refine ⟨_, rfl, _, _, _, [], (p0 ++ ([] ++ ([] ++ ([] ++ ([] ++ ([] ++ [])))))), [], hW', ?_, ?_, ?_, hw.frame _, fun h => by cases h⟩
  · rw [e1]; exact trodAll_mk1 (shut_bool Try.underlying4 true)
  · rw [e1]; exact trodAll_mk7 (Below.trod laidOut0 me_read me_row h0 hw (fun x hx => by simpa using hW'.lt x (by simp [hx]))) (shut_int Try.underlying3 wt) (shut_int Try.underlying3 wi) (shut_int Try.underlying3 wa) (shut_int Try.underlying3 wy) (shut_int Try.underlying3 wu) (shut_int Try.underlying3 wq)
  · rw [e1]; rfl

theorem meters_holds : Rows.MetersSaid :=
  OpenClaim.holds_of_wide 3 Try.f3 rfl rfl rfl rfl rfl rfl rfl ⟨rfl, rfl, rfl, rfl, rfl⟩ rfl rfl rfl rfl rfl (by kernel_rfl) Try.func3 (by kernel_rfl)
    (of_decide_eq_true (by kernel_rfl)) (by unfold Func.isWrapper; first | (rw [if_pos (by decide +kernel)]; kernel_rfl) | (rw [if_neg (by decide +kernel)]; exact ⟨rfl, rfl⟩))
    (fun os started H enc _ => meters_lifted os started H enc)
end Go.Proofs.Ytjkcimeeagmmeaa
