/- Halves is proved: over any row and any numbers the calls answer as the document, and the row stays. No condition. -/
import Derived.Test.YtikdnmbbiipbjaaHalves
import Derived.Test.YtikdnmbbiipbjaaHap
import Derived.Test.YtikdnmbbiipbjaaOpenHa
import Derived.Test.YtikdnmbbiipbjaaFrameI
import Derived.Test.YtikdnmbbiipbjaaFrame0
namespace Go.Proofs.Ytikdnmbbiipbjaa
open Go Go.ChangeShapes Go.WideShapes Go.ChangeAt Go.RowKit Go.WideMaps Go.WideElems
open Go.ChangeMaps (open_string shut_string)

set_option maxRecDepth 100000 in
theorem halves_lifted (os : Os) (started : os.Started) (H : Type) (enc : TypeId × Value → H) :
    ReturnsInHanded {} Try.checked os 3 .any (Rows.halvesSpec.pre6 enc Try.prog Try.f3 Rows.halvesRow.domain false) (Rows.halvesSpec.post enc Try.prog Try.f3 false true false false) := by
  refine returnsInHanded_of_change_sized (C := Try.checked) own0 started (by kernel_rfl) Try.func3
    (ChangeSpec.witness6 (enc := enc) (C := Try.checked) false ⟨#[], #[.slice none 0 0, .agg #[.int .i64 0, .int .i64 0, .int .i64 0, .int .i64 0, .int .i64 0], .int .i64 0, .int .i64 0, .int .i64 0], []⟩ 8 (by kernel_rfl) (by kernel_rfl) (by kernel_rfl) (by kernel_rfl)) ?_
  intro W base args ds gs before hval0 hW _ hsz0 _
  have hsz : (DataW.weightsEach Try.prog (Try.f3.params.toList ++ Rows.halvesSpec.plain.varTypes Try.prog) (ds ++ gs)).all (· ≤ reachBytes) = true := hsz0
  clear hsz0
  have hval : ∀ (j : Nat) t v, Try.f3.params[j]? = some t → args[j]? = some v → Value.okWide Try.prog W .any base t v := hval0
  have hW' := hW
  obtain ⟨p, q, hA0, hV, rfl, _, _⟩ := hW
  have hA : DataW.TrodAll enc Try.prog W 0 (fun _ => true) true Try.f3.params.toList args.toList ds p := hA0
  rw [Try.params3] at hA hval hsz
  obtain ⟨v0, v1, v2, v3, v4, d0, d1, d2, d3, d4, p0, p1, p2, p3, p4, rfl, rfl, rfl, h0, h1, h2, h3, h4⟩ := trodAll_five hA
  obtain ⟨rfl, rfl⟩ := trodVars_none hV
  obtain ⟨esa, eslen, escap, rfl⟩ := okWide_slice Try.underlying22 (hval 0 22 v0 rfl rfl)
  obtain ⟨hv, rfl⟩ := ha_open (hval 1 24 v1 rfl rfl) h1
  obtain ⟨m, rfl, rfl, rfl, wm⟩ := open_int Try.underlying3 (hval 2 3 v2 rfl rfl) h2
  obtain ⟨t, rfl, rfl, rfl, wt⟩ := open_int Try.underlying3 (hval 3 3 v3 rfl rfl) h3
  obtain ⟨x, rfl, rfl, rfl, wx⟩ := open_int Try.underlying3 (hval 4 3 v4 rfl rfl) h4
  clear hA0 hval0
  obtain ⟨es, esl, ra_es⟩ := half_arg h0 (fun elems spare hd => rows_sized hsz (j := 0) (t := 22) (e := 24) rfl (by rw [← hd]; rfl) Try.underlying22)
  subst esl
  obtain ⟨m0, m1⟩ := bounds_i64 wm
  obtain ⟨t0, t1⟩ := bounds_i64 wt
  obtain ⟨x0, x1⟩ := bounds_i64 wx
  have e1 : Rows.halvesSpec.fn H ([d0, d1, .lit (.int .i64 m), .lit (.int .i64 t), .lit (.int .i64 x)] ++ []) = { results := [.lit (.bool true)], args := [d0, d1, .lit (.int .i64 m), .lit (.int .i64 t), .lit (.int .i64 x)] } := by simp [Rows.halvesSpec]
  refine (halves_walk halvesOk ra_es.1 ra_es.2.1 ra_es.2.2 hv.h hv.u hv.c hv.s hv.t m t x).mono fun e W' ⟨he, hw⟩ => ?_
  subst he
  refine ⟨_, rfl, _, _, _, [], (p0 ++ (p1 ++ ([] ++ ([] ++ [])))), [], hW', ?_, ?_, ?_, hw.frame _, fun h => by cases h⟩
  · rw [e1]; exact trodAll_mk1 (shut_bool Try.underlying4 true)
  · rw [e1]; exact trodAll_mk5 (Below.trod laidOut0 half_read half_row h0 hw (fun x hx => by simpa using hW'.lt x (by simp [hx]))) (Below.trod laidOut0 ha_read ha_row h1 hw (fun x hx => by simpa using hW'.lt x (by simp [hx]))) (shut_int Try.underlying3 wm) (shut_int Try.underlying3 wt) (shut_int Try.underlying3 wx)
  · rw [e1]; rfl

theorem halves_holds : Rows.HalvesSaid :=
  OpenClaim.holds_of_wide 3 Try.f3 rfl rfl rfl rfl rfl rfl rfl ⟨rfl, rfl, rfl, rfl, rfl⟩ rfl rfl rfl rfl rfl (by kernel_rfl) Try.func3 (by kernel_rfl)
    (of_decide_eq_true (by kernel_rfl)) (by unfold Func.isWrapper; first | (rw [if_pos (by decide +kernel)]; kernel_rfl) | (rw [if_neg (by decide +kernel)]; exact ⟨rfl, rfl⟩))
    (fun os started H enc _ => halves_lifted os started H enc)
end Go.Proofs.Ytikdnmbbiipbjaa
