/- StateParts is proved: a row of events is its beginning, and the rest. No condition. -/
import Derived.Test.YtopkcaflmpjhgaaSparts
import Derived.Test.YtopkcaflmpjhgaaBtj
import Derived.Test.YtopkcaflmpjhgaaOpenSt
import Derived.Test.YtopkcaflmpjhgaaBfr
namespace Go.Proofs.Ytopkcaflmpjhgaa
open Go Go.ChangeShapes Go.WideShapes Go.ChangeAt Go.RowKit Go.WideMaps Go.WideElems
open Go.ChangeMaps (open_string shut_string)

set_option maxRecDepth 100000 in
theorem stateParts_lifted (os : Os) (started : os.Started) (H : Type) (enc : TypeId × Value → H) :
    ReturnsInHanded {} Try.checked os 3 .any (Rows.statePartsSpec.pre6 enc Try.prog Try.f3 Rows.statePartsRow.domain false) (Rows.statePartsSpec.post enc Try.prog Try.f3 false true false false) := by
  refine returnsInHanded_of_change_sized (C := Try.checked) own0 started (by kernel_rfl) Try.func3
    (ChangeSpec.witness6 (enc := enc) (C := Try.checked) false ⟨#[], #[.agg #[.int .i64 0, .int .i64 0, .int .i64 0, .int .i64 0, .int .i64 0, .int .i64 0, .int .i64 0, .int .i64 0, .int .i64 0, .int .i64 0, .int .i64 0, .int .i64 0], .slice none 0 0, .int .i64 0], []⟩ 8 (by kernel_rfl) (by kernel_rfl) (by kernel_rfl) (by kernel_rfl)) ?_
  intro W base args ds gs before hval0 hW _ hsz0 _
  have hsz : (DataW.weightsEach Try.prog (Try.f3.params.toList ++ Rows.statePartsSpec.plain.varTypes Try.prog) (ds ++ gs)).all (· ≤ reachBytes) = true := hsz0
  clear hsz0
  have hval : ∀ (j : Nat) t v, Try.f3.params[j]? = some t → args[j]? = some v → Value.okWide Try.prog W .any base t v := hval0
  have hW' := hW
  obtain ⟨p, q, hA0, hV, rfl, _, _⟩ := hW
  have hA : DataW.TrodAll enc Try.prog W 0 (fun _ => true) true Try.f3.params.toList args.toList ds p := hA0
  rw [Try.params3] at hA hval hsz
  obtain ⟨v0, v1, v2, d0, d1, d2, p0, p1, p2, rfl, rfl, rfl, h0, h1, h2⟩ := trodAll_three hA
  obtain ⟨rfl, rfl⟩ := trodVars_none hV
  obtain ⟨c, rfl⟩ := cf_open (hval 0 23 v0 rfl rfl) h0
  obtain ⟨esa, eslen, escap, rfl⟩ := okWide_slice Try.underlying24 (hval 1 24 v1 rfl rfl)
  obtain ⟨cut, rfl, rfl, rfl, wcut⟩ := open_int Try.underlying3 (hval 2 3 v2 rfl rfl) h2
  clear hA0 hval0
  obtain ⟨es, esl, ra_es⟩ := ev_arg h1 (fun elems spare hd => (rows_sized hsz (j := 1) (t := 24) (e := 40) rfl (by rw [← hd]; rfl) Try.underlying24).1)
  subst esl
  obtain ⟨cut0, cut1⟩ := bounds_i64 wcut
  have e1 : Rows.statePartsSpec.fn H ([d0, d1, .lit (.int .i64 cut)] ++ []) = { results := [.lit (.bool true)], args := [d0, d1, .lit (.int .i64 cut)] } := by simp [Rows.statePartsSpec]
  refine (stparts statesOk c ra_es.1 (by have := ra_es.2.2.1; omega) ra_es.2.2.2.1 cut).mono fun e W' ⟨he, hw⟩ => ?_
  subst he
  refine ⟨_, rfl, _, _, _, [], (p0 ++ (p1 ++ [])), [], hW', ?_, ?_, ?_, hw.frame _, fun h => by cases h⟩
  · rw [e1]; exact trodAll_mk1 (shut_bool Try.underlying4 true)
  · rw [e1]; exact trodAll_mk3 (Below.trod laidOut0 cf_read cf_row h0 hw (fun x hx => by simpa using hW'.lt x (by simp [hx]))) (Below.trod laidOut0 evR_read evR_row h1 hw (fun x hx => by simpa using hW'.lt x (by simp [hx]))) (shut_int Try.underlying3 wcut)
  · rw [e1]; rfl

theorem stateParts_holds : Rows.StatePartsSaid :=
  OpenClaim.holds_of_wide 3 Try.f3 rfl rfl rfl rfl rfl rfl rfl ⟨rfl, rfl, rfl, rfl, rfl⟩ rfl rfl rfl rfl rfl (by kernel_rfl) Try.func3 (by kernel_rfl)
    (of_decide_eq_true (by kernel_rfl)) (by unfold Func.isWrapper; first | (rw [if_pos (by decide +kernel)]; kernel_rfl) | (rw [if_neg (by decide +kernel)]; exact ⟨rfl, rfl⟩))
    (fun os started H enc _ => stateParts_lifted os started H enc)
end Go.Proofs.Ytopkcaflmpjhgaa
