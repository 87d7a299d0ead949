/- States is proved: for every config, state and row of events. No condition. -/
import Derived.Test.YtopkcaflmpjhgaaGreatSstates
import Derived.Test.YtopkcaflmpjhgaaGreatBtj
import Derived.Test.YtopkcaflmpjhgaaGreatOpenSt
import Derived.Test.YtopkcaflmpjhgaaGreatBfr
namespace Go.Proofs.YtopkcaflmpjhgaaGreat
open Go Go.ChangeShapes Go.WideShapes Go.ChangeAt Go.RowKit Go.WideMaps Go.WideElems
open Go.ChangeMaps (open_string shut_string)

set_option maxRecDepth 100000 in
theorem states_lifted (os : Os) (started : os.Started) (H : Type) (enc : TypeId × Value → H) :
    ReturnsInHanded {} Tryz.checked os 3 .any (Rows.statesSpec.pre6 enc Tryz.prog Tryz.f3 Rows.statesRow.domain false) (Rows.statesSpec.post enc Tryz.prog Tryz.f3 false true false false) := by
  refine returnsInHanded_of_change_sized (C := Tryz.checked) own0 started (by kernel_rfl) Tryz.func3
    (ChangeSpec.witness6 (enc := enc) (C := Tryz.checked) false ⟨#[], #[.agg #[.int .i64 0, .int .i64 0, .int .i64 0, .int .i64 0, .int .i64 0, .int .i64 0, .int .i64 0, .int .i64 0, .int .i64 0, .int .i64 0, .int .i64 0, .int .i64 0], .agg #[.int .i64 0, .int .i64 0, .int .i64 0, .slice none 0 0, .slice none 0 0, .slice none 0 0, .slice none 0 0], .slice none 0 0, .int .i64 0], []⟩ 8 (by kernel_rfl) (by kernel_rfl) (by kernel_rfl) (by kernel_rfl)) ?_
  intro W base args ds gs before hval0 hW _ hsz0 _
  have hsz : (DataW.weightsEach Tryz.prog (Tryz.f3.params.toList ++ Rows.statesSpec.plain.varTypes Tryz.prog) (ds ++ gs)).all (· ≤ reachBytes) = true := hsz0
  clear hsz0
  have hval : ∀ (j : Nat) t v, Tryz.f3.params[j]? = some t → args[j]? = some v → Value.okWide Tryz.prog W .any base t v := hval0
  have hW' := hW
  obtain ⟨p, q, hA0, hV, rfl, _, _⟩ := hW
  have hA : DataW.TrodAll enc Tryz.prog W 0 (fun _ => true) true Tryz.f3.params.toList args.toList ds p := hA0
  rw [Tryz.params3] at hA hval hsz
  obtain ⟨v0, v1, v2, v3, d0, d1, d2, d3, p0, p1, p2, p3, rfl, rfl, rfl, h0, h1, h2, h3⟩ := trodAll_four hA
  obtain ⟨rfl, rfl⟩ := trodVars_none hV
  obtain ⟨c, rfl⟩ := cf_open (hval 0 23 v0 rfl rfl) h0
  obtain ⟨sh, s, rfl, si_s, sm_s⟩ := st_open (hval 1 29 v1 rfl rfl) h1 (arg_sized hsz (j := 1) rfl rfl)
  obtain ⟨esa, eslen, escap, rfl⟩ := okWide_slice Tryz.underlying30 (hval 2 30 v2 rfl rfl)
  obtain ⟨m, rfl, rfl, rfl, wm⟩ := open_int Tryz.underlying3 (hval 3 3 v3 rfl rfl) h3
  clear hA0 hval0
  obtain ⟨es, esl, ra_es⟩ := ev_arg h2 (fun elems spare hd => (rows_sized hsz (j := 2) (t := 30) (e := 45) rfl (by rw [← hd]; rfl) Tryz.underlying30).1)
  subst esl
  obtain ⟨m0, m1⟩ := bounds_i64 wm
  have e1 : Rows.statesSpec.fn H ([d0, d1, d2, .lit (.int .i64 m)] ++ []) = { results := [.lit (.bool true)], args := [d0, d1, d2, .lit (.int .i64 m)] } := by simp [Rows.statesSpec]
  refine (ststates statesOk c s si_s sm_s ra_es.1 ra_es.2.1 (by have := ra_es.2.2.1; omega) m).mono fun e W' ⟨he, hw⟩ => ?_
  subst he
  refine ⟨_, rfl, _, _, _, [], (p0 ++ (p1 ++ (p2 ++ []))), [], hW', ?_, ?_, ?_, hw.frame _, fun h => by cases h⟩
  · rw [e1]; exact trodAll_mk1 (shut_bool Tryz.underlying4 true)
  · rw [e1]; exact trodAll_mk4 (Below.trod laidOut0 cf_read cf_row h0 hw (fun x hx => by simpa using hW'.lt x (by simp [hx]))) (Below.trod laidOut0 st_read st_row h1 hw (fun x hx => by simpa using hW'.lt x (by simp [hx]))) (Below.trod laidOut0 evR_read evR_row h2 hw (fun x hx => by simpa using hW'.lt x (by simp [hx]))) (shut_int Tryz.underlying3 wm)
  · rw [e1]; rfl

theorem states_holds : Rows.StatesSaid :=
  OpenClaim.holds_of_wide 3 Tryz.f3 rfl rfl rfl rfl rfl rfl rfl ⟨rfl, rfl, rfl, rfl, rfl⟩ rfl rfl rfl rfl rfl (by kernel_rfl) Tryz.func3 (by kernel_rfl)
    (of_decide_eq_true (by kernel_rfl)) (by unfold Func.isWrapper; first | (rw [if_pos (by decide +kernel)]; kernel_rfl) | (rw [if_neg (by decide +kernel)]; exact ⟨rfl, rfl⟩))
    (fun os started H enc _ => states_lifted os started H enc)
end Go.Proofs.YtopkcaflmpjhgaaGreat
