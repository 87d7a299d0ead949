/- MeterLater is proved: what is over once is over at each later tick, for the same limits or lesser ones. No condition. -/
import Derived.Test.YtjkcimeeagmmeaaMlater
import Derived.Test.YtjkcimeeagmmeaaMep
import Derived.Test.YtjkcimeeagmmeaaOpenMe
import Derived.Test.YtjkcimeeagmmeaaFrame0
namespace Go.Proofs.Ytjkcimeeagmmeaa
open Go Go.ChangeShapes Go.WideShapes Go.ChangeAt Go.RowKit Go.WideMaps Go.WideElems
open Go.ChangeMaps (open_string shut_string)

set_option maxRecDepth 100000 in
theorem meterLater_lifted (os : Os) (started : os.Started) (H : Type) (enc : TypeId × Value → H) :
    ReturnsInHanded {} Try.checked os 6 .any (Rows.meterLaterSpec.pre6 enc Try.prog Try.f6 Rows.meterLaterRow.domain false) (Rows.meterLaterSpec.post enc Try.prog Try.f6 false true false false) := by
  refine returnsInHanded_of_change_sized (C := Try.checked) own0 started (by kernel_rfl) Try.func6
    (ChangeSpec.witness6 (enc := enc) (C := Try.checked) false ⟨#[], #[.agg #[.int .i64 0, .int .i64 0, .int .i64 0], .int .i64 0, .int .i64 0, .int .i64 0, .int .i64 0], []⟩ 8 (by kernel_rfl) (by kernel_rfl) (by kernel_rfl) (by kernel_rfl)) ?_
  intro W base args ds gs before hval0 hW _ hsz0 _
  have hsz : (DataW.weightsEach Try.prog (Try.f6.params.toList ++ Rows.meterLaterSpec.plain.varTypes Try.prog) (ds ++ gs)).all (· ≤ reachBytes) = true := hsz0
  clear hsz0
  have hval : ∀ (j : Nat) t v, Try.f6.params[j]? = some t → args[j]? = some v → Value.okWide Try.prog W .any base t v := hval0
  have hW' := hW
  obtain ⟨p, q, hA0, hV, rfl, _, _⟩ := hW
  have hA : DataW.TrodAll enc Try.prog W 0 (fun _ => true) true Try.f6.params.toList args.toList ds p := hA0
  rw [Try.params6] at hA hval hsz
  obtain ⟨v0, v1, v2, v3, v4, d0, d1, d2, d3, d4, p0, p1, p2, p3, p4, rfl, rfl, rfl, h0, h1, h2, h3, h4⟩ := trodAll_five hA
  obtain ⟨rfl, rfl⟩ := trodVars_none hV
  obtain ⟨mv, rfl⟩ := me_open (hval 0 23 v0 rfl rfl) h0
  obtain ⟨t, rfl, rfl, rfl, wt⟩ := open_int Try.underlying3 (hval 1 3 v1 rfl rfl) h1
  obtain ⟨more, rfl, rfl, rfl, wmore⟩ := open_int Try.underlying3 (hval 2 3 v2 rfl rfl) h2
  obtain ⟨idle, rfl, rfl, rfl, widle⟩ := open_int Try.underlying3 (hval 3 3 v3 rfl rfl) h3
  obtain ⟨abs, rfl, rfl, rfl, wabs⟩ := open_int Try.underlying3 (hval 4 3 v4 rfl rfl) h4
  clear hA0 hval0
  obtain ⟨t0, t1⟩ := bounds_i64 wt
  obtain ⟨more0, more1⟩ := bounds_i64 wmore
  obtain ⟨idle0, idle1⟩ := bounds_i64 widle
  obtain ⟨abs0, abs1⟩ := bounds_i64 wabs
  clear hsz
  have e1 : Rows.meterLaterSpec.fn H ([d0, .lit (.int .i64 t), .lit (.int .i64 more), .lit (.int .i64 idle), .lit (.int .i64 abs)] ++ []) = { results := [.lit (.bool true)], args := [d0, .lit (.int .i64 t), .lit (.int .i64 more), .lit (.int .i64 idle), .lit (.int .i64 abs)] } := by simp [Rows.meterLaterSpec]
  refine (mlater_walk metersOk mv.1 mv.2.1 mv.2.2 t more idle abs W).mono fun e W' ⟨he, hw⟩ => ?_
  subst he
  refine ⟨_, rfl, _, _, _, [], (p0 ++ ([] ++ ([] ++ ([] ++ [])))), [], hW', ?_, ?_, ?_, hw.frame _, fun h => by cases h⟩
  · rw [e1]; exact trodAll_mk1 (shut_bool Try.underlying4 true)
  · rw [e1]; exact trodAll_mk5 (Below.trod laidOut0 me_read me_row h0 hw (fun x hx => by simpa using hW'.lt x (by simp [hx]))) (shut_int Try.underlying3 wt) (shut_int Try.underlying3 wmore) (shut_int Try.underlying3 widle) (shut_int Try.underlying3 wabs)
  · rw [e1]; rfl

theorem meterLater_holds : Rows.MeterLaterSaid :=
  OpenClaim.holds_of_wide 6 Try.f6 rfl rfl rfl rfl rfl rfl rfl ⟨rfl, rfl, rfl, rfl, rfl⟩ rfl rfl rfl rfl rfl (by kernel_rfl) Try.func6 (by kernel_rfl)
    (of_decide_eq_true (by kernel_rfl)) (by unfold Func.isWrapper; first | (rw [if_pos (by decide +kernel)]; kernel_rfl) | (rw [if_neg (by decide +kernel)]; exact ⟨rfl, rfl⟩))
    (fun os started H enc _ => meterLater_lifted os started H enc)
end Go.Proofs.Ytjkcimeeagmmeaa
