/- LockSpans is proved: a full lock is shut just inside of its time, at all numbers. No condition. -/
import Derived.Test.YtnlmmpmpjcimcaaLspans
import Derived.Test.YtnlmmpmpjcimcaaFrame0
namespace Go.Proofs.Ytnlmmpmpjcimcaa
open Go Go.ChangeShapes Go.WideShapes Go.ChangeAt Go.RowKit Go.WideMaps Go.WideElems
open Go.ChangeMaps (open_string shut_string)

set_option maxRecDepth 100000 in
theorem lockSpans_lifted (os : Os) (started : os.Started) (H : Type) (enc : TypeId × Value → H) :
    ReturnsInHanded {} Try.checked os 6 .any (Rows.lockSpansSpec.pre6 enc Try.prog Try.f6 Rows.lockSpansRow.domain false) (Rows.lockSpansSpec.post enc Try.prog Try.f6 false true false false) := by
  refine returnsInHanded_of_change_sized (C := Try.checked) own0 started (by kernel_rfl) Try.func6
    (ChangeSpec.witness6 (enc := enc) (C := Try.checked) false ⟨#[], #[.int .i64 0, .int .i64 0, .int .i64 0, .int .i64 0], []⟩ 8 (by kernel_rfl) (by kernel_rfl) (by kernel_rfl) (by kernel_rfl)) ?_
  intro W base args ds gs before hval0 hW _ hsz0 _
  have hsz : (DataW.weightsEach Try.prog (Try.f6.params.toList ++ Rows.lockSpansSpec.plain.varTypes Try.prog) (ds ++ gs)).all (· ≤ reachBytes) = true := hsz0
  clear hsz0
  have hval : ∀ (j : Nat) t v, Try.f6.params[j]? = some t → args[j]? = some v → Value.okWide Try.prog W .any base t v := hval0
  have hW' := hW
  obtain ⟨p, q, hA0, hV, rfl, _, _⟩ := hW
  have hA : DataW.TrodAll enc Try.prog W 0 (fun _ => true) true Try.f6.params.toList args.toList ds p := hA0
  rw [Try.params6] at hA hval hsz
  obtain ⟨v0, v1, v2, v3, d0, d1, d2, d3, p0, p1, p2, p3, rfl, rfl, rfl, h0, h1, h2, h3⟩ := trodAll_four hA
  obtain ⟨rfl, rfl⟩ := trodVars_none hV
  obtain ⟨tick, rfl, rfl, rfl, wtick⟩ := open_int Try.underlying3 (hval 0 3 v0 rfl rfl) h0
  obtain ⟨most, rfl, rfl, rfl, wmost⟩ := open_int Try.underlying3 (hval 1 3 v1 rfl rfl) h1
  obtain ⟨lockout, rfl, rfl, rfl, wlockout⟩ := open_int Try.underlying3 (hval 2 3 v2 rfl rfl) h2
  obtain ⟨ask, rfl, rfl, rfl, wask⟩ := open_int Try.underlying3 (hval 3 3 v3 rfl rfl) h3
  clear hA0 hval0
  obtain ⟨tick0, tick1⟩ := bounds_i64 wtick
  obtain ⟨most0, most1⟩ := bounds_i64 wmost
  obtain ⟨lockout0, lockout1⟩ := bounds_i64 wlockout
  obtain ⟨ask0, ask1⟩ := bounds_i64 wask
  clear hsz
  have e1 : Rows.lockSpansSpec.fn H ([.lit (.int .i64 tick), .lit (.int .i64 most), .lit (.int .i64 lockout), .lit (.int .i64 ask)] ++ []) = { results := [.lit (.bool true)], args := [.lit (.int .i64 tick), .lit (.int .i64 most), .lit (.int .i64 lockout), .lit (.int .i64 ask)] } := by simp [Rows.lockSpansSpec]
  refine (lspans_walk tick most lockout ask W).mono fun e W' ⟨he, hw⟩ => ?_
  subst he
  refine ⟨_, rfl, _, _, _, [], ([] ++ ([] ++ ([] ++ []))), [], hW', ?_, ?_, ?_, hw.frame _, fun h => by cases h⟩
  · rw [e1]; exact trodAll_mk1 (shut_bool Try.underlying4 true)
  · rw [e1]; exact trodAll_mk4 (shut_int Try.underlying3 wtick) (shut_int Try.underlying3 wmost) (shut_int Try.underlying3 wlockout) (shut_int Try.underlying3 wask)
  · rw [e1]; rfl

theorem lockSpans_holds : Rows.LockSpansSaid :=
  OpenClaim.holds_of_wide 6 Try.f6 rfl rfl rfl rfl rfl rfl rfl ⟨rfl, rfl, rfl, rfl, rfl⟩ rfl rfl rfl rfl rfl (by kernel_rfl) Try.func6 (by kernel_rfl)
    (of_decide_eq_true (by kernel_rfl)) (by unfold Func.isWrapper; first | (rw [if_pos (by decide +kernel)]; kernel_rfl) | (rw [if_neg (by decide +kernel)]; exact ⟨rfl, rfl⟩))
    (fun os started H enc _ => lockSpans_lifted os started H enc)
end Go.Proofs.Ytnlmmpmpjcimcaa
