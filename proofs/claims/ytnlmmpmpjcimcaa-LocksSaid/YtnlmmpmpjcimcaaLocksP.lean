/- Locks is proved: for every lock and all numbers, the program's Fail and Open answer as the document's reference does. No condition. -/
import Derived.Test.YtnlmmpmpjcimcaaLocks
import Derived.Test.YtnlmmpmpjcimcaaOpenLk
import Derived.Test.YtnlmmpmpjcimcaaFrame0
namespace Go.Proofs.Ytnlmmpmpjcimcaa
open Go Go.ChangeShapes Go.WideShapes Go.ChangeAt Go.RowKit Go.WideMaps Go.WideElems
open Go.ChangeMaps (open_string shut_string)

set_option maxRecDepth 100000 in
theorem locks_lifted (os : Os) (started : os.Started) (H : Type) (enc : TypeId × Value → H) :
    ReturnsInHanded {} Try.checked os 3 .any (Rows.locksSpec.pre6 enc Try.prog Try.f3 Rows.locksRow.domain false) (Rows.locksSpec.post enc Try.prog Try.f3 false true false false) := by
  refine returnsInHanded_of_change_sized (C := Try.checked) own0 started (by kernel_rfl) Try.func3
    (ChangeSpec.witness6 (enc := enc) (C := Try.checked) false ⟨#[], #[.agg #[.int .i64 0, .int .i64 0], .int .i64 0, .int .i64 0, .int .i64 0], []⟩ 8 (by kernel_rfl) (by kernel_rfl) (by kernel_rfl) (by kernel_rfl)) ?_
  intro W base args ds gs before hval0 hW _ hsz0 _
  have hsz : (DataW.weightsEach Try.prog (Try.f3.params.toList ++ Rows.locksSpec.plain.varTypes Try.prog) (ds ++ gs)).all (· ≤ reachBytes) = true := hsz0
  clear hsz0
  have hval : ∀ (j : Nat) t v, Try.f3.params[j]? = some t → args[j]? = some v → Value.okWide Try.prog W .any base t v := hval0
  have hW' := hW
  obtain ⟨p, q, hA0, hV, rfl, _, _⟩ := hW
  have hA : DataW.TrodAll enc Try.prog W 0 (fun _ => true) true Try.f3.params.toList args.toList ds p := hA0
  rw [Try.params3] at hA hval hsz
  obtain ⟨v0, v1, v2, v3, d0, d1, d2, d3, p0, p1, p2, p3, rfl, rfl, rfl, h0, h1, h2, h3⟩ := trodAll_four hA
  obtain ⟨rfl, rfl⟩ := trodVars_none hV
  obtain ⟨k, rfl⟩ := lk_open (hval 0 23 v0 rfl rfl) h0
  obtain ⟨tick, rfl, rfl, rfl, wtick⟩ := open_int Try.underlying3 (hval 1 3 v1 rfl rfl) h1
  obtain ⟨most, rfl, rfl, rfl, wmost⟩ := open_int Try.underlying3 (hval 2 3 v2 rfl rfl) h2
  obtain ⟨lockout, rfl, rfl, rfl, wlockout⟩ := open_int Try.underlying3 (hval 3 3 v3 rfl rfl) h3
  clear hA0 hval0
  obtain ⟨tick0, tick1⟩ := bounds_i64 wtick
  obtain ⟨most0, most1⟩ := bounds_i64 wmost
  obtain ⟨lockout0, lockout1⟩ := bounds_i64 wlockout
  clear hsz
  have e1 : Rows.locksSpec.fn H ([d0, .lit (.int .i64 tick), .lit (.int .i64 most), .lit (.int .i64 lockout)] ++ []) = { results := [.lit (.bool true)], args := [d0, .lit (.int .i64 tick), .lit (.int .i64 most), .lit (.int .i64 lockout)] } := by simp [Rows.locksSpec]
  refine (locks_walk k.1 k.2 tick most lockout W).mono fun e W' ⟨he, hw⟩ => ?_
  subst he
  refine ⟨_, rfl, _, _, _, [], (p0 ++ ([] ++ ([] ++ []))), [], hW', ?_, ?_, ?_, hw.frame _, fun h => by cases h⟩
  · rw [e1]; exact trodAll_mk1 (shut_bool Try.underlying4 true)
  · rw [e1]; exact trodAll_mk4 (Below.trod laidOut0 lk_read lk_row h0 hw (fun x hx => by simpa using hW'.lt x (by simp [hx]))) (shut_int Try.underlying3 wtick) (shut_int Try.underlying3 wmost) (shut_int Try.underlying3 wlockout)
  · rw [e1]; rfl

theorem locks_holds : Rows.LocksSaid :=
  OpenClaim.holds_of_wide 3 Try.f3 rfl rfl rfl rfl rfl rfl rfl ⟨rfl, rfl, rfl, rfl, rfl⟩ rfl rfl rfl rfl rfl (by kernel_rfl) Try.func3 (by kernel_rfl)
    (of_decide_eq_true (by kernel_rfl)) (by unfold Func.isWrapper; first | (rw [if_pos (by decide +kernel)]; kernel_rfl) | (rw [if_neg (by decide +kernel)]; exact ⟨rfl, rfl⟩))
    (fun os started H enc _ => locks_lifted os started H enc)
end Go.Proofs.Ytnlmmpmpjcimcaa
