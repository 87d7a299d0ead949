/- The reference's calls over a lock: each answers as the plain words do. No condition but the numbers' bounds. -/
import Derived.Test.YtnlmmpmpjcimcaaLkp
namespace Go.Proofs.Ytnlmmpmpjcimcaa
open Go Go.RowKit

theorem rtick (x : Int) (r : Bool) (h : r = decide (0 ≤ x ∧ x ≤ 1048575)) (w : World) : Calls Try.prog 16 #[.int .i64 x] w fun e w' => e = .returned (.bool r) ∧ w = w' := by
  subst h
  go_enter Try.func16, Try.ntmps16
  go_wp2
  all_goals (go_ret; refine ⟨?_, rfl⟩; congr 2; simp [*] <;> omega)
theorem ropen (f u t : Int) (r : Bool) (h : r = decide (u ≤ t)) (w : World) : Calls Try.prog 11 #[.agg #[.int .i64 f, .int .i64 u], .int .i64 t] w fun e w' => e = .returned (.bool r) ∧ Below w.heap.size w w' := by
  subst h
  go_enter Try.func11, Try.ntmps11
  go_wp2
  go_ret
  refine ⟨?_, (Below.refl _ _).alloc (Nat.le_refl _) _⟩
  congr 2
set_option maxRecDepth 100000 in
set_option maxHeartbeats 4000000 in
theorem rfail_yes (f u t m o c v : Int) (h : lkOk f u t m o) (hc : c = lkC f m) (hv : v = if c = m then t + o else u) (w : World) : Calls Try.prog 8 #[.agg #[.int .i64 f, .int .i64 u], .int .i64 t, .int .i64 m, .int .i64 o] w fun e w' => e = .returned (.tuple #[.agg #[.int .i64 c, .int .i64 v], .int .i64 0]) ∧ Below w.heap.size w w' := by
  obtain ⟨⟨f0, f1⟩, ⟨u0, u1⟩, ⟨t0, t1⟩, ⟨m0, m1⟩, ⟨o0, o1⟩, hut⟩ := h
  go_enter Try.func8, Try.ntmps8
  go_wp2_with (first
    | (go_at_call 16; (with_reducible refine (rtick _ true (by simp; omega) _).mono ?_); rintro e w1 ⟨rfl, rfl⟩)
    | (go_at_call 11; (with_reducible refine (ropen _ _ _ true (by simp; omega) _).mono ?_); rintro e w1 ⟨rfl, hb⟩; obtain ⟨ka, kr, hB⟩ := lk_two hb; clear hb; have ea := ka.cell; have ga := ka.froz; have la := ka.lt; have er := kr.cell; have gr := kr.froz; have lr := kr.lt))
  · rename_i h1 hq
    have hc1 : c = 1 := by (rw [hc]; unfold lkC; split <;> omega)
    subst hc1
    clear hc
    refine bodyPost_ret (v := .tuple #[.agg #[.int .i64 1, .int .i64 (t + o)], .int .i64 0]) (by simp [*, results, Try.results8, go_sem]) rfl ⟨by rw [hv, if_pos (by simpa using hq)], ?_⟩
    repeat (with_reducible refine Below.setCell ?_ (by simp) _)
    exact hB
  · rename_i h1 hq
    have hc1 : c = 1 := by (rw [hc]; unfold lkC; split <;> omega)
    subst hc1
    clear hc
    refine bodyPost_ret (v := .tuple #[.agg #[.int .i64 1, .int .i64 u], .int .i64 0]) (by simp [*, results, Try.results8, go_sem]) rfl ⟨by rw [hv, if_neg (by simpa using hq)], ?_⟩
    repeat (with_reducible refine Below.setCell ?_ (by simp) _)
    exact hB
  · rename_i h1 hq
    have hc1 : c = (f + 1) := by (rw [hc]; unfold lkC; split <;> omega)
    subst hc1
    clear hc
    refine bodyPost_ret (v := .tuple #[.agg #[.int .i64 (f + 1), .int .i64 (t + o)], .int .i64 0]) (by simp [*, results, Try.results8, go_sem]) rfl ⟨by rw [hv, if_pos (by simpa using hq)], ?_⟩
    repeat (with_reducible refine Below.setCell ?_ (by simp) _)
    exact hB
  · rename_i h1 hq
    have hc1 : c = (f + 1) := by (rw [hc]; unfold lkC; split <;> omega)
    subst hc1
    clear hc
    refine bodyPost_ret (v := .tuple #[.agg #[.int .i64 (f + 1), .int .i64 u], .int .i64 0]) (by simp [*, results, Try.results8, go_sem]) rfl ⟨by rw [hv, if_neg (by simpa using hq)], ?_⟩
    repeat (with_reducible refine Below.setCell ?_ (by simp) _)
    exact hB
set_option maxRecDepth 100000 in
set_option maxHeartbeats 4000000 in
theorem rfail_no (f u t m o : Int) (h : ¬ lkOk f u t m o) (w : World) : Calls Try.prog 8 #[.agg #[.int .i64 f, .int .i64 u], .int .i64 t, .int .i64 m, .int .i64 o] w fun e w' => e = .returned (.tuple #[.agg #[.int .i64 0, .int .i64 0], .int .i64 1300]) ∧ Below w.heap.size w w' := by
  unfold lkOk at h
  go_enter Try.func8, Try.ntmps8
  go_wp2_with (first
    | (go_at_call 16; (with_reducible refine (rtick _ _ rfl _).mono ?_); rintro e w1 ⟨rfl, rfl⟩)
    | (go_at_call 11; (with_reducible refine (ropen _ _ _ false (by simp at *; omega) _).mono ?_); rintro e w1 ⟨rfl, hb⟩; obtain ⟨ka, kr, hB⟩ := lk_two hb; clear hb; have ea := ka.cell; have ga := ka.froz; have la := ka.lt; have er := kr.cell; have gr := kr.froz; have lr := kr.lt))
  all_goals (refine bodyPost_ret (v := .tuple #[.agg #[.int .i64 0, .int .i64 0], .int .i64 1300]) (by simp [*, results, Try.results8, go_sem]) rfl ⟨rfl, ?_⟩)
  all_goals (repeat (with_reducible refine Below.setCell ?_ (by simp) _))
  all_goals first | exact hB | exact ((Below.refl _ _).alloc (Nat.le_refl _) _).alloc (by simp) _
theorem rfail (f u t m o : Int) (w : World) : Calls Try.prog 8 #[.agg #[.int .i64 f, .int .i64 u], .int .i64 t, .int .i64 m, .int .i64 o] w fun e w' => e = .returned (.tuple #[.agg #[.int .i64 (lkF f u t m o), .int .i64 (lkU f u t m o)], .int .i64 (lkE f u t m o)]) ∧ Below w.heap.size w w' := by
  by_cases h : lkOk f u t m o
  · obtain ⟨a, b, c⟩ := lk_yes h
    rw [a, b, c]; exact rfail_yes f u t m o _ _ h rfl rfl w
  · obtain ⟨a, b, c⟩ := lk_no h
    rw [a, b, c]; exact rfail_no f u t m o h w
end Go.Proofs.Ytnlmmpmpjcimcaa
