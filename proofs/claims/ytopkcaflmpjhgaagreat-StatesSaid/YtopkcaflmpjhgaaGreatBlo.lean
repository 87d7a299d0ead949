/- Put together: Lkp, Lkr. Conditions: each theorem's own. -/
import Derived.Test.YtopkcaflmpjhgaaGreatProg
import Derived.Test.YtopkcaflmpjhgaaGreatBsp
import Derived.Test.YtopkcaflmpjhgaaGreatBpl
import Derived.Lib.Hide
namespace Go.Proofs.YtopkcaflmpjhgaaGreat
open Go Go.RowKit

theorem kwithin (x a b : Int) (r : Bool) (h : r = decide (a ≤ x ∧ x ≤ b)) (w : World) : Calls Tryz.prog 101 #[.int .i64 x, .int .i64 a, .int .i64 b] w fun e w' => e = .returned (.bool r) ∧ w = w' := by
  subst h
  go_enter Tryz.func101, Tryz.ntmps101
  go_wp2
  all_goals (go_ret; refine ⟨?_, rfl⟩; congr 2; simp [*] <;> omega)
theorem kopen (f u t : Int) (r : Bool) (h : r = decide (u ≤ t)) (w : World) : Calls Tryz.prog 102 #[.agg #[.int .i64 f, .int .i64 u], .int .i64 t] w fun e w' => e = .returned (.bool r) ∧ Below w.heap.size w w' := by
  subst h
  go_enter Tryz.func102, Tryz.ntmps102
  go_wp2
  go_ret
  refine ⟨?_, (Below.refl _ _).alloc (Nat.le_refl _) _⟩
  congr 2
theorem kcount (f m r : Int) (f1 : f ≤ 8) (h : r = lkC f m) (f0 : 0 ≤ f) (w : World) : Calls Tryz.prog 103 #[.int .i64 f, .int .i64 m] w fun e w' => e = .returned (.int .i64 r) ∧ w = w' := by
  subst h
  go_enter Tryz.func103, Tryz.ntmps103
  go_wp2
  all_goals (go_ret; refine ⟨?_, rfl⟩; simp [lkC, *] <;> omega)
theorem kmay (f u : Int) (r : Bool) (h : r = decide ((0 ≤ f ∧ f ≤ 8) ∧ (0 ≤ u ∧ u ≤ 1114111))) (w : World) : Calls Tryz.prog 100 #[.agg #[.int .i64 f, .int .i64 u]] w fun e w' => e = .returned (.bool r) ∧ Below w.heap.size w w' := by
  subst h
  go_enter Tryz.func100, Tryz.ntmps100
  go_wp2_with (first
    | (go_at_call 101; (with_reducible refine (kwithin _ _ _ _ rfl _).mono ?_); rintro e w1 ⟨rfl, rfl⟩))
  all_goals (go_ret; refine ⟨?_, (Below.refl _ _).alloc (Nat.le_refl _) _⟩; simp [*])

theorem lk_two {w w1 : World} {A B : Array Value} {tA tB : TypeId} (hb : Below ((w.alloc (.cells A tA)).alloc (.cells B tB)).heap.size ((w.alloc (.cells A tA)).alloc (.cells B tB)) w1) :
    Blk w1 w.heap.size A ∧ Blk w1 (w.heap.size + 1) B ∧ Below w.heap.size w w1 :=
  ⟨((Blk.new w A tA).alloc _).step hb, (Blk.new' (w.alloc (.cells A tA)) _ (by simp) B tB).step hb, (((Below.refl _ _).alloc (Nat.le_refl _) _).alloc (by simp) _).trans (hb.mono (by simp; omega))⟩
theorem Blk.setIf {W : World} {b : Nat} {c : Array Value} (h : Blk W b c) (i : Nat) (v : Value) (hi : i < c.size) : Blk (W.setCell ⟨b, i, none⟩ v) b (c.set! i v) := by
  have h0 : W.cell? ⟨b, i, none⟩ = some c[i] := by rw [h.cell]; simp [hi]
  refine ⟨fun j => ?_, fun j => (World.frozen?_setCell _ _ _ _).trans (h.froz j), by simpa using h.lt⟩
  by_cases e : j = i
  · subst e
    rw [World.cell?_setCell_same _ _ _ h0]; simp [hi]
  · have hn : (⟨b, i, none⟩ : Addr) ≠ ⟨b, j, none⟩ := fun c => e (by cases c; rfl)
    rw [World.cell?_setCell_other _ _ _ _ (by first | exact hn | exact hn.symm), h.cell]
    simp [Ne.symm e]

set_option maxRecDepth 100000 in
set_option maxHeartbeats 4000000 in
theorem kfail_no (f u t m o : Int) (h : ¬ lkOk f u t m o) (w : World) : Calls Tryz.prog 86 #[.agg #[.int .i64 f, .int .i64 u], .int .i64 t, .int .i64 m, .int .i64 o] w fun e w' => e = .returned (.tuple #[.agg #[.int .i64 0, .int .i64 0], .int .i64 1300]) ∧ Below w.heap.size w w' := by
  unfold lkOk at h
  go_enter Tryz.func86, Tryz.ntmps86
  go_wp2_with (first
    | (go_at_call 100; (with_reducible refine (kmay _ _ _ rfl _).mono ?_); rintro e w1 ⟨rfl, hb⟩; obtain ⟨ka, kr, hB⟩ := lk_two hb; clear hb; have ea := ka.cell; have ga := ka.froz; have la := ka.lt; have er := kr.cell; have gr := kr.froz; have lr := kr.lt)
    | (go_at_call 101; (with_reducible refine (kwithin _ _ _ _ rfl _).mono ?_); rintro e w1 ⟨rfl, rfl⟩)
    | (go_at_call 102; (with_reducible refine (kopen _ _ _ false (by simp at *; omega) _).mono ?_); rintro e w2 ⟨rfl, hb⟩; replace ka := ka.step hb; replace kr := kr.step hb; replace hB := hB.trans (hb.mono hB.size); clear hb; have ea := ka.cell; have ga := ka.froz; have la := ka.lt; have er := kr.cell; have gr := kr.froz; have lr := kr.lt))
  all_goals (refine bodyPost_ret (v := .tuple #[.agg #[.int .i64 0, .int .i64 0], .int .i64 1300]) (by simp [*, results, Tryz.results86, go_sem]) rfl ?_)
  all_goals exact ⟨rfl, (hB.setCell (by simp) _).setCell (by simp) _⟩

set_option maxRecDepth 100000 in
set_option maxHeartbeats 4000000 in
theorem kfail_yes (f u t m o c v : Int) (h : lkOk f u t m o) (hc : c = lkC f m) (hv : v = if c = m then t + o else u) (w : World) : Calls Tryz.prog 86 #[.agg #[.int .i64 f, .int .i64 u], .int .i64 t, .int .i64 m, .int .i64 o] w fun e w' => e = .returned (.tuple #[.agg #[.int .i64 c, .int .i64 v], .int .i64 0]) ∧ Below w.heap.size w w' := by
  obtain ⟨⟨f0, f1⟩, ⟨u0, u1⟩, ⟨t0, t1⟩, ⟨m0, m1⟩, ⟨o0, o1⟩, hut⟩ := h
  have H := Lib.hid (kcount f m c f1 hc f0)
  obtain ⟨c0, c1⟩ := lkC_bd (m := m) f0 m0
  rw [← hc] at c0 c1
  clear hc
  go_enter Tryz.func86, Tryz.ntmps86
  go_wp2_with (first
    | (go_at_call 100; (with_reducible refine (kmay _ _ true (by simp; omega) _).mono ?_); rintro e w1 ⟨rfl, hb⟩; obtain ⟨ka, kr, hB⟩ := lk_two hb; clear hb; have ea := ka.cell; have ga := ka.froz; have la := ka.lt; have er := kr.cell; have gr := kr.froz; have lr := kr.lt)
    | (go_at_call 101; (with_reducible refine (kwithin _ _ _ true (by simp; omega) _).mono ?_); rintro e w1 ⟨rfl, rfl⟩)
    | (go_at_call 102; (with_reducible refine (kopen _ _ _ true (by simp; omega) _).mono ?_); rintro e w2 ⟨rfl, hb⟩; replace ka := ka.step hb; replace kr := kr.step hb; replace hB := hB.trans (hb.mono hB.size); clear hb; have ea := ka.cell; have ga := ka.froz; have la := ka.lt; have er := kr.cell; have gr := kr.froz; have lr := kr.lt)
    | (go_at_call 103; (with_reducible refine (H.out _).mono ?_); rintro e w3 ⟨rfl, rfl⟩))
  all_goals rename_i hq
  all_goals first
    | (refine bodyPost_ret (v := .tuple #[.agg #[.int .i64 c, .int .i64 (t + o)], .int .i64 0]) (by simp [*, results, Tryz.results86, go_sem]) rfl ⟨by rw [hv, if_pos (by simpa using hq)], ?_⟩)
    | (refine bodyPost_ret (v := .tuple #[.agg #[.int .i64 c, .int .i64 u], .int .i64 0]) (by simp [*, results, Tryz.results86, go_sem]) rfl ⟨by rw [hv, if_neg (by simpa using hq)], ?_⟩)
  all_goals (repeat (with_reducible refine Below.setCell ?_ (by simp) _))
  all_goals exact hB
/-- Fail, whatever the lock and the numbers. -/
theorem kfail (f u t m o : Int) (w : World) : Calls Tryz.prog 86 #[.agg #[.int .i64 f, .int .i64 u], .int .i64 t, .int .i64 m, .int .i64 o] w fun e w' => e = .returned (.tuple #[.agg #[.int .i64 (lkF f u t m o), .int .i64 (lkU f u t m o)], .int .i64 (lkE f u t m o)]) ∧ Below w.heap.size w w' := by
  by_cases h : lkOk f u t m o
  · obtain ⟨a, b, c⟩ := lk_yes h
    rw [a, b, c]; exact kfail_yes f u t m o _ _ h rfl rfl w
  · obtain ⟨a, b, c⟩ := lk_no h
    rw [a, b, c]; exact kfail_no f u t m o h w
end Go.Proofs.YtopkcaflmpjhgaaGreat

namespace Go.Proofs.YtopkcaflmpjhgaaGreat
open Go Go.RowKit

theorem rtick (x : Int) (r : Bool) (h : r = decide (0 ≤ x ∧ x ≤ 1048575)) (w : World) : Calls Tryz.prog 89 #[.int .i64 x] w fun e w' => e = .returned (.bool r) ∧ w = w' := by
  subst h
  go_enter Tryz.func89, Tryz.ntmps89
  go_wp2
  all_goals (go_ret; refine ⟨?_, rfl⟩; congr 2; simp [*] <;> omega)
theorem ropen (f u t : Int) (r : Bool) (h : r = decide (u ≤ t)) (w : World) : Calls Tryz.prog 90 #[.agg #[.int .i64 f, .int .i64 u], .int .i64 t] w fun e w' => e = .returned (.bool r) ∧ Below w.heap.size w w' := by
  subst h
  go_enter Tryz.func90, Tryz.ntmps90
  go_wp2
  go_ret
  refine ⟨?_, (Below.refl _ _).alloc (Nat.le_refl _) _⟩
  congr 2
set_option maxRecDepth 100000 in
set_option maxHeartbeats 4000000 in
theorem rfail_yes (f u t m o c v : Int) (h : lkOk f u t m o) (hc : c = lkC f m) (hv : v = if c = m then t + o else u) (w : World) : Calls Tryz.prog 67 #[.agg #[.int .i64 f, .int .i64 u], .int .i64 t, .int .i64 m, .int .i64 o] w fun e w' => e = .returned (.tuple #[.agg #[.int .i64 c, .int .i64 v], .int .i64 0]) ∧ Below w.heap.size w w' := by
  obtain ⟨⟨f0, f1⟩, ⟨u0, u1⟩, ⟨t0, t1⟩, ⟨m0, m1⟩, ⟨o0, o1⟩, hut⟩ := h
  go_enter Tryz.func67, Tryz.ntmps67
  go_wp2_with (first
    | (go_at_call 89; (with_reducible refine (rtick _ true (by simp; omega) _).mono ?_); rintro e w1 ⟨rfl, rfl⟩)
    | (go_at_call 90; (with_reducible refine (ropen _ _ _ true (by simp; omega) _).mono ?_); rintro e w1 ⟨rfl, hb⟩; obtain ⟨ka, kr, hB⟩ := lk_two hb; clear hb; have ea := ka.cell; have ga := ka.froz; have la := ka.lt; have er := kr.cell; have gr := kr.froz; have lr := kr.lt))
  · rename_i h1 hq
    have hc1 : c = 1 := by (rw [hc]; unfold lkC; split <;> omega)
    subst hc1
    clear hc
    refine bodyPost_ret (v := .tuple #[.agg #[.int .i64 1, .int .i64 (t + o)], .int .i64 0]) (by simp [*, results, Tryz.results67, go_sem]) rfl ⟨by rw [hv, if_pos (by simpa using hq)], ?_⟩
    repeat (with_reducible refine Below.setCell ?_ (by simp) _)
    exact hB
  · rename_i h1 hq
    have hc1 : c = 1 := by (rw [hc]; unfold lkC; split <;> omega)
    subst hc1
    clear hc
    refine bodyPost_ret (v := .tuple #[.agg #[.int .i64 1, .int .i64 u], .int .i64 0]) (by simp [*, results, Tryz.results67, go_sem]) rfl ⟨by rw [hv, if_neg (by simpa using hq)], ?_⟩
    repeat (with_reducible refine Below.setCell ?_ (by simp) _)
    exact hB
  · rename_i h1 hq
    have hc1 : c = (f + 1) := by (rw [hc]; unfold lkC; split <;> omega)
    subst hc1
    clear hc
    refine bodyPost_ret (v := .tuple #[.agg #[.int .i64 (f + 1), .int .i64 (t + o)], .int .i64 0]) (by simp [*, results, Tryz.results67, go_sem]) rfl ⟨by rw [hv, if_pos (by simpa using hq)], ?_⟩
    repeat (with_reducible refine Below.setCell ?_ (by simp) _)
    exact hB
  · rename_i h1 hq
    have hc1 : c = (f + 1) := by (rw [hc]; unfold lkC; split <;> omega)
    subst hc1
    clear hc
    refine bodyPost_ret (v := .tuple #[.agg #[.int .i64 (f + 1), .int .i64 u], .int .i64 0]) (by simp [*, results, Tryz.results67, go_sem]) rfl ⟨by rw [hv, if_neg (by simpa using hq)], ?_⟩
    repeat (with_reducible refine Below.setCell ?_ (by simp) _)
    exact hB
set_option maxRecDepth 100000 in
set_option maxHeartbeats 4000000 in
theorem rfail_no (f u t m o : Int) (h : ¬ lkOk f u t m o) (w : World) : Calls Tryz.prog 67 #[.agg #[.int .i64 f, .int .i64 u], .int .i64 t, .int .i64 m, .int .i64 o] w fun e w' => e = .returned (.tuple #[.agg #[.int .i64 0, .int .i64 0], .int .i64 1300]) ∧ Below w.heap.size w w' := by
  unfold lkOk at h
  go_enter Tryz.func67, Tryz.ntmps67
  go_wp2_with (first
    | (go_at_call 89; (with_reducible refine (rtick _ _ rfl _).mono ?_); rintro e w1 ⟨rfl, rfl⟩)
    | (go_at_call 90; (with_reducible refine (ropen _ _ _ false (by simp at *; omega) _).mono ?_); rintro e w1 ⟨rfl, hb⟩; obtain ⟨ka, kr, hB⟩ := lk_two hb; clear hb; have ea := ka.cell; have ga := ka.froz; have la := ka.lt; have er := kr.cell; have gr := kr.froz; have lr := kr.lt))
  all_goals (refine bodyPost_ret (v := .tuple #[.agg #[.int .i64 0, .int .i64 0], .int .i64 1300]) (by simp [*, results, Tryz.results67, go_sem]) rfl ⟨rfl, ?_⟩)
  all_goals (repeat (with_reducible refine Below.setCell ?_ (by simp) _))
  all_goals first | exact hB | exact ((Below.refl _ _).alloc (Nat.le_refl _) _).alloc (by simp) _
theorem rfail (f u t m o : Int) (w : World) : Calls Tryz.prog 67 #[.agg #[.int .i64 f, .int .i64 u], .int .i64 t, .int .i64 m, .int .i64 o] w fun e w' => e = .returned (.tuple #[.agg #[.int .i64 (lkF f u t m o), .int .i64 (lkU f u t m o)], .int .i64 (lkE f u t m o)]) ∧ Below w.heap.size w w' := by
  by_cases h : lkOk f u t m o
  · obtain ⟨a, b, c⟩ := lk_yes h
    rw [a, b, c]; exact rfail_yes f u t m o _ _ h rfl rfl w
  · obtain ⟨a, b, c⟩ := lk_no h
    rw [a, b, c]; exact rfail_no f u t m o h w
end Go.Proofs.YtopkcaflmpjhgaaGreat

