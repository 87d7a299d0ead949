/- Package disk's New: what it answers and makes. No condition. -/
import Derived.Test.YtlnliphejjfdeaaKdp3
namespace Go.Proofs.Ytlnliphejjfdeaa
open Go Go.RowKit

theorem infC : (Try.prog.info? TC).map (fun i => (i.zero, i.size, i.bytes)) = some (some (.agg (bV zer64).toArray), 64, 64) := by kernel_rfl
theorem zer_at (j : Nat) (hj : j < 64) : (bV zer64)[j]? = some (.int .u8 0) := by
  have e : bV zer64 = List.replicate 64 (.int .u8 0) := by kernel_rfl
  rw [e, List.getElem?_replicate, if_pos hj]
theorem flat_zer (n : Nat) : flatS (List.replicate n zer64) = List.replicate (n * 64) (.int .u8 0) := by
  have e : bV zer64 = List.replicate 64 (.int .u8 0) := by kernel_rfl
  induction n with
  | zero => rfl
  | succ n ih => rw [List.replicate_succ, flatS_cons, ih, e, List.replicate_append_replicate]; congr 1; omega
/-- Sectors as they are made. -/
abbrev kObj (n : Nat) : Obj := .cells (flatS (List.replicate n zer64)).toArray TC
theorem made_zer (n : Nat) : madeCells (bV zer64).toArray (n * 64) = (flatS (List.replicate n zer64)).toArray := by
  apply Array.ext_getElem?
  intro j
  have h64 : (bV zer64).toArray.size = 64 := by kernel_rfl
  unfold madeCells
  rw [Array.getElem?_map, Array.getElem?_range, flat_zer, List.getElem?_toArray (xs := List.replicate (n * 64) (Value.int .u8 0)), List.getElem?_replicate]
  by_cases h : j < n * 64
  · rw [if_pos h, if_pos h, Option.map_some, h64]
    have hz0 := zer_at (j % 64) (Nat.mod_lt _ (by decide))
    rw [getElem!_def, List.getElem?_toArray, hz0]
  · rw [if_neg h, if_neg h]
    rfl
theorem three_0 (w : World) (A B C : Obj) : (((w.alloc A).alloc B).alloc C).heap[w.heap.size]? = some A := by
  rw [Go.heap_alloc_old _ _ (by simp; omega), Go.heap_alloc_old _ _ (by simp)]
  exact heap_alloc_new w A
theorem three_1 (w : World) (A B C : Obj) : (((w.alloc A).alloc B).alloc C).heap[w.heap.size + 1]? = some B := by
  rw [Go.heap_alloc_old _ _ (by simp)]
  exact heap_alloc2_new w A B
theorem three_2 (w : World) (A B C : Obj) : (((w.alloc A).alloc B).alloc C).heap[w.heap.size + 1 + 1]? = some C := by
  have := heap_alloc_new ((w.alloc A).alloc B) C
  rw [show ((w.alloc A).alloc B).heap.size = w.heap.size + 1 + 1 by simp] at this
  exact this
theorem three_b (w : World) (A B C : Obj) : Below w.heap.size w (((w.alloc A).alloc B).alloc C).drew := by
  have h := (((Below.refl w.heap.size w).alloc (Nat.le_refl _) A).alloc (by simp) B).alloc (by simp; omega) C
  exact ⟨h.os, h.tape, h.output, h.size, h.block⟩
theorem k_made (n : Nat) (h1 : 1 ≤ n) (h2 : n ≤ 256) (W : World) : (Instr.makeSlice 55 (.int .i64 (n : Int)) (.int .i64 (n : Int))).run Try.prog W = .ok (.slice (some ⟨W.heap.size, 0, none⟩) n n) (W.alloc (kObj n)) := by
  obtain ⟨i, hi, hz, hs, hb⟩ := info_of infC
  have hr := run_make (P := Try.prog) W 55 TC i (.agg (bV zer64).toArray) Try.underlying55 hi hz .i64 .i64 n n (by omega) (Int.le_refl _) (by rw [hb]; omega) (by omega)
  rw [Int.toNat_natCast, hs] at hr
  rw [hr, show (Value.agg (bV zer64).toArray).cells = (bV zer64).toArray from rfl, made_zer]
theorem k_in {w : World} {n p gk gs : Nat} (h1 : 1 ≤ n) (h2 : n ≤ 256) (hp : w.heap[p]? = some (.cells #[.slice (some ⟨gk, 0, none⟩) n n, .slice (some ⟨gs, 0, none⟩) n n, .slice none 0 0, .bool false] TD (0, 0))) (hk : w.heap[gk]? = some (kObj n)) (hs : w.heap[gs]? = some (kObj n)) (d1 : p ≠ gk) (d2 : p ≠ gs) (d3 : gk ≠ gs) :
    DqIn w p (List.replicate n zer64) (List.replicate n zer64) [] false n gk gs (.slice none 0 0) :=
  ⟨hp, hk, hs, World.ownsRow_nil _ _ _ _, d1, d2, d3, by simp [Value.ownBlock], by simp [Value.ownBlock], by simp [Value.ownBlock], by simp, by simp, h1, h2, fun x hx => by rw [List.eq_of_mem_replicate hx]; rfl, fun x hx => by rw [List.eq_of_mem_replicate hx]; rfl, fun x hx => by cases hx⟩
theorem k_becomes {w w' : World} {n p gk gs : Nat} (h : DqIn w' p (List.replicate n zer64) (List.replicate n zer64) [] false n gk gs (.slice none 0 0)) (hb : Below w.heap.size w w') (h1 : w.heap.size ≤ p) (h2 : w.heap.size ≤ gk) (h3 : w.heap.size ≤ gs) : Becomes [] (dpA p (Dk.new n)) w w' :=
  ⟨_, ⟨n, gk, gs, .slice none 0 0, h, rfl⟩, Tn.ofBelow hb _, fun j hj => .inr (by
    simp [Value.ownBlock] at hj
    rcases hj with rfl | rfl | rfl
    · exact h1
    · exact h2
    · exact h3)⟩
def KpnewP (n : Nat) (w : World) (e : Ending) (w' : World) : Prop := ∃ p : Nat, e = .returned (.tuple #[.pointer (some ⟨p, 0, none⟩), .int .i64 0]) ∧ Becomes [] (dpA p (Dk.new n)) w w'
theorem kpnew_bad (n : Int) (w : World) (h : n < 1 ∨ 256 < n) : Calls Try.prog 7 #[.int .i64 n] w fun e w' => e = .returned (.tuple #[.pointer none, .int .i64 800]) ∧ Below w.heap.size w w' := by
  rcases h with h | h
  · go_enter Try.func7, Try.ntmps7
    go_wp2
    go_ret2
    exact ⟨rfl, Below.refl _ _⟩
  · have h' : ¬ n < 1 := by omega
    go_enter Try.func7, Try.ntmps7
    go_wp2
    go_ret2
    exact ⟨rfl, Below.refl _ _⟩
set_option maxHeartbeats 2000000 in
theorem kpnew_ok (n : Nat) (w : World) (h1 : 1 ≤ n) (h2 : n ≤ 256) : Calls Try.prog 7 #[.int .i64 n] w (KpnewP n w) := by
  have hmk := k_made n h1 h2
  go_enter Try.func7, Try.ntmps7
  go_wp2
  have HA := Lib.hid (fun O (hO : O = _) => k_becomes (w := w) (k_in (w := (((w.alloc (kObj n)).alloc (kObj n)).alloc O).drew) (gk := w.heap.size) (gs := w.heap.size + 1) h1 h2 ((three_2 w _ _ O).trans (congrArg some hO)) (three_0 w _ _ O) (three_1 w _ _ O) (by omega) (by omega) (by omega)) (three_b w _ _ O) (by omega) (by omega) (by omega))
  have HB := Lib.hid (fun O (hO : O = _) => k_becomes (w := w) (k_in (w := (((w.alloc (kObj n)).alloc (kObj n)).alloc O).drew) (gk := w.heap.size + 1) (gs := w.heap.size) h1 h2 ((three_2 w _ _ O).trans (congrArg some hO)) (three_1 w _ _ O) (three_0 w _ _ O) (by omega) (by omega) (by omega)) (three_b w _ _ O) (by omega) (by omega) (by omega))
  go_region
  all_goals
    go_wp2
    go_ret2
    first
      | exact ⟨_, rfl, HA.out _ rfl⟩
      | exact ⟨_, rfl, HB.out _ rfl⟩
end Go.Proofs.Ytlnliphejjfdeaa
