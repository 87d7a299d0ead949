/- A block that the call laid first, while other memory is made. No program is named but for the reference's Nums. -/
import Derived.Test.YtodngcpphnmphaaDoorRnums
namespace Go.Proofs.YtodngcpphnmphaaDoor
open Go Go.RowKit

/-- Since the block o was laid over w, nothing of w and nothing of o has turned. -/
def Held (w : World) (o : Obj) (W : World) : Prop := Below (w.heap.size + 1) (w.alloc o) W
theorem Held.start (w : World) (o : Obj) : Held w o (w.alloc o) := Below.refl _ _
theorem Held.size {w W : World} {o : Obj} (h : Held w o W) : w.heap.size + 1 ≤ W.heap.size := by have := Below.size h; simpa using this
theorem Held.step {w W W' : World} {o : Obj} (h : Held w o W) (hb : Below W.heap.size W W') : Held w o W' := Below.trans h (hb.mono h.size)
theorem Held.cell {w W : World} {c : Array Value} {t : TypeId} (h : Held w (.cells c t) W) {i : Nat} {v : Value} (hc : c[i]? = some v) : W.cell? ⟨w.heap.size, i, none⟩ = some v := by
  rw [Below.cell h (p := ⟨w.heap.size, i, none⟩) (by simp)]
  unfold World.cell?
  rw [show (w.alloc (Obj.cells c t)).heap[w.heap.size]? = some (Obj.cells c t) from heap_alloc_new w _]
  exact hc
theorem Held.bel {w W : World} {o : Obj} (h : Held w o W) : Below w.heap.size w W :=
  ((Below.refl w.heap.size w).alloc (Nat.le_refl _) o).trans (Below.mono h (Nat.le_succ _))

theorem rn1 (a : Int) (t : TypeId) (w : World) (a0 : -9223372036854775808 ≤ a) (a1 : a ≤ 9223372036854775807) :
    Calls Tryd.prog 18 #[.slice (some ⟨w.heap.size, 0, none⟩) 1 1] (w.alloc (.cells #[.int .i64 a] t)) fun e w' => e = .returned (.string (numsB [a])) ∧ Below w.heap.size w w' := by
  have hb0 : Below w.heap.size w (w.alloc (.cells #[.int .i64 a] t)) := (Below.refl _ _).alloc (Nat.le_refl _) _
  refine (rnums [a] w.heap.size 1 (w.alloc (.cells #[.int .i64 a] t)) rfl (by omega) (fun j hj => ?_) (fun j hj => ?_) (by simp)).mono fun e w' ⟨x, y⟩ => ⟨x, hb0.trans (y.mono hb0.size)⟩
  · match j, hj with
    | 0, _ => simp
  · match j, hj with
    | 0, _ => exact ⟨a0, a1⟩
theorem rn2 (a b : Int) (t : TypeId) (w : World) (a0 : -9223372036854775808 ≤ a) (a1 : a ≤ 9223372036854775807) (b0 : -9223372036854775808 ≤ b) (b1 : b ≤ 9223372036854775807) :
    Calls Tryd.prog 18 #[.slice (some ⟨w.heap.size, 0, none⟩) 2 2] (w.alloc (.cells #[.int .i64 a, .int .i64 b] t)) fun e w' => e = .returned (.string (numsB [a, b])) ∧ Below w.heap.size w w' := by
  have hb0 : Below w.heap.size w (w.alloc (.cells #[.int .i64 a, .int .i64 b] t)) := (Below.refl _ _).alloc (Nat.le_refl _) _
  refine (rnums [a, b] w.heap.size 2 (w.alloc (.cells #[.int .i64 a, .int .i64 b] t)) rfl (by omega) (fun j hj => ?_) (fun j hj => ?_) (by simp)).mono fun e w' ⟨x, y⟩ => ⟨x, hb0.trans (y.mono hb0.size)⟩
  · match j, hj with
    | 0, _ => simp
    | 1, _ => simp
  · match j, hj with
    | 0, _ => exact ⟨a0, a1⟩
    | 1, _ => exact ⟨b0, b1⟩
theorem rn3 (a b c : Int) (t : TypeId) (w : World) (a0 : -9223372036854775808 ≤ a) (a1 : a ≤ 9223372036854775807) (b0 : -9223372036854775808 ≤ b) (b1 : b ≤ 9223372036854775807) (c0 : -9223372036854775808 ≤ c) (c1 : c ≤ 9223372036854775807) :
    Calls Tryd.prog 18 #[.slice (some ⟨w.heap.size, 0, none⟩) 3 3] (w.alloc (.cells #[.int .i64 a, .int .i64 b, .int .i64 c] t)) fun e w' => e = .returned (.string (numsB [a, b, c])) ∧ Below w.heap.size w w' := by
  have hb0 : Below w.heap.size w (w.alloc (.cells #[.int .i64 a, .int .i64 b, .int .i64 c] t)) := (Below.refl _ _).alloc (Nat.le_refl _) _
  refine (rnums [a, b, c] w.heap.size 3 (w.alloc (.cells #[.int .i64 a, .int .i64 b, .int .i64 c] t)) rfl (by omega) (fun j hj => ?_) (fun j hj => ?_) (by simp)).mono fun e w' ⟨x, y⟩ => ⟨x, hb0.trans (y.mono hb0.size)⟩
  · match j, hj with
    | 0, _ => simp
    | 1, _ => simp
    | 2, _ => simp
  · match j, hj with
    | 0, _ => exact ⟨a0, a1⟩
    | 1, _ => exact ⟨b0, b1⟩
    | 2, _ => exact ⟨c0, c1⟩
theorem rn4 (a b c d : Int) (t : TypeId) (w : World) (a0 : -9223372036854775808 ≤ a) (a1 : a ≤ 9223372036854775807) (b0 : -9223372036854775808 ≤ b) (b1 : b ≤ 9223372036854775807) (c0 : -9223372036854775808 ≤ c) (c1 : c ≤ 9223372036854775807) (d0 : -9223372036854775808 ≤ d) (d1 : d ≤ 9223372036854775807) :
    Calls Tryd.prog 18 #[.slice (some ⟨w.heap.size, 0, none⟩) 4 4] (w.alloc (.cells #[.int .i64 a, .int .i64 b, .int .i64 c, .int .i64 d] t)) fun e w' => e = .returned (.string (numsB [a, b, c, d])) ∧ Below w.heap.size w w' := by
  have hb0 : Below w.heap.size w (w.alloc (.cells #[.int .i64 a, .int .i64 b, .int .i64 c, .int .i64 d] t)) := (Below.refl _ _).alloc (Nat.le_refl _) _
  refine (rnums [a, b, c, d] w.heap.size 4 (w.alloc (.cells #[.int .i64 a, .int .i64 b, .int .i64 c, .int .i64 d] t)) rfl (by omega) (fun j hj => ?_) (fun j hj => ?_) (by simp)).mono fun e w' ⟨x, y⟩ => ⟨x, hb0.trans (y.mono hb0.size)⟩
  · match j, hj with
    | 0, _ => simp
    | 1, _ => simp
    | 2, _ => simp
    | 3, _ => simp
  · match j, hj with
    | 0, _ => exact ⟨a0, a1⟩
    | 1, _ => exact ⟨b0, b1⟩
    | 2, _ => exact ⟨c0, c1⟩
    | 3, _ => exact ⟨d0, d1⟩
end Go.Proofs.YtodngcpphnmphaaDoor
