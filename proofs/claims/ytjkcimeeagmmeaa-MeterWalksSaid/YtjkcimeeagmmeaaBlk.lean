/- Plain words on memory: a block that is known whole, kept through calls that make memory alone. No program is named. -/
import Derived.WalkKit
import Derived.Deep.Quiet
namespace Go.Proofs.Ytjkcimeeagmmeaa
open Go Go.RowKit

/-- The block b of W holds the cells c, and nothing of it is marked. -/
structure Blk (W : World) (b : Nat) (c : Array Value) : Prop where
  cell : ∀ i, W.cell? ⟨b, i, none⟩ = c[i]?
  froz : ∀ i, W.frozen? ⟨b, i, none⟩ = false
  lt : b < W.heap.size
theorem Blk.new (w : World) (c : Array Value) (t : TypeId) : Blk (w.alloc (.cells c t)) w.heap.size c :=
  ⟨fun _ => World.cell?_alloc_at _ _ _ _ rfl, fun _ => World.frozen?_alloc_at _ _ _ _ rfl, by simp⟩
theorem Blk.new' (w : World) (b : Nat) (hb : w.heap.size = b) (c : Array Value) (t : TypeId) : Blk (w.alloc (.cells c t)) b c := by subst hb; exact Blk.new w c t
theorem Blk.step {W W' : World} {b : Nat} {c : Array Value} (h : Blk W b c) (hb : Below W.heap.size W W') : Blk W' b c :=
  ⟨fun i => (hb.cell (p := ⟨b, i, none⟩) h.lt).trans (h.cell i), fun i => (hb.frozen (p := ⟨b, i, none⟩) h.lt).trans (h.froz i), Nat.lt_of_lt_of_le h.lt hb.size⟩
theorem Blk.alloc {W : World} {b : Nat} {c : Array Value} (h : Blk W b c) (o : Obj) : Blk (W.alloc o) b c := h.step ((Below.refl _ _).alloc (Nat.le_refl _) o)
theorem Blk.drewN {W : World} {b : Nat} {c : Array Value} (h : Blk W b c) (n : Nat) : Blk (W.drewN n) b c := h.step ⟨rfl, rfl, rfl, Nat.le_refl _, fun _ _ => rfl⟩
theorem Blk.drew {W : World} {b : Nat} {c : Array Value} (h : Blk W b c) : Blk W.drew b c := h.step ⟨rfl, rfl, rfl, Nat.le_refl _, fun _ _ => rfl⟩
end Go.Proofs.Ytjkcimeeagmmeaa
