/- Plain words on memory: a store into a block that is known whole, and beside it. No program is named. -/
import Derived.Test.YtcakipojmkehgaaDoorBlk
import Derived.Test.YtcakipojmkehgaaDoorGr
namespace Go.Proofs.YtcakipojmkehgaaDoor
open Go Go.RowKit

theorem Blk.set {W : World} {b : Nat} {c c' : Array Value} (h : Blk W b c) (i : Nat) (v : Value) (hi : i < c.size) (hc : ∀ j, (c'[j]? = if j = i then some v else c[j]?)) : Blk (W.setCell ⟨b, i, none⟩ v) b c' := by
  refine ⟨fun j => ?_, fun j => ?_, by simpa using h.lt⟩
  · rw [hc j]
    split
    · rename_i e; subst e
      have h0 : W.cell? ⟨b, j, none⟩ = some c[j] := by rw [h.cell j, Array.getElem?_eq_getElem hi]
      exact World.cell?_setCell_same _ _ _ h0
    · rename_i e
      have hn : (⟨b, i, none⟩ : Addr) ≠ ⟨b, j, none⟩ := by intro c; cases c; exact e rfl
      exact (World.cell?_setCell_other _ _ _ _ hn).trans (h.cell j)
  · exact (World.frozen?_setCell _ _ _ _).trans (h.froz j)
theorem Blk.far {W : World} {b : Nat} {c : Array Value} (h : Blk W b c) (a : Addr) (v : Value) (hb : a.block ≠ b) : Blk (W.setCell a v) b c :=
  ⟨fun j => (World.cell?_setCell_other _ _ _ _ (by intro c; subst c; exact hb rfl)).trans (h.cell j), fun j => (World.frozen?_setCell _ _ _ _).trans (h.froz j), by simpa using h.lt⟩
theorem Gr.set {w W : World} (h : Gr w W) (hg : Gd w) (a : Addr) (v : Value) (ha : w.heap.size ≤ a.block) : Gr w (W.setCell a v) := by
  have hb : Below w.heap.size w (W.setCell a v) := h.below.setCell ha v
  exact ⟨hb, hg.below hb hg.pos⟩
end Go.Proofs.YtcakipojmkehgaaDoor
