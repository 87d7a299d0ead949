/- Rows of bodies that came in. No program is named. -/
import Derived.Test.YtcakipojmkehgaaDoorTk
import Derived.Test.YtcakipojmkehgaaDoorBme
namespace Go.Proofs.YtcakipojmkehgaaDoor
open Go Go.RowKit

/-- A row of bodies that came in: so many, each in its five cells. -/
structure BArg (w : World) (ao : Option Addr) (cs : List Bd) : Prop where
  cell : ∀ j, j < cs.length → ∃ b off, ao = some ⟨b, off, Option.none⟩ ∧ w.cell? ⟨b, off + j * 5, Option.none⟩ = some (.int .i64 (cs.getD j .zero).u) ∧ w.cell? ⟨b, off + j * 5 + 1, Option.none⟩ = some (.int .i64 (cs.getD j .zero).g) ∧
    w.cell? ⟨b, off + j * 5 + 2, Option.none⟩ = some (.int .i64 (cs.getD j .zero).x) ∧ w.cell? ⟨b, off + j * 5 + 3, Option.none⟩ = some (.int .i64 (cs.getD j .zero).s) ∧ w.cell? ⟨b, off + j * 5 + 4, Option.none⟩ = some (.int .i64 (cs.getD j .zero).k)
  few : cs.length ≤ 9223372036854770000
theorem BArg.below {w w' : World} {ao : Option Addr} {cs : List Bd} (h : BArg w ao cs) (hb : Below w.heap.size w w') : BArg w' ao cs := by
  refine ⟨fun j hj => ?_, h.few⟩
  obtain ⟨b, off, e, c0, c1, c2, c3, c4⟩ := h.cell j hj
  have hl := World.block_lt_of_cell? w ⟨b, off + j * 5, Option.none⟩ c0
  have hk := fun i => World.cell?_of_block (a := ⟨b, i, Option.none⟩) (hb.block b hl)
  exact ⟨b, off, e, (hk _).trans c0, (hk _).trans c1, (hk _).trans c2, (hk _).trans c3, (hk _).trans c4⟩
/-- One of them, in every world that follows. -/
theorem BArg.at {w : World} {ao : Option Addr} {cs : List Bd} (h : BArg w ao cs) {k : Nat} (hk : k < cs.length) :
    ∃ b off u g x s q, ao = some ⟨b, off, Option.none⟩ ∧ cs.getD k .zero = ⟨u, g, x, s, q⟩ ∧ ∀ W, Below w.heap.size w W → W.cell? ⟨b, off + k * 5, Option.none⟩ = some (.int .i64 u) ∧ W.cell? ⟨b, off + k * 5 + 1, Option.none⟩ = some (.int .i64 g) ∧
      W.cell? ⟨b, off + k * 5 + 2, Option.none⟩ = some (.int .i64 x) ∧ W.cell? ⟨b, off + k * 5 + 3, Option.none⟩ = some (.int .i64 s) ∧ W.cell? ⟨b, off + k * 5 + 4, Option.none⟩ = some (.int .i64 q) := by
  obtain ⟨b, off, e, _⟩ := h.cell k hk
  refine ⟨b, off, _, _, _, _, _, e, rfl, fun W hW => ?_⟩
  obtain ⟨b', off', e', c⟩ := (h.below hW).cell k hk
  rw [e] at e'
  obtain ⟨rfl, rfl⟩ : b = b' ∧ off = off' := by simpa using e'
  exact c
end Go.Proofs.YtcakipojmkehgaaDoor
