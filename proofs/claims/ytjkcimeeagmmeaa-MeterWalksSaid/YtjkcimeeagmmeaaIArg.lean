/- Rows of numbers that came in. No condition. -/
import Derived.Test.YtjkcimeeagmmeaaSep
import Derived.WalkKit
namespace Go.Proofs.Ytjkcimeeagmmeaa
open Go Go.RowKit Go.Maps

/-- A row of numbers that came in: so many, each in its cell. -/
structure IArg (w : World) (ao : Option Addr) (zs : List Int) : Prop where
  cell : ∀ j, j < zs.length → ∃ b off, ao = some ⟨b, off, Option.none⟩ ∧ w.cell? ⟨b, off + j, Option.none⟩ = some (.int .i64 (zs.getD j 0))
  few : zs.length ≤ 17592186044415
  bd : ∀ z ∈ zs, -9223372036854775808 ≤ z ∧ z ≤ 9223372036854775807
theorem IArg.at {w : World} {ao : Option Addr} {zs : List Int} (h : IArg w ao zs) {k : Nat} (hk : k < zs.length) :
    ∃ b off z, ao = some ⟨b, off, Option.none⟩ ∧ zs.getD k 0 = z ∧ (-9223372036854775808 ≤ z ∧ z ≤ 9223372036854775807) ∧ ∀ W, Below w.heap.size w W → W.cell? ⟨b, off + k, Option.none⟩ = some (.int .i64 z) := by
  obtain ⟨b, off, e, hc⟩ := h.cell k hk
  refine ⟨b, off, _, e, rfl, h.bd _ (by rw [List.getD, List.getElem?_eq_getElem hk]; exact List.getElem_mem hk), fun W hW => ?_⟩
  have hlt := World.block_lt_of_cell? w ⟨b, off + k, Option.none⟩ hc
  rw [World.cell?_of_block (w := w) (hW.block b hlt)]; exact hc
theorem IArg.below {w w' : World} {ao : Option Addr} {zs : List Int} (h : IArg w ao zs) (hb : Below w.heap.size w w') : IArg w' ao zs := by
  refine ⟨fun j hj => ?_, h.few, h.bd⟩
  obtain ⟨b, off, z, e, hs, _, hW⟩ := h.at hj
  exact ⟨b, off, e, by rw [hs]; exact hW _ hb⟩
end Go.Proofs.Ytjkcimeeagmmeaa
