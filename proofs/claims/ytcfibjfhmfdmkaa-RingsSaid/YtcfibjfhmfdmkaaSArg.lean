/- A row of strings that came in, and assertions of two books. No condition. -/
import Derived.Test.YtcfibjfhmfdmkaaDoes
namespace Go.Proofs.Ytcfibjfhmfdmkaa
open Go Go.RowKit Go.Maps

/-- A row of strings that came in: so many, each in its cell. -/
structure SArg (w : World) (ao : Option Addr) (ss : List ByteArray) : Prop where
  cell : ∀ j, j < ss.length → ∃ b off, ao = some ⟨b, off, none⟩ ∧ w.cell? ⟨b, off + j, none⟩ = some (.string (ss.getD j ⟨#[]⟩))
  size : ∀ j, j < ss.length → (ss.getD j ⟨#[]⟩).size ≤ maxLen
  few : ss.length ≤ 8796093022207
theorem SArg.at {w : World} {ao : Option Addr} {ss : List ByteArray} (h : SArg w ao ss) {k : Nat} (hk : k < ss.length) :
    ∃ b off s, ao = some ⟨b, off, none⟩ ∧ ss.getD k ⟨#[]⟩ = s ∧ s.size ≤ maxLen ∧ ∀ W, Below w.heap.size w W → W.cell? ⟨b, off + k, none⟩ = some (.string s) := by
  obtain ⟨b, off, e, hc⟩ := h.cell k hk
  refine ⟨b, off, _, e, rfl, h.size k hk, fun W hW => ?_⟩
  have hlt := World.block_lt_of_cell? w ⟨b, off + k, none⟩ hc
  rw [World.cell?_of_block (w := w) (hW.block b hlt)]; exact hc
theorem SArg.below {w w' : World} {ao : Option Addr} {ss : List ByteArray} (h : SArg w ao ss) (hb : Below w.heap.size w w') : SArg w' ao ss := by
  refine ⟨fun j hj => ?_, h.size, h.few⟩
  obtain ⟨b, off, s, e, hs, _, hW⟩ := h.at hj
  exact ⟨b, off, e, by rw [hs]; exact hW _ hb⟩

abbrev two (p q : Nat) (most : Int) (ts : List ByteArray) : Ass := (refA q most ts).star ((bookA p most ts).star emp)
theorem good1 (p : Nat) (most : Int) (ts : List ByteArray) : ((bookA p most ts).star emp).Good := (bookA_good _ _ _).star emp_good
theorem two_good (p q : Nat) (most : Int) (ts : List ByteArray) : (two p q most ts).Good := (refA_good _ _ _).star (good1 _ _ _)
end Go.Proofs.Ytcfibjfhmfdmkaa
