/- A struct of numbers and texts that came in by value: each of its cells. No program is named. -/
import Derived.Lib.SmallJoins
import Derived.ProofKit
import Derived.ChangeSame
namespace Go.Proofs.Ytjkcimeeagmmeaa
open Go Go.Deep Go.ChangeShapes Go.WideShapes

section
variable {H : Type} {enc : TypeId × Value → H} {P : Program} {w : World} {base : Nat} {spare : Nat → Bool} {held : Bool}
theorem flat_cell {t : TypeId} {fs : Array Field} {cs : Array Value} {d : DataW H} {ps : List MemPlace} (hs : P.underlying t = some (.struct fs)) (hone : oneCellFields P fs = true) (hC : P.cellsOf t = fs.size)
    (h : DataW.Trod enc P w base spare held t (.agg cs) d ps) {i : Nat} {f : Field} (hi : fs[i]? = some f) : ∃ c y n, cs[i]? = some c ∧ DataW.trod enc P w base spare held n f.type [c] = some y := by
  obtain ⟨fuel, hf⟩ := h
  obtain ⟨xs, n, _, _, hl, hlen, hg⟩ := DataW.trod_struct hs hf
  have g := hg i f hi
  obtain ⟨ho, hc1⟩ := hone_of hone i f hi
  have hlt : i < fs.size := (Array.getElem?_eq_some_iff.1 hi).1
  have hl' : cs.toList.length = fs.size := by rw [← hC]; exact hl
  rw [ho, hc1] at g
  have g' : DataW.trod enc P w base spare held n f.type ((cs.toList.drop i).take 1) = xs[i]? := g
  rw [take1_drop cs.toList i undef (by omega)] at g'
  have hx : i < xs.length := by omega
  rw [List.getElem?_eq_getElem hx] at g'
  refine ⟨cs.toList.getD i undef, xs[i], n, ?_, g'⟩
  have hcs : i < cs.size := by simpa using (show i < cs.toList.length by omega)
  simp [List.getD, hcs]
theorem flat_int {t : TypeId} {fs : Array Field} {cs : Array Value} {d : DataW H} {ps : List MemPlace} {k : IntKind} (hs : P.underlying t = some (.struct fs)) (hone : oneCellFields P fs = true) (hC : P.cellsOf t = fs.size)
    (h : DataW.Trod enc P w base spare held t (.agg cs) d ps) {i : Nat} (hi : fs[i]?.map (fun f => P.underlying f.type) = some (some (.int k))) : ∃ z, cs[i]? = some (.int k z) ∧ (Lit.int k z).wf = true := by
  cases hf : fs[i]? with
  | none => rw [hf] at hi; cases hi
  | some f =>
  rw [hf] at hi
  have hk := Option.some.inj hi
  obtain ⟨c, y, n, h1, h2⟩ := flat_cell hs hone hC h hf
  obtain ⟨z, hz, _, hw⟩ := DataW.trod_int hk h2
  simp at hz
  exact ⟨z, by rw [h1, hz], hw⟩
theorem flat_string {t : TypeId} {fs : Array Field} {cs : Array Value} {d : DataW H} {ps : List MemPlace} (hs : P.underlying t = some (.struct fs)) (hone : oneCellFields P fs = true) (hC : P.cellsOf t = fs.size)
    (h : DataW.Trod enc P w base spare held t (.agg cs) d ps) {i : Nat} (hi : fs[i]?.map (fun f => P.underlying f.type) = some (some .string)) : ∃ s : ByteArray, cs[i]? = some (.string s) ∧ s.size ≤ maxLen := by
  cases hf : fs[i]? with
  | none => rw [hf] at hi; cases hi
  | some f =>
  rw [hf] at hi
  have hk := Option.some.inj hi
  obtain ⟨c, y, n, h1, h2⟩ := flat_cell hs hone hC h hf
  obtain ⟨z, hz, _, hw⟩ := DataW.trod_string hk h2
  simp at hz
  exact ⟨z, by rw [h1, hz], hw⟩
theorem arr_of {α : Type} {cs : Array α} {l : List α} (hn : cs.size = l.length) (h : ∀ i, i < l.length → cs[i]? = l[i]?) : cs = l.toArray := by
  apply Array.ext_getElem?
  intro i
  by_cases c : i < l.length
  · rw [h i c]; simp
  · rw [Array.getElem?_eq_none (by omega)]; simp; omega
end
end Go.Proofs.Ytjkcimeeagmmeaa
