/- Rows of structs of numbers, texts and yes-or-noes that came in: each element's cells. No program is named. -/
import Derived.Test.YtikdnmbbiipbjaaFlat
import Derived.Deep.Slices
import Derived.SizedLaws
namespace Go.Proofs.Ytikdnmbbiipbjaa
open Go Go.Deep Go.ChangeShapes Go.WideShapes

section
variable {H : Type} {enc : TypeId × Value → H} {P : Program} {w : World} {base : Nat} {spare : Nat → Bool} {held : Bool}
theorem flat_cell2 {t : TypeId} {fs : Array Field} {cs : Array Value} {d : DataW H} {ps : List MemPlace} (hs : P.underlying t = some (.struct fs)) (hone : oneCellFields P fs = true) (hC : P.cellsOf t = fs.size)
    (h : DataW.Trod enc P w base spare held t (.agg cs) d ps) {i : Nat} {f : Field} (hi : fs[i]? = some f) :
    ∃ c y n parts, cs[i]? = some c ∧ DataW.trod enc P w base spare held n f.type [c] = some y ∧ d = .agg parts ∧ parts[i]? = some y.1 := by
  obtain ⟨fuel, hf⟩ := h
  obtain ⟨xs, n, _, hd, hl, hlen, hg⟩ := DataW.trod_struct hs hf
  have g := hg i f hi
  obtain ⟨ho, hc1⟩ := hone_of hone i f hi
  have hlt : i < fs.size := (Array.getElem?_eq_some_iff.1 hi).1
  have hl' : cs.toList.length = fs.size := by rw [← hC]; exact hl
  rw [ho, hc1] at g
  have g' : DataW.trod enc P w base spare held n f.type ((cs.toList.drop i).take 1) = xs[i]? := g
  rw [take1_drop cs.toList i undef (by omega)] at g'
  have hx : i < xs.length := by omega
  rw [List.getElem?_eq_getElem hx] at g'
  refine ⟨cs.toList.getD i undef, xs[i], n, xs.map (·.1), ?_, g', (Prod.mk.injEq .. ▸ hd).1, by simp [hx]⟩
  have hcs : i < cs.size := by simpa using (show i < cs.toList.length by omega)
  simp [List.getD, hcs]
theorem flat_bool {t : TypeId} {fs : Array Field} {cs : Array Value} {d : DataW H} {ps : List MemPlace} (hs : P.underlying t = some (.struct fs)) (hone : oneCellFields P fs = true) (hC : P.cellsOf t = fs.size)
    (h : DataW.Trod enc P w base spare held t (.agg cs) d ps) {i : Nat} (hi : fs[i]?.map (fun f => P.underlying f.type) = some (some .bool)) : ∃ b, cs[i]? = some (.bool b) := by
  cases hf : fs[i]? with
  | none => rw [hf] at hi; cases hi
  | some f =>
  rw [hf] at hi
  have hk := Option.some.inj hi
  obtain ⟨c, y, n, h1, h2⟩ := flat_cell hs hone hC h hf
  obtain ⟨z, hz, _⟩ := DataW.trod_bool hk h2
  simp at hz
  exact ⟨z, by rw [h1, hz]⟩
/-- A text of a struct whose data are not too heavy. -/
theorem flat_text {t : TypeId} {fs : Array Field} {cs : Array Value} {d : DataW H} {ps : List MemPlace} (hs : P.underlying t = some (.struct fs)) (hone : oneCellFields P fs = true) (hC : P.cellsOf t = fs.size)
    (h : DataW.Trod enc P w base spare held t (.agg cs) d ps) (hw : ∀ n ∈ d.weights P t, n ≤ reachBytes) {i : Nat} (hi : fs[i]?.map (fun f => P.underlying f.type) = some (some .string)) : ∃ s : ByteArray, cs[i]? = some (.string s) ∧ s.size ≤ reachBytes := by
  cases hf : fs[i]? with
  | none => rw [hf] at hi; cases hi
  | some f =>
  rw [hf] at hi
  have hk := Option.some.inj hi
  obtain ⟨c, y, n, parts, h1, h2, rfl, h4⟩ := flat_cell2 hs hone hC h hf
  obtain ⟨z, hz, hy, _⟩ := DataW.trod_string hk h2
  simp at hz
  refine ⟨z, by rw [h1, hz], ?_⟩
  rw [hy] at h4
  have hm : z.data.toList.length ∈ (DataW.agg parts).weights P t := by
    have hlt : i < fs.size := (Array.getElem?_eq_some_iff.1 hf).1
    have hft : (fs.toList.map (·.type))[i]? = some f.type := by simp [hf]
    have := DataW.weights_mem_each (P := P) hft h4 z.data.toList.length (by simp [DataW.weights])
    unfold DataW.weights
    rw [hs]
    exact this
  have := hw _ hm
  rw [show z.data.toList.length = z.size from Array.length_toList] at this
  exact this
theorem weightsAll_mem {e : TypeId} {l : List (DataW H)} {d : DataW H} {n : Nat} (hd : d ∈ l) (hn : n ∈ d.weights P e) : n ∈ DataW.weightsAll P e l := by
  induction l with
  | nil => cases hd
  | cons x l ih =>
    unfold DataW.weightsAll
    rcases List.mem_cons.1 hd with rfl | h
    · exact List.mem_append.2 (.inl hn)
    · exact List.mem_append.2 (.inr (ih h))
/-- What the arguments' bound says of a row. -/
theorem rows_sized {ts : List TypeId} {ds : List (DataW H)} (h : (DataW.weightsEach P ts ds).all (· ≤ reachBytes) = true) {j : Nat} {t e : TypeId} {elems sp : List (DataW H)} (ht : ts[j]? = some t) (hd : ds[j]? = some (.slice elems sp)) (hu : P.underlying t = some (.slice e)) :
    (elems.length + sp.length) * P.bytesOf e ≤ reachBytes ∧ ∀ D ∈ elems, ∀ n ∈ D.weights P e, n ≤ reachBytes := by
  refine ⟨sized_slice h ht hd hu, fun D hD n hn => ?_⟩
  have := List.all_eq_true.1 h _ (DataW.weights_mem_each ht hd n (by unfold DataW.weights; rw [hu]; exact List.mem_cons_of_mem _ (List.mem_append.2 (.inl (weightsAll_mem hD hn)))))
  simpa using this
theorem rows_open {t e : TypeId} {fs : Array Field} {a0 : Option Addr} {len cap : Nat} {d : DataW H} {ps : List MemPlace} (hu : P.underlying t = some (.slice e)) (hC : P.cellsOf e = fs.size)
    (h : DataW.Trod enc P w base (fun _ => true) held t (.slice a0 len cap) d ps) :
    len = 0 ∨ ∃ a elems sp, a0 = some a ∧ d = .slice elems sp ∧ elems.length = len ∧ ∀ i, i < len → ∃ (cs : Array Value) (D : DataW H) (q : List MemPlace), D ∈ elems ∧ cs.size = fs.size ∧ (∀ k, k < fs.size → w.cell? (a.add (i * fs.size + k)) = cs[k]?) ∧
      DataW.Trod enc P w base (fun _ => true) held e (.agg cs) D q := by
  obtain ⟨fuel, hf⟩ := h
  rcases open_slice hu hf with ⟨hcs, _⟩ | ⟨a, len', cap', m, n, D, Pl, hcs, _, hl, _, hm, hx, hc⟩
  · simp [Value.cells] at hcs
    exact .inl hcs.2.1
  · simp [Value.cells] at hcs
    obtain ⟨rfl, rfl, rfl⟩ := hcs
    simp only [Prod.mk.injEq] at hx
    simp only [if_true] at hm
    subst hm
    refine .inr ⟨a, _, _, rfl, hx.1, by simp, fun i hi => ?_⟩
    obtain ⟨cs, h1, h2⟩ := hc i (by omega)
    obtain ⟨_, g2, g3⟩ := World.cells?_some h1
    rw [hC] at g2 g3
    refine ⟨cs.toArray, D i, Pl i, by simp; exact ⟨i, hi, rfl⟩, by simpa using g2, fun k hk => ?_, ⟨n, by simpa [Value.cells] using h2⟩⟩
    have := g3 k hk
    rw [Addr.add_add] at this
    simpa using this
/-- From each to a row. -/
theorem row_each {α : Type} (z : α) {n : Nat} {p : Nat → α → Prop} (h : ∀ i, i < n → ∃ x, p i x) : ∃ l : List α, l.length = n ∧ ∀ j, j < n → p j (l.getD j z) := by
  obtain ⟨f, hf⟩ := @choose_lt α ⟨z⟩ n p h
  exact ⟨(List.range n).map f, by simp, fun j hj => by simpa [List.getD, hj] using hf j hj⟩
end
end Go.Proofs.Ytikdnmbbiipbjaa
