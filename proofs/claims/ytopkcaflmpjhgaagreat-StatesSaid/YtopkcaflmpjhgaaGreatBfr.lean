/- Put together: Flat, RowsIn, Frame0, IArg, FrameI. Conditions: each theorem's own. -/
import Derived.Lib.SmallJoins
import Derived.ProofKit
import Derived.ChangeSame
import Derived.Deep.Slices
import Derived.SizedLaws
import Derived.Test.YtopkcaflmpjhgaaGreatRows
import Derived.Test.YtopkcaflmpjhgaaGreatProg
import Derived.OpenShut
import Derived.Carry
import Derived.Test.YtopkcaflmpjhgaaGreatBsp
import Derived.WalkKit
namespace Go.Proofs.YtopkcaflmpjhgaaGreat
open Go Go.Deep Go.ChangeShapes Go.WideShapes

section
variable {H : Type} {enc : TypeId × Value → H} {P : Program} {w : World} {base : Nat} {spare : Nat → Bool} {held : Bool}
theorem flat_cell {t : TypeId} {fs : Array Field} {cs : Array Value} {d : DataW H} {ps : List MemPlace} (hs : P.underlying t = some (.struct fs)) (hone : oneCellFields P fs = true) (hC : P.cellsOf t = fs.size)
    (h : DataW.Trod enc P w base spare held t (.agg cs) d ps) {i : Nat} {f : Field} (hi : fs[i]? = some f) : ∃ c y n, cs[i]? = some c ∧ DataW.trod enc P w base spare held n f.type [c] = some y := by
  obtain ⟨fuel, hf⟩ := h
  obtain ⟨xs, n, _, _, hl, hlen, hg⟩ := DataW.trod_struct hs hf
  have g := hg i f hi
  obtain ⟨ho, hc1⟩ := hone_of hone i f hi
  have hlt : i < fs.size := (Array.getElem?_eq_some_iff.1 hi).1
  have hl' : cs.toList.length = fs.size := by rw [← hC]; exact hl
  rw [ho, hc1] at g
  have g' : DataW.trod enc P w base spare held n f.type ((cs.toList.drop i).take 1) = xs[i]? := g
  rw [take1_drop cs.toList i undef (by omega)] at g'
  have hx : i < xs.length := by omega
  rw [List.getElem?_eq_getElem hx] at g'
  refine ⟨cs.toList.getD i undef, xs[i], n, ?_, g'⟩
  have hcs : i < cs.size := by simpa using (show i < cs.toList.length by omega)
  simp [List.getD, hcs]
theorem flat_int {t : TypeId} {fs : Array Field} {cs : Array Value} {d : DataW H} {ps : List MemPlace} {k : IntKind} (hs : P.underlying t = some (.struct fs)) (hone : oneCellFields P fs = true) (hC : P.cellsOf t = fs.size)
    (h : DataW.Trod enc P w base spare held t (.agg cs) d ps) {i : Nat} (hi : fs[i]?.map (fun f => P.underlying f.type) = some (some (.int k))) : ∃ z, cs[i]? = some (.int k z) ∧ (Lit.int k z).wf = true := by
  cases hf : fs[i]? with
  | none => rw [hf] at hi; cases hi
  | some f =>
  rw [hf] at hi
  have hk := Option.some.inj hi
  obtain ⟨c, y, n, h1, h2⟩ := flat_cell hs hone hC h hf
  obtain ⟨z, hz, _, hw⟩ := DataW.trod_int hk h2
  simp at hz
  exact ⟨z, by rw [h1, hz], hw⟩
theorem flat_string {t : TypeId} {fs : Array Field} {cs : Array Value} {d : DataW H} {ps : List MemPlace} (hs : P.underlying t = some (.struct fs)) (hone : oneCellFields P fs = true) (hC : P.cellsOf t = fs.size)
    (h : DataW.Trod enc P w base spare held t (.agg cs) d ps) {i : Nat} (hi : fs[i]?.map (fun f => P.underlying f.type) = some (some .string)) : ∃ s : ByteArray, cs[i]? = some (.string s) ∧ s.size ≤ maxLen := by
  cases hf : fs[i]? with
  | none => rw [hf] at hi; cases hi
  | some f =>
  rw [hf] at hi
  have hk := Option.some.inj hi
  obtain ⟨c, y, n, h1, h2⟩ := flat_cell hs hone hC h hf
  obtain ⟨z, hz, _, hw⟩ := DataW.trod_string hk h2
  simp at hz
  exact ⟨z, by rw [h1, hz], hw⟩
theorem arr_of {α : Type} {cs : Array α} {l : List α} (hn : cs.size = l.length) (h : ∀ i, i < l.length → cs[i]? = l[i]?) : cs = l.toArray := by
  apply Array.ext_getElem?
  intro i
  by_cases c : i < l.length
  · rw [h i c]; simp
  · rw [Array.getElem?_eq_none (by omega)]; simp; omega
end
end Go.Proofs.YtopkcaflmpjhgaaGreat

namespace Go.Proofs.YtopkcaflmpjhgaaGreat
open Go Go.Deep Go.ChangeShapes Go.WideShapes

section
variable {H : Type} {enc : TypeId × Value → H} {P : Program} {w : World} {base : Nat} {spare : Nat → Bool} {held : Bool}
theorem flat_cell2 {t : TypeId} {fs : Array Field} {cs : Array Value} {d : DataW H} {ps : List MemPlace} (hs : P.underlying t = some (.struct fs)) (hone : oneCellFields P fs = true) (hC : P.cellsOf t = fs.size)
    (h : DataW.Trod enc P w base spare held t (.agg cs) d ps) {i : Nat} {f : Field} (hi : fs[i]? = some f) :
    ∃ c y n parts, cs[i]? = some c ∧ DataW.trod enc P w base spare held n f.type [c] = some y ∧ d = .agg parts ∧ parts[i]? = some y.1 := by
  obtain ⟨fuel, hf⟩ := h
  obtain ⟨xs, n, _, hd, hl, hlen, hg⟩ := DataW.trod_struct hs hf
  have g := hg i f hi
  obtain ⟨ho, hc1⟩ := hone_of hone i f hi
  have hlt : i < fs.size := (Array.getElem?_eq_some_iff.1 hi).1
  have hl' : cs.toList.length = fs.size := by rw [← hC]; exact hl
  rw [ho, hc1] at g
  have g' : DataW.trod enc P w base spare held n f.type ((cs.toList.drop i).take 1) = xs[i]? := g
  rw [take1_drop cs.toList i undef (by omega)] at g'
  have hx : i < xs.length := by omega
  rw [List.getElem?_eq_getElem hx] at g'
  refine ⟨cs.toList.getD i undef, xs[i], n, xs.map (·.1), ?_, g', (Prod.mk.injEq .. ▸ hd).1, by simp [hx]⟩
  have hcs : i < cs.size := by simpa using (show i < cs.toList.length by omega)
  simp [List.getD, hcs]
theorem flat_bool {t : TypeId} {fs : Array Field} {cs : Array Value} {d : DataW H} {ps : List MemPlace} (hs : P.underlying t = some (.struct fs)) (hone : oneCellFields P fs = true) (hC : P.cellsOf t = fs.size)
    (h : DataW.Trod enc P w base spare held t (.agg cs) d ps) {i : Nat} (hi : fs[i]?.map (fun f => P.underlying f.type) = some (some .bool)) : ∃ b, cs[i]? = some (.bool b) := by
  cases hf : fs[i]? with
  | none => rw [hf] at hi; cases hi
  | some f =>
  rw [hf] at hi
  have hk := Option.some.inj hi
  obtain ⟨c, y, n, h1, h2⟩ := flat_cell hs hone hC h hf
  obtain ⟨z, hz, _⟩ := DataW.trod_bool hk h2
  simp at hz
  exact ⟨z, by rw [h1, hz]⟩
/-- A text of a struct whose data are not too heavy. -/
theorem flat_text {t : TypeId} {fs : Array Field} {cs : Array Value} {d : DataW H} {ps : List MemPlace} (hs : P.underlying t = some (.struct fs)) (hone : oneCellFields P fs = true) (hC : P.cellsOf t = fs.size)
    (h : DataW.Trod enc P w base spare held t (.agg cs) d ps) (hw : ∀ n ∈ d.weights P t, n ≤ reachBytes) {i : Nat} (hi : fs[i]?.map (fun f => P.underlying f.type) = some (some .string)) : ∃ s : ByteArray, cs[i]? = some (.string s) ∧ s.size ≤ reachBytes := by
  cases hf : fs[i]? with
  | none => rw [hf] at hi; cases hi
  | some f =>
  rw [hf] at hi
  have hk := Option.some.inj hi
  obtain ⟨c, y, n, parts, h1, h2, rfl, h4⟩ := flat_cell2 hs hone hC h hf
  obtain ⟨z, hz, hy, _⟩ := DataW.trod_string hk h2
  simp at hz
  refine ⟨z, by rw [h1, hz], ?_⟩
  rw [hy] at h4
  have hm : z.data.toList.length ∈ (DataW.agg parts).weights P t := by
    have hlt : i < fs.size := (Array.getElem?_eq_some_iff.1 hf).1
    have hft : (fs.toList.map (·.type))[i]? = some f.type := by simp [hf]
    have := DataW.weights_mem_each (P := P) hft h4 z.data.toList.length (by simp [DataW.weights])
    unfold DataW.weights
    rw [hs]
    exact this
  have := hw _ hm
  rw [show z.data.toList.length = z.size from Array.length_toList] at this
  exact this
theorem weightsAll_mem {e : TypeId} {l : List (DataW H)} {d : DataW H} {n : Nat} (hd : d ∈ l) (hn : n ∈ d.weights P e) : n ∈ DataW.weightsAll P e l := by
  induction l with
  | nil => cases hd
  | cons x l ih =>
    unfold DataW.weightsAll
    rcases List.mem_cons.1 hd with rfl | h
    · exact List.mem_append.2 (.inl hn)
    · exact List.mem_append.2 (.inr (ih h))
/-- What the arguments' bound says of a row. -/
theorem rows_sized {ts : List TypeId} {ds : List (DataW H)} (h : (DataW.weightsEach P ts ds).all (· ≤ reachBytes) = true) {j : Nat} {t e : TypeId} {elems sp : List (DataW H)} (ht : ts[j]? = some t) (hd : ds[j]? = some (.slice elems sp)) (hu : P.underlying t = some (.slice e)) :
    (elems.length + sp.length) * P.bytesOf e ≤ reachBytes ∧ ∀ D ∈ elems, ∀ n ∈ D.weights P e, n ≤ reachBytes := by
  refine ⟨sized_slice h ht hd hu, fun D hD n hn => ?_⟩
  have := List.all_eq_true.1 h _ (DataW.weights_mem_each ht hd n (by unfold DataW.weights; rw [hu]; exact List.mem_cons_of_mem _ (List.mem_append.2 (.inl (weightsAll_mem hD hn)))))
  simpa using this
theorem rows_open {t e : TypeId} {fs : Array Field} {a0 : Option Addr} {len cap : Nat} {d : DataW H} {ps : List MemPlace} (hu : P.underlying t = some (.slice e)) (hC : P.cellsOf e = fs.size)
    (h : DataW.Trod enc P w base (fun _ => true) held t (.slice a0 len cap) d ps) :
    len = 0 ∨ ∃ a elems sp, a0 = some a ∧ d = .slice elems sp ∧ elems.length = len ∧ ∀ i, i < len → ∃ (cs : Array Value) (D : DataW H) (q : List MemPlace), D ∈ elems ∧ cs.size = fs.size ∧ (∀ k, k < fs.size → w.cell? (a.add (i * fs.size + k)) = cs[k]?) ∧
      DataW.Trod enc P w base (fun _ => true) held e (.agg cs) D q := by
  obtain ⟨fuel, hf⟩ := h
  rcases open_slice hu hf with ⟨hcs, _⟩ | ⟨a, len', cap', m, n, D, Pl, hcs, _, hl, _, hm, hx, hc⟩
  · simp [Value.cells] at hcs
    exact .inl hcs.2.1
  · simp [Value.cells] at hcs
    obtain ⟨rfl, rfl, rfl⟩ := hcs
    simp only [Prod.mk.injEq] at hx
    simp only [if_true] at hm
    subst hm
    refine .inr ⟨a, _, _, rfl, hx.1, by simp, fun i hi => ?_⟩
    obtain ⟨cs, h1, h2⟩ := hc i (by omega)
    obtain ⟨_, g2, g3⟩ := World.cells?_some h1
    rw [hC] at g2 g3
    refine ⟨cs.toArray, D i, Pl i, by simp; exact ⟨i, hi, rfl⟩, by simpa using g2, fun k hk => ?_, ⟨n, by simpa [Value.cells] using h2⟩⟩
    have := g3 k hk
    rw [Addr.add_add] at this
    simpa using this
/-- From each to a row. -/
theorem row_each {α : Type} (z : α) {n : Nat} {p : Nat → α → Prop} (h : ∀ i, i < n → ∃ x, p i x) : ∃ l : List α, l.length = n ∧ ∀ j, j < n → p j (l.getD j z) := by
  obtain ⟨f, hf⟩ := @choose_lt α ⟨z⟩ n p h
  exact ⟨(List.range n).map f, by simp, fun j hj => by simpa [List.getD, hj] using hf j hj⟩
end
end Go.Proofs.YtopkcaflmpjhgaaGreat

namespace Go.Proofs.YtopkcaflmpjhgaaGreat
open Go.ChangeShapes Go.WideShapes Go.ChangeAt Go.RowKit

theorem own0 : ownKnob Tryz.prog.godebug = none := by kernel_rfl
theorem laidOut0 : laidOutB Tryz.prog = true := by kernel_rfl

section
variable {H : Type} {enc : TypeId × Value → H} {P : Program} {w : World} {base : Nat} {spare : Nat → Bool} {held : Bool}
theorem trodAll_five {t t' t'' t3 t4 : TypeId} {args : Array Value} {ds : List (DataW H)} {ps : List MemPlace} (h : DataW.TrodAll enc P w base spare held [t, t', t'', t3, t4] args.toList ds ps) :
    ∃ v v' v'' v3 v4 d d' d'' d3 d4 p p' p'' p3 p4, args = #[v, v', v'', v3, v4] ∧ ds = [d, d', d'', d3, d4] ∧ ps = p ++ p' ++ p'' ++ p3 ++ p4 ∧ DataW.Trod enc P w base spare held t v d p ∧ DataW.Trod enc P w base spare held t' v' d' p' ∧ DataW.Trod enc P w base spare held t'' v'' d'' p'' ∧ DataW.Trod enc P w base spare held t3 v3 d3 p3 ∧ DataW.Trod enc P w base spare held t4 v4 d4 p4 := by
  obtain ⟨v, vs, d, ds', p, q, hargs, rfl, rfl, hd, hrest⟩ := trodAll_cons h
  obtain ⟨v', vs', d', ds'', p', q', rfl, rfl, rfl, hd', hrest'⟩ := trodAll_cons hrest
  obtain ⟨v'', vs'', d'', ds''', p'', q'', rfl, rfl, rfl, hd'', hrest''⟩ := trodAll_cons hrest'
  obtain ⟨v3, vs3, d3, ds3, p3, q3, rfl, rfl, rfl, hd3, hrest3⟩ := trodAll_cons hrest''
  obtain ⟨v4, vs4, d4, ds4, p4, q4, rfl, rfl, rfl, hd4, hrest4⟩ := trodAll_cons hrest3
  obtain ⟨rfl, rfl, rfl⟩ := trodAll_nil hrest4
  exact ⟨v, v', v'', v3, v4, d, d', d'', d3, d4, p, p', p'', p3, p4, by cases args; simp_all, rfl, by simp, hd, hd', hd'', hd3, hd4⟩
theorem trodAll_mk5 {t t' t'' t3 t4 : TypeId} {v v' v'' v3 v4 : Value} {d d' d'' d3 d4 : DataW H} {p p' p'' p3 p4 : List MemPlace} (h : DataW.Trod enc P w base spare held t v d p) (h' : DataW.Trod enc P w base spare held t' v' d' p')
    (h'' : DataW.Trod enc P w base spare held t'' v'' d'' p'') (h3 : DataW.Trod enc P w base spare held t3 v3 d3 p3) (h4 : DataW.Trod enc P w base spare held t4 v4 d4 p4) : DataW.TrodAll enc P w base spare held [t, t', t'', t3, t4] [v, v', v'', v3, v4] [d, d', d'', d3, d4] (p ++ (p' ++ (p'' ++ (p3 ++ p4)))) := ⟨p, p' ++ (p'' ++ (p3 ++ p4)), h, trodAll_mk4 h' h'' h3 h4, rfl⟩
end
end Go.Proofs.YtopkcaflmpjhgaaGreat

namespace Go.Proofs.YtopkcaflmpjhgaaGreat
open Go Go.RowKit Go.Maps

/-- A row of numbers that came in: so many, each in its cell. -/
structure IArg (w : World) (ao : Option Addr) (zs : List Int) : Prop where
  cell : ∀ j, j < zs.length → ∃ b off, ao = some ⟨b, off, Option.none⟩ ∧ w.cell? ⟨b, off + j, Option.none⟩ = some (.int .i64 (zs.getD j 0))
  few : zs.length ≤ 17592186044415
  bd : ∀ z ∈ zs, -9223372036854775808 ≤ z ∧ z ≤ 9223372036854775807
theorem IArg.at {w : World} {ao : Option Addr} {zs : List Int} (h : IArg w ao zs) {k : Nat} (hk : k < zs.length) :
    ∃ b off z, ao = some ⟨b, off, Option.none⟩ ∧ zs.getD k 0 = z ∧ (-9223372036854775808 ≤ z ∧ z ≤ 9223372036854775807) ∧ ∀ W, Below w.heap.size w W → W.cell? ⟨b, off + k, Option.none⟩ = some (.int .i64 z) := by
  obtain ⟨b, off, e, hc⟩ := h.cell k hk
  refine ⟨b, off, _, e, rfl, h.bd _ (by rw [List.getD, List.getElem?_eq_getElem hk]; exact List.getElem_mem hk), fun W hW => ?_⟩
  have hlt := World.block_lt_of_cell? w ⟨b, off + k, Option.none⟩ hc
  rw [World.cell?_of_block (w := w) (hW.block b hlt)]; exact hc
theorem IArg.below {w w' : World} {ao : Option Addr} {zs : List Int} (h : IArg w ao zs) (hb : Below w.heap.size w w') : IArg w' ao zs := by
  refine ⟨fun j hj => ?_, h.few, h.bd⟩
  obtain ⟨b, off, z, e, hs, _, hW⟩ := h.at hj
  exact ⟨b, off, e, by rw [hs]; exact hW _ hb⟩
end Go.Proofs.YtopkcaflmpjhgaaGreat

namespace Go.Proofs.YtopkcaflmpjhgaaGreat
open Go.ChangeShapes Go.WideShapes Go.ChangeAt Go.RowKit

theorem cellsI : Tryz.prog.cellsOf 3 = 1 := by kernel_rfl
theorem bytesI : Tryz.prog.bytesOf 3 = 8 := by kernel_rfl
theorem ints_read : Tryz.prog.readableRec 27 = true := by kernel_rfl
theorem ints_row : 27 < Tryz.prog.types.size := of_decide_eq_true (by kernel_rfl)

theorem iarg_of {H : Type} {enc : TypeId × Value → H} {W : World} {a0 : Option Addr} {len cap : Nat} {d : DataW H} {ps : List MemPlace} (h : DataW.Trod enc Tryz.prog W 0 (fun _ => true) true 27 (.slice a0 len cap) d ps)
    (hsz : ∀ elems spare, d = .slice elems spare → (elems.length + spare.length) * 8 ≤ 140737488351232) : ∃ zs : List Int, zs.length = len ∧ IArg W a0 zs := by
  obtain ⟨fuel, hf⟩ := h
  rcases open_ints Tryz.underlying27 Tryz.underlying3 cellsI hf with ⟨hcs, hx⟩ | ⟨a, len', cap', zs, hcs, _, hl, hm, hz, hx, hcell, hws⟩
  · simp [Value.cells] at hcs
    obtain ⟨rfl, rfl, rfl⟩ := hcs
    exact ⟨[], rfl, ⟨(fun j hj => by cases hj), by simp, (fun z hz => by cases hz)⟩⟩
  · simp [Value.cells] at hcs
    obtain ⟨rfl, rfl, rfl⟩ := hcs
    simp only [Prod.mk.injEq] at hx
    have h1 := hsz _ _ hx.1
    simp only [if_true] at hz
    simp [lits] at h1
    have hlen : (zs.take len).length = len := by rw [List.length_take]; omega
    have hget : ∀ j, j < len → (zs.take len).getD j 0 = zs.getD j 0 := fun j hj => by
      have e1 : j < zs.length := by omega
      simp [List.getD, hj, e1]
    refine ⟨zs.take len, hlen, ⟨fun j hj => ?_, by rw [hlen]; omega, fun z hz' => ?_⟩⟩
    · rw [hlen] at hj
      have hc := hcell j (by omega)
      obtain ⟨b, off, spot⟩ := a
      have hspot : spot = none := by simpa [Addr.add] using World.cell?_spot (hcell 0 (by omega))
      subst hspot
      rw [Addr.add_lit] at hc
      exact ⟨b, off, rfl, by rw [hget j hj]; exact hc⟩
    · exact bounds_i64 (hws z (List.mem_of_mem_take hz'))
end Go.Proofs.YtopkcaflmpjhgaaGreat

