/- Configs, states, rows of events and of numbers that came in. No condition. -/
import Derived.Test.YtopkcaflmpjhgaaGreatBsv
import Derived.Test.YtopkcaflmpjhgaaGreatBfr
namespace Go.Proofs.YtopkcaflmpjhgaaGreat
open Go Go.Deep Go.ChangeShapes Go.WideShapes Go.ChangeAt Go.RowKit

section
variable {H : Type} {enc : TypeId × Value → H} {P : Program} {w : World} {base : Nat} {spare : Nat → Bool} {held : Bool}
/-- A field that is a number, wherever it lies. -/
theorem fld_int {t : TypeId} {fs : Array Field} {cs : Array Value} {d : DataW H} {ps : List MemPlace} (hs : P.underlying t = some (.struct fs)) (h : DataW.Trod enc P w base spare held t (.agg cs) d ps) {i o : Nat} {k : IntKind}
    (hi : fs[i]?.map (fun f => (f.offset, P.cellsOf f.type, P.underlying f.type)) = some (o, 1, some (.int k))) : ∃ z, cs[o]? = some (.int k z) ∧ (Lit.int k z).wf = true := by
  cases hf : fs[i]? with
  | none => rw [hf] at hi; cases hi
  | some f =>
  rw [hf] at hi
  simp only [Option.map_some, Option.some.injEq, Prod.mk.injEq] at hi
  obtain ⟨h1, h2, h3⟩ := hi
  obtain ⟨fuel, hq⟩ := h
  obtain ⟨xs, n, _, _, hl, hlen, hg⟩ := DataW.trod_struct hs hq
  have g := hg i f hf
  rw [h1, h2] at g
  have hx : i < xs.length := by rw [hlen]; exact (Array.getElem?_eq_some_iff.1 hf).1
  rw [List.getElem?_eq_getElem hx] at g
  obtain ⟨z, hz, _, hw⟩ := DataW.trod_int h3 g
  refine ⟨z, ?_, hw⟩
  have h0 := congrArg (fun l : List Value => l[0]?) hz
  simp only [List.getElem?_take, List.getElem?_drop, Nat.add_zero, Nat.zero_lt_one, if_true, List.getElem?_cons_zero] at h0
  rw [← Array.getElem?_toList]
  exact h0
/-- A field that is a struct. -/
theorem fld_sub {t : TypeId} {fs : Array Field} {cs : Array Value} {d : DataW H} {ps : List MemPlace} (hs : P.underlying t = some (.struct fs)) (h : DataW.Trod enc P w base spare held t (.agg cs) d ps) {i o n : Nat} {e : TypeId}
    (hi : fs[i]?.map (fun f => (f.offset, P.cellsOf f.type, f.type)) = some (o, n, e)) : ∃ d' ps', DataW.Trod enc P w base spare held e (.agg ((cs.toList.drop o).take n).toArray) d' ps' := by
  cases hf : fs[i]? with
  | none => rw [hf] at hi; cases hi
  | some f =>
  rw [hf] at hi
  simp only [Option.map_some, Option.some.injEq, Prod.mk.injEq] at hi
  obtain ⟨h1, h2, h3⟩ := hi
  obtain ⟨fuel, hq⟩ := h
  obtain ⟨xs, m, _, _, hl, hlen, hg⟩ := DataW.trod_struct hs hq
  have g := hg i f hf
  rw [h1, h2, h3] at g
  have hx : i < xs.length := by rw [hlen]; exact (Array.getElem?_eq_some_iff.1 hf).1
  rw [List.getElem?_eq_getElem hx] at g
  exact ⟨xs[i].1, xs[i].2, m, g⟩
end
section
variable {H : Type} {enc : TypeId × Value → H} {P : Program} {w : World} {base : Nat} {held : Bool}
/-- A row of structs that came in. -/
theorem rows_openN {t e : TypeId} {n : Nat} {a0 : Option Addr} {len cap : Nat} {d : DataW H} {ps : List MemPlace} (hu : P.underlying t = some (.slice e)) (hC : P.cellsOf e = n)
    (h : DataW.Trod enc P w base (fun _ => true) held t (.slice a0 len cap) d ps) :
    len = 0 ∨ ∃ a elems sp, a0 = some a ∧ d = .slice elems sp ∧ elems.length = len ∧ ∀ i, i < len → ∃ (cs : Array Value) (D : DataW H) (q : List MemPlace), D ∈ elems ∧ cs.size = n ∧ (∀ k, k < n → w.cell? (a.add (i * n + k)) = cs[k]?) ∧
      DataW.Trod enc P w base (fun _ => true) held e (.agg cs) D q := by
  obtain ⟨fuel, hf⟩ := h
  rcases open_slice hu hf with ⟨hcs, _⟩ | ⟨a, len', cap', m, n', D, Pl, hcs, _, hl, _, hm, hx, hc⟩
  · simp [Value.cells] at hcs
    exact .inl hcs.2.1
  · simp [Value.cells] at hcs
    obtain ⟨rfl, rfl, rfl⟩ := hcs
    simp only [Prod.mk.injEq] at hx
    simp only [if_true] at hm
    subst hm
    refine .inr ⟨a, _, _, rfl, hx.1, by simp, fun i hi => ?_⟩
    obtain ⟨cs, h1, h2⟩ := hc i (by omega)
    obtain ⟨_, g2, g3⟩ := World.cells?_some h1
    rw [hC] at g2 g3
    refine ⟨cs.toArray, D i, Pl i, by simp; exact ⟨i, hi, rfl⟩, by simpa using g2, fun k hk => ?_, ⟨n', by simpa [Value.cells] using h2⟩⟩
    have := g3 k hk
    rw [Addr.add_add] at this
    simpa using this
/-- A slice that came in: none has no room; it is no longer than its room. -/
theorem trod_slice {t e : TypeId} {a0 : Option Addr} {len cap : Nat} {d : DataW H} {ps : List MemPlace} (hu : P.underlying t = some (.slice e)) (h : DataW.Trod enc P w base (fun _ => true) held t (.slice a0 len cap) d ps) : (a0 = none → cap = 0) ∧ len ≤ cap := by
  obtain ⟨fuel, hf⟩ := h
  rcases open_slice hu hf with ⟨hcs, _⟩ | ⟨a, len', cap', m, n', D, Pl, hcs, _, hl, _, hm, hx, hc⟩
  · simp [Value.cells] at hcs
    exact ⟨fun _ => hcs.2.2, by omega⟩
  · simp [Value.cells] at hcs
    obtain ⟨rfl, rfl, rfl⟩ := hcs
    exact ⟨fun c => (by cases c), hl⟩
theorem slice_cell {t e : TypeId} {c : Value} {n : Nat} {y : DataW H × List MemPlace} (hu : P.underlying t = some (.slice e)) (h : DataW.trod enc P w base (fun _ => true) held n t [c] = some y) : ∃ a0 len cap, c = .slice a0 len cap := by
  rcases open_slice hu h with ⟨hcs, _⟩ | ⟨a, len', cap', m, n, D, Pl, hcs, _⟩
  · simp at hcs
    exact ⟨none, 0, 0, hcs⟩
  · simp at hcs
    exact ⟨some a, len', cap', hcs⟩
end
noncomputable def evFields : Array Field := match Tryz.prog.underlying 45 with
  | some (.struct fs) => fs
  | _ => #[]
theorem evU : Tryz.prog.underlying 45 = some (.struct evFields) := by kernel_rfl
theorem evOne : oneCellFields Tryz.prog evFields = true := by kernel_rfl
theorem evC : Tryz.prog.cellsOf 45 = evFields.size := by kernel_rfl
theorem evNC : Tryz.prog.cellsOf 45 = 8 := by kernel_rfl
theorem ev_bytes : Tryz.prog.bytesOf 45 = 64 := by kernel_rfl
theorem evR_read : Tryz.prog.readableRec 30 = true := by kernel_rfl
theorem evR_row : 30 < Tryz.prog.types.size := of_decide_eq_true (by kernel_rfl)
theorem EvAt.of {w : World} {b off : Nat} {es : List Ev} (h : ∀ j, j < es.length → ∀ i, i < 8 → w.cell? ⟨b, off + (j * 8 + i), none⟩ = (es.getD j Ev.zero).cs[i]?) : EvAt w b off es := by
  intro i u hu
  have hl : i < es.length * 8 := by
    rcases Nat.lt_or_ge i (es.length * 8) with c | c
    · exact c
    · rw [List.getElem?_eq_none (by rw [evCells_len]; exact c)] at hu; cases hu
  have e : i = i / 8 * 8 + i % 8 := by have := Nat.div_add_mod i 8; omega
  have hj : i / 8 < es.length := by omega
  have hlt : i % 8 < 8 := Nat.mod_lt _ (by decide)
  have h1 := evCells_at es hj hlt
  rw [← e, hu] at h1
  have h2 := h (i / 8) hj (i % 8) hlt
  rw [← e] at h2
  rw [h2, h1]
/-- Those that came in. -/
theorem ev_arg {H : Type} {enc : TypeId × Value → H} {W : World} {a0 : Option Addr} {len cap : Nat} {d : DataW H} {ps : List MemPlace} (h : DataW.Trod enc Tryz.prog W 0 (fun _ => true) true 30 (.slice a0 len cap) d ps)
    (hsz : ∀ elems sp, d = .slice elems sp → (elems.length + sp.length) * Tryz.prog.bytesOf 45 ≤ reachBytes) : ∃ es : List Ev, es.length = len ∧ EvIn [] W a0 es.length es ∧ (a0 = none → cap = 0) ∧ es.length ≤ 2199023255488 ∧ es.length ≤ cap ∧ True := by
  obtain ⟨hz, hcap⟩ := trod_slice Tryz.underlying30 h
  rcases rows_openN Tryz.underlying30 evNC h with rfl | ⟨a, elems, sp, hv, hd, hl, hc⟩
  · exact ⟨[], rfl, ⟨rfl, .inl rfl, by decide⟩, hz, by decide, Nat.zero_le _, trivial⟩
  · obtain rfl := hv
    have hs1 := hsz _ _ hd
    rw [ev_bytes] at hs1
    obtain ⟨cs, h1, h2⟩ := row_each (p := fun i (x : Ev) => (∀ k, k < 8 → W.cell? (a.add (i * 8 + k)) = x.cs[k]?) ∧ True) Ev.zero (n := len) fun i hi => by
      obtain ⟨cs, D, q, hD, hn, hcell, ht⟩ := hc i hi
      obtain ⟨z0, e0, _⟩ := flat_int evU evOne evC ht (i := 0) (k := .i64) (by kernel_rfl)
      obtain ⟨z1, e1, _⟩ := flat_int evU evOne evC ht (i := 1) (k := .i64) (by kernel_rfl)
      obtain ⟨z2, e2, _⟩ := flat_int evU evOne evC ht (i := 2) (k := .i64) (by kernel_rfl)
      obtain ⟨z3, e3, _⟩ := flat_int evU evOne evC ht (i := 3) (k := .i64) (by kernel_rfl)
      obtain ⟨z4, e4, _⟩ := flat_int evU evOne evC ht (i := 4) (k := .i64) (by kernel_rfl)
      obtain ⟨z5, e5, _⟩ := flat_int evU evOne evC ht (i := 5) (k := .i64) (by kernel_rfl)
      obtain ⟨z6, e6, _⟩ := flat_int evU evOne evC ht (i := 6) (k := .i64) (by kernel_rfl)
      obtain ⟨z7, e7, _⟩ := flat_int evU evOne evC ht (i := 7) (k := .i64) (by kernel_rfl)
      refine ⟨⟨z0, z1, z2, z3, z4, z5, z6, z7⟩, fun k hk => (hcell k hk).trans ?_, trivial⟩
      rcases (show k = 0 ∨ k = 1 ∨ k = 2 ∨ k = 3 ∨ k = 4 ∨ k = 5 ∨ k = 6 ∨ k = 7 by omega) with rfl | rfl | rfl | rfl | rfl | rfl | rfl | rfl
      · exact e0
      · exact e1
      · exact e2
      · exact e3
      · exact e4
      · exact e5
      · exact e6
      · exact e7
    subst h1
    have hr : reachBytes = 140737488351232 := rfl
    have hlen : cs.length ≤ 2199023255488 := by omega
    refine ⟨cs, rfl, ⟨rfl, ?_, by omega⟩, hz, hlen, hcap, trivial⟩
    by_cases h0 : cs.length = 0
    · exact .inl h0
    · obtain ⟨b, off, spot⟩ := a
      have h00 : W.cell? ((⟨b, off, spot⟩ : Addr).add (0 * 8 + 0)) = some _ := (h2 0 (by omega)).1 0 (by decide)
      have hspot : spot = Option.none := by simpa [Addr.add] using World.cell?_spot h00
      subst hspot
      refine .inr ⟨b, off, rfl, EvAt.of fun j hj i hi => ?_, by simp, ?_⟩
      · have := (h2 j hj).1 i hi
        rw [Addr.add_lit] at this
        exact this
      · rw [Addr.add_lit] at h00
        exact World.block_lt_of_cell? W _ h00
noncomputable def usFields : Array Field := match Tryz.prog.underlying 63 with
  | some (.struct fs) => fs
  | _ => #[]
theorem usU : Tryz.prog.underlying 63 = some (.struct usFields) := by kernel_rfl
noncomputable def lockFields : Array Field := match Tryz.prog.underlying 61 with
  | some (.struct fs) => fs
  | _ => #[]
theorem lockU : Tryz.prog.underlying 61 = some (.struct lockFields) := by kernel_rfl
theorem usNC : Tryz.prog.cellsOf 63 = 9 := by kernel_rfl
theorem us_bytes : Tryz.prog.bytesOf 63 = 72 := by kernel_rfl
theorem usR_read : Tryz.prog.readableRec 24 = true := by kernel_rfl
theorem usR_row : 24 < Tryz.prog.types.size := of_decide_eq_true (by kernel_rfl)
theorem UsAt.of {w : World} {b off : Nat} {es : List Us} (h : ∀ j, j < es.length → ∀ i, i < 9 → w.cell? ⟨b, off + (j * 9 + i), none⟩ = (es.getD j Us.none).cs[i]?) : UsAt w b off es := by
  intro i u hu
  have hl : i < es.length * 9 := by
    rcases Nat.lt_or_ge i (es.length * 9) with c | c
    · exact c
    · rw [List.getElem?_eq_none (by rw [usCells_len]; exact c)] at hu; cases hu
  have e : i = i / 9 * 9 + i % 9 := by have := Nat.div_add_mod i 9; omega
  have hj : i / 9 < es.length := by omega
  have hlt : i % 9 < 9 := Nat.mod_lt _ (by decide)
  have h1 := usCells_at es hj hlt
  rw [← e, hu] at h1
  have h2 := h (i / 9) hj (i % 9) hlt
  rw [← e] at h2
  rw [h2, h1]
/-- Those that came in. -/
theorem us_arg {H : Type} {enc : TypeId × Value → H} {W : World} {a0 : Option Addr} {len cap : Nat} {d : DataW H} {ps : List MemPlace} (h : DataW.Trod enc Tryz.prog W 0 (fun _ => true) true 24 (.slice a0 len cap) d ps)
    (hsz : ∀ elems sp, d = .slice elems sp → (elems.length + sp.length) * Tryz.prog.bytesOf 63 ≤ reachBytes) : ∃ es : List Us, es.length = len ∧ UsIn [] W a0 es.length es ∧ (a0 = none → cap = 0) ∧ es.length ≤ 1954687338211 ∧ es.length ≤ cap ∧ ∀ x ∈ es, -9223372036854775808 ≤ x.used ∧ x.used ≤ 9223372036854775807 := by
  obtain ⟨hz, hcap⟩ := trod_slice Tryz.underlying24 h
  rcases rows_openN Tryz.underlying24 usNC h with rfl | ⟨a, elems, sp, hv, hd, hl, hc⟩
  · exact ⟨[], rfl, ⟨rfl, .inl rfl, by decide⟩, hz, by decide, Nat.zero_le _, (fun x hx => by cases hx)⟩
  · obtain rfl := hv
    have hs1 := hsz _ _ hd
    rw [us_bytes] at hs1
    obtain ⟨cs, h1, h2⟩ := row_each (p := fun i (x : Us) => (∀ k, k < 9 → W.cell? (a.add (i * 9 + k)) = x.cs[k]?) ∧ -9223372036854775808 ≤ x.used ∧ x.used ≤ 9223372036854775807) Us.none (n := len) fun i hi => by
      obtain ⟨cs, D, q, hD, hn, hcell, ht⟩ := hc i hi
      obtain ⟨z0, e0, w0⟩ := fld_int usU ht (i := 0) (o := 0) (k := .i64) (by kernel_rfl)
      obtain ⟨z1, e1, w1⟩ := fld_int usU ht (i := 1) (o := 1) (k := .i64) (by kernel_rfl)
      obtain ⟨z2, e2, w2⟩ := fld_int usU ht (i := 2) (o := 2) (k := .i64) (by kernel_rfl)
      obtain ⟨z3, e3, w3⟩ := fld_int usU ht (i := 3) (o := 3) (k := .i64) (by kernel_rfl)
      obtain ⟨z4, e4, w4⟩ := fld_int usU ht (i := 4) (o := 4) (k := .i64) (by kernel_rfl)
      obtain ⟨dl, pl, hlk⟩ := fld_sub usU ht (i := 5) (o := 5) (n := 2) (e := 61) (by kernel_rfl)
      obtain ⟨z5, y5, _⟩ := fld_int lockU hlk (i := 0) (o := 0) (k := .i64) (by kernel_rfl)
      have e5 : cs[5]? = some (.int .i64 z5) := by simpa [List.getElem?_take, List.getElem?_drop] using y5
      obtain ⟨z6, y6, _⟩ := fld_int lockU hlk (i := 1) (o := 1) (k := .i64) (by kernel_rfl)
      have e6 : cs[6]? = some (.int .i64 z6) := by simpa [List.getElem?_take, List.getElem?_drop] using y6
      obtain ⟨z7, e7, _⟩ := fld_int usU ht (i := 6) (o := 7) (k := .i64) (by kernel_rfl)
      obtain ⟨z8, e8, _⟩ := fld_int usU ht (i := 7) (o := 8) (k := .i64) (by kernel_rfl)
      refine ⟨⟨z0, z1, z2, z3, z4, z5, z6, z7, z8⟩, fun k hk => (hcell k hk).trans ?_, bounds_i64 w4⟩
      rcases (show k = 0 ∨ k = 1 ∨ k = 2 ∨ k = 3 ∨ k = 4 ∨ k = 5 ∨ k = 6 ∨ k = 7 ∨ k = 8 by omega) with rfl | rfl | rfl | rfl | rfl | rfl | rfl | rfl | rfl
      · exact e0
      · exact e1
      · exact e2
      · exact e3
      · exact e4
      · exact e5
      · exact e6
      · exact e7
      · exact e8
    subst h1
    have hr : reachBytes = 140737488351232 := rfl
    have hlen : cs.length ≤ 1954687338211 := by omega
    refine ⟨cs, rfl, ⟨rfl, ?_, by omega⟩, hz, hlen, hcap, (fun x hx => by
      obtain ⟨i, hi, rfl⟩ := List.getElem_of_mem hx
      have := (h2 i hi).2
      simpa [List.getD, hi] using this)⟩
    by_cases h0 : cs.length = 0
    · exact .inl h0
    · obtain ⟨b, off, spot⟩ := a
      have h00 : W.cell? ((⟨b, off, spot⟩ : Addr).add (0 * 9 + 0)) = some _ := (h2 0 (by omega)).1 0 (by decide)
      have hspot : spot = Option.none := by simpa [Addr.add] using World.cell?_spot h00
      subst hspot
      refine .inr ⟨b, off, rfl, UsAt.of fun j hj i hi => ?_, by simp, ?_⟩
      · have := (h2 j hj).1 i hi
        rw [Addr.add_lit] at this
        exact this
      · rw [Addr.add_lit] at h00
        exact World.block_lt_of_cell? W _ h00
noncomputable def seFields : Array Field := match Tryz.prog.underlying 66 with
  | some (.struct fs) => fs
  | _ => #[]
theorem seU : Tryz.prog.underlying 66 = some (.struct seFields) := by kernel_rfl
theorem seOne : oneCellFields Tryz.prog seFields = true := by kernel_rfl
theorem seC : Tryz.prog.cellsOf 66 = seFields.size := by kernel_rfl
theorem seNC : Tryz.prog.cellsOf 66 = 4 := by kernel_rfl
theorem se_bytes : Tryz.prog.bytesOf 66 = 32 := by kernel_rfl
theorem seR_read : Tryz.prog.readableRec 25 = true := by kernel_rfl
theorem seR_row : 25 < Tryz.prog.types.size := of_decide_eq_true (by kernel_rfl)
theorem SeAt.of {w : World} {b off : Nat} {es : List Se} (h : ∀ j, j < es.length → ∀ i, i < 4 → w.cell? ⟨b, off + (j * 4 + i), none⟩ = (es.getD j Se.none).cs[i]?) : SeAt w b off es := by
  intro i u hu
  have hl : i < es.length * 4 := by
    rcases Nat.lt_or_ge i (es.length * 4) with c | c
    · exact c
    · rw [List.getElem?_eq_none (by rw [seCells_len]; exact c)] at hu; cases hu
  have e : i = i / 4 * 4 + i % 4 := by have := Nat.div_add_mod i 4; omega
  have hj : i / 4 < es.length := by omega
  have hlt : i % 4 < 4 := Nat.mod_lt _ (by decide)
  have h1 := seCells_at es hj hlt
  rw [← e, hu] at h1
  have h2 := h (i / 4) hj (i % 4) hlt
  rw [← e] at h2
  rw [h2, h1]
/-- Those that came in. -/
theorem se_arg {H : Type} {enc : TypeId × Value → H} {W : World} {a0 : Option Addr} {len cap : Nat} {d : DataW H} {ps : List MemPlace} (h : DataW.Trod enc Tryz.prog W 0 (fun _ => true) true 25 (.slice a0 len cap) d ps)
    (hsz : ∀ elems sp, d = .slice elems sp → (elems.length + sp.length) * Tryz.prog.bytesOf 66 ≤ reachBytes) : ∃ es : List Se, es.length = len ∧ SeIn [] W a0 es.length es ∧ (a0 = none → cap = 0) ∧ es.length ≤ 4398046510976 ∧ es.length ≤ cap ∧ True := by
  obtain ⟨hz, hcap⟩ := trod_slice Tryz.underlying25 h
  rcases rows_openN Tryz.underlying25 seNC h with rfl | ⟨a, elems, sp, hv, hd, hl, hc⟩
  · exact ⟨[], rfl, ⟨rfl, .inl rfl, by decide⟩, hz, by decide, Nat.zero_le _, trivial⟩
  · obtain rfl := hv
    have hs1 := hsz _ _ hd
    rw [se_bytes] at hs1
    obtain ⟨cs, h1, h2⟩ := row_each (p := fun i (x : Se) => (∀ k, k < 4 → W.cell? (a.add (i * 4 + k)) = x.cs[k]?) ∧ True) Se.none (n := len) fun i hi => by
      obtain ⟨cs, D, q, hD, hn, hcell, ht⟩ := hc i hi
      obtain ⟨z0, e0, _⟩ := flat_int seU seOne seC ht (i := 0) (k := .i64) (by kernel_rfl)
      obtain ⟨z1, e1, _⟩ := flat_int seU seOne seC ht (i := 1) (k := .i64) (by kernel_rfl)
      obtain ⟨z2, e2, _⟩ := flat_int seU seOne seC ht (i := 2) (k := .i64) (by kernel_rfl)
      obtain ⟨z3, e3, _⟩ := flat_int seU seOne seC ht (i := 3) (k := .i64) (by kernel_rfl)
      refine ⟨⟨z0, z1, z2, z3⟩, fun k hk => (hcell k hk).trans ?_, trivial⟩
      rcases (show k = 0 ∨ k = 1 ∨ k = 2 ∨ k = 3 by omega) with rfl | rfl | rfl | rfl
      · exact e0
      · exact e1
      · exact e2
      · exact e3
    subst h1
    have hr : reachBytes = 140737488351232 := rfl
    have hlen : cs.length ≤ 4398046510976 := by omega
    refine ⟨cs, rfl, ⟨rfl, ?_, by omega⟩, hz, hlen, hcap, trivial⟩
    by_cases h0 : cs.length = 0
    · exact .inl h0
    · obtain ⟨b, off, spot⟩ := a
      have h00 : W.cell? ((⟨b, off, spot⟩ : Addr).add (0 * 4 + 0)) = some _ := (h2 0 (by omega)).1 0 (by decide)
      have hspot : spot = Option.none := by simpa [Addr.add] using World.cell?_spot h00
      subst hspot
      refine .inr ⟨b, off, rfl, SeAt.of fun j hj i hi => ?_, by simp, ?_⟩
      · have := (h2 j hj).1 i hi
        rw [Addr.add_lit] at this
        exact this
      · rw [Addr.add_lit] at h00
        exact World.block_lt_of_cell? W _ h00
noncomputable def paFields : Array Field := match Tryz.prog.underlying 69 with
  | some (.struct fs) => fs
  | _ => #[]
theorem paU : Tryz.prog.underlying 69 = some (.struct paFields) := by kernel_rfl
theorem paOne : oneCellFields Tryz.prog paFields = true := by kernel_rfl
theorem paC : Tryz.prog.cellsOf 69 = paFields.size := by kernel_rfl
theorem paNC : Tryz.prog.cellsOf 69 = 3 := by kernel_rfl
theorem pa_bytes : Tryz.prog.bytesOf 69 = 24 := by kernel_rfl
theorem paR_read : Tryz.prog.readableRec 26 = true := by kernel_rfl
theorem paR_row : 26 < Tryz.prog.types.size := of_decide_eq_true (by kernel_rfl)
theorem PaAt.of {w : World} {b off : Nat} {es : List Pa} (h : ∀ j, j < es.length → ∀ i, i < 3 → w.cell? ⟨b, off + (j * 3 + i), none⟩ = (es.getD j Pa.none).cs[i]?) : PaAt w b off es := by
  intro i u hu
  have hl : i < es.length * 3 := by
    rcases Nat.lt_or_ge i (es.length * 3) with c | c
    · exact c
    · rw [List.getElem?_eq_none (by rw [paCells_len]; exact c)] at hu; cases hu
  have e : i = i / 3 * 3 + i % 3 := by have := Nat.div_add_mod i 3; omega
  have hj : i / 3 < es.length := by omega
  have hlt : i % 3 < 3 := Nat.mod_lt _ (by decide)
  have h1 := paCells_at es hj hlt
  rw [← e, hu] at h1
  have h2 := h (i / 3) hj (i % 3) hlt
  rw [← e] at h2
  rw [h2, h1]
/-- Those that came in. -/
theorem pa_arg {H : Type} {enc : TypeId × Value → H} {W : World} {a0 : Option Addr} {len cap : Nat} {d : DataW H} {ps : List MemPlace} (h : DataW.Trod enc Tryz.prog W 0 (fun _ => true) true 26 (.slice a0 len cap) d ps)
    (hsz : ∀ elems sp, d = .slice elems sp → (elems.length + sp.length) * Tryz.prog.bytesOf 69 ≤ reachBytes) : ∃ es : List Pa, es.length = len ∧ PaIn [] W a0 es.length es ∧ (a0 = none → cap = 0) ∧ es.length ≤ 5864062014634 ∧ es.length ≤ cap ∧ True := by
  obtain ⟨hz, hcap⟩ := trod_slice Tryz.underlying26 h
  rcases rows_openN Tryz.underlying26 paNC h with rfl | ⟨a, elems, sp, hv, hd, hl, hc⟩
  · exact ⟨[], rfl, ⟨rfl, .inl rfl, by decide⟩, hz, by decide, Nat.zero_le _, trivial⟩
  · obtain rfl := hv
    have hs1 := hsz _ _ hd
    rw [pa_bytes] at hs1
    obtain ⟨cs, h1, h2⟩ := row_each (p := fun i (x : Pa) => (∀ k, k < 3 → W.cell? (a.add (i * 3 + k)) = x.cs[k]?) ∧ True) Pa.none (n := len) fun i hi => by
      obtain ⟨cs, D, q, hD, hn, hcell, ht⟩ := hc i hi
      obtain ⟨z0, e0⟩ := flat_bool paU paOne paC ht (i := 0) (by kernel_rfl)
      obtain ⟨z1, e1, _⟩ := flat_int paU paOne paC ht (i := 1) (k := .i64) (by kernel_rfl)
      obtain ⟨z2, e2, _⟩ := flat_int paU paOne paC ht (i := 2) (k := .i64) (by kernel_rfl)
      refine ⟨⟨z0, z1, z2⟩, fun k hk => (hcell k hk).trans ?_, trivial⟩
      rcases (show k = 0 ∨ k = 1 ∨ k = 2 by omega) with rfl | rfl | rfl
      · exact e0
      · exact e1
      · exact e2
    subst h1
    have hr : reachBytes = 140737488351232 := rfl
    have hlen : cs.length ≤ 5864062014634 := by omega
    refine ⟨cs, rfl, ⟨rfl, ?_, by omega⟩, hz, hlen, hcap, trivial⟩
    by_cases h0 : cs.length = 0
    · exact .inl h0
    · obtain ⟨b, off, spot⟩ := a
      have h00 : W.cell? ((⟨b, off, spot⟩ : Addr).add (0 * 3 + 0)) = some _ := (h2 0 (by omega)).1 0 (by decide)
      have hspot : spot = Option.none := by simpa [Addr.add] using World.cell?_spot h00
      subst hspot
      refine .inr ⟨b, off, rfl, PaAt.of fun j hj i hi => ?_, by simp, ?_⟩
      · have := (h2 j hj).1 i hi
        rw [Addr.add_lit] at this
        exact this
      · rw [Addr.add_lit] at h00
        exact World.block_lt_of_cell? W _ h00
theorem ints_NC : Tryz.prog.cellsOf 3 = 1 := by kernel_rfl
theorem IArg.inIn {W : World} {a0 : Option Addr} {zs : List Int} (h : IArg W a0 zs) : InIn [] W a0 zs.length zs := by
  refine ⟨rfl, ?_, by have := h.few; omega⟩
  by_cases h0 : zs.length = 0
  · exact .inl h0
  · obtain ⟨b, off, e, hc⟩ := h.cell 0 (by omega)
    refine .inr ⟨b, off, e, fun i u hu => ?_, by simp, World.block_lt_of_cell? W _ hc⟩
    have hi : i < zs.length := by
      rcases Nat.lt_or_ge i zs.length with c | c
      · exact c
      · rw [List.getElem?_eq_none (by rw [inCells_len]; omega)] at hu; cases hu
    obtain ⟨b', off', e', hc'⟩ := h.cell i hi
    rw [e] at e'
    obtain ⟨rfl, rfl⟩ : b = b' ∧ off = off' := by simpa using e'
    rw [inCells_at zs hi] at hu
    rw [hc', ← hu]
theorem in_arg {H : Type} {enc : TypeId × Value → H} {W : World} {a0 : Option Addr} {len cap : Nat} {d : DataW H} {ps : List MemPlace} (h : DataW.Trod enc Tryz.prog W 0 (fun _ => true) true 27 (.slice a0 len cap) d ps)
    (hsz : ∀ elems sp, d = .slice elems sp → (elems.length + sp.length) * Tryz.prog.bytesOf 3 ≤ reachBytes) : ∃ zs : List Int, zs.length = len ∧ InIn [] W a0 zs.length zs ∧ (a0 = none → cap = 0) ∧ zs.length ≤ 17592186043904 ∧ ∀ z ∈ zs, -9223372036854775808 ≤ z ∧ z ≤ 9223372036854775807 := by
  obtain ⟨hz, -⟩ := trod_slice Tryz.underlying27 h
  obtain ⟨zs, h1, h2⟩ := iarg_of h (fun elems sp hd => by have := hsz elems sp hd; rw [bytesI] at this; unfold reachBytes at this; omega)
  refine ⟨zs, h1, h2.inIn, hz, ?_, h2.bd⟩
  rcases rows_openN Tryz.underlying27 ints_NC h with e | ⟨a, elems, sp, -, hd, hl, -⟩
  · omega
  · have := hsz _ _ hd
    rw [bytesI] at this
    have hr : reachBytes = 140737488351232 := rfl
    omega
noncomputable def cfFields : Array Field := match Tryz.prog.underlying 23 with
  | some (.struct fs) => fs
  | _ => #[]
theorem cfU : Tryz.prog.underlying 23 = some (.struct cfFields) := by kernel_rfl
theorem cfOne : oneCellFields Tryz.prog cfFields = true := by kernel_rfl
theorem cfCC : Tryz.prog.cellsOf 23 = cfFields.size := by kernel_rfl
theorem cfNN : Tryz.prog.cellsOf 23 = 12 := by kernel_rfl
set_option maxRecDepth 100000 in
theorem cf_open {H : Type} {enc : TypeId × Value → H} {W : World} {base : Nat} {spare : Nat → Bool} {held : Bool} {r : Reach} {b0 : Nat} {v : Value} {d : DataW H} {ps : List MemPlace} (hv : Value.okWide Tryz.prog W r b0 23 v)
    (h : DataW.Trod enc Tryz.prog W base spare held 23 v d ps) : ∃ c : Cf, v = .agg (cfC c) := by
  obtain ⟨cs, rfl, hsz⟩ := okWide_struct cfU hv
  obtain ⟨z0, e0, _⟩ := flat_int cfU cfOne cfCC h (i := 0) (k := .i64) (by kernel_rfl)
  obtain ⟨z1, e1, _⟩ := flat_int cfU cfOne cfCC h (i := 1) (k := .i64) (by kernel_rfl)
  obtain ⟨z2, e2, _⟩ := flat_int cfU cfOne cfCC h (i := 2) (k := .i64) (by kernel_rfl)
  obtain ⟨z3, e3, _⟩ := flat_int cfU cfOne cfCC h (i := 3) (k := .i64) (by kernel_rfl)
  obtain ⟨z4, e4, _⟩ := flat_int cfU cfOne cfCC h (i := 4) (k := .i64) (by kernel_rfl)
  obtain ⟨z5, e5, _⟩ := flat_int cfU cfOne cfCC h (i := 5) (k := .i64) (by kernel_rfl)
  obtain ⟨z6, e6, _⟩ := flat_int cfU cfOne cfCC h (i := 6) (k := .i64) (by kernel_rfl)
  obtain ⟨z7, e7, _⟩ := flat_int cfU cfOne cfCC h (i := 7) (k := .i64) (by kernel_rfl)
  obtain ⟨z8, e8, _⟩ := flat_int cfU cfOne cfCC h (i := 8) (k := .i64) (by kernel_rfl)
  obtain ⟨z9, e9, _⟩ := flat_int cfU cfOne cfCC h (i := 9) (k := .i64) (by kernel_rfl)
  obtain ⟨z10, e10, _⟩ := flat_int cfU cfOne cfCC h (i := 10) (k := .i64) (by kernel_rfl)
  obtain ⟨z11, e11, _⟩ := flat_int cfU cfOne cfCC h (i := 11) (k := .i64) (by kernel_rfl)
  refine ⟨⟨z0, z1, z2, z3, z4, z5, z6, z7, z8, z9, z10, z11⟩, ?_⟩
  have := arr_of (cs := cs) (l := [.int .i64 z0, .int .i64 z1, .int .i64 z2, .int .i64 z3, .int .i64 z4, .int .i64 z5, .int .i64 z6, .int .i64 z7, .int .i64 z8, .int .i64 z9, .int .i64 z10, .int .i64 z11]) (hsz.trans cfNN) (fun i hi => by
    match i, hi with
    | 0, _ => exact e0
    | 1, _ => exact e1
    | 2, _ => exact e2
    | 3, _ => exact e3
    | 4, _ => exact e4
    | 5, _ => exact e5
    | 6, _ => exact e6
    | 7, _ => exact e7
    | 8, _ => exact e8
    | 9, _ => exact e9
    | 10, _ => exact e10
    | 11, _ => exact e11)
  rw [this]
theorem cf_read : Tryz.prog.readableRec 23 = true := by kernel_rfl
theorem cf_row : 23 < Tryz.prog.types.size := of_decide_eq_true (by kernel_rfl)
noncomputable def stFields : Array Field := match Tryz.prog.underlying 29 with
  | some (.struct fs) => fs
  | _ => #[]
theorem stU : Tryz.prog.underlying 29 = some (.struct stFields) := by kernel_rfl
theorem stOne : oneCellFields Tryz.prog stFields = true := by kernel_rfl
theorem stCC : Tryz.prog.cellsOf 29 = stFields.size := by kernel_rfl
theorem stNN : Tryz.prog.cellsOf 29 = 7 := by kernel_rfl
theorem st_read : Tryz.prog.readableRec 29 = true := by kernel_rfl
theorem st_row : 29 < Tryz.prog.types.size := of_decide_eq_true (by kernel_rfl)
/-- A row of a state that came in. -/
theorem st_part {H : Type} {enc : TypeId × Value → H} {W : World} {cs : Array Value} {d : DataW H} {ps : List MemPlace} (h : DataW.Trod enc Tryz.prog W 0 (fun _ => true) true 29 (.agg cs) d ps) (hw : ∀ n ∈ d.weights Tryz.prog 29, n ≤ reachBytes) {i : Nat} {t e : TypeId} (hu : Tryz.prog.underlying t = some (.slice e)) (hi : stFields[i]?.map (fun f => f.type) = some t) :
    ∃ (ao : Option Addr) (len cap : Nat) (D : DataW H) (pl : List MemPlace), cs[i]? = some (.slice ao len cap) ∧ DataW.Trod enc Tryz.prog W 0 (fun _ => true) true t (.slice ao len cap) D pl ∧ ∀ elems sp, D = .slice elems sp → (elems.length + sp.length) * Tryz.prog.bytesOf e ≤ reachBytes := by
  cases hf : stFields[i]? with
  | none => rw [hf] at hi; cases hi
  | some f =>
  have hft : f.type = t := by rw [hf] at hi; exact Option.some.inj hi
  obtain ⟨c, y, n, parts, hc, hy, hD, hp⟩ := flat_cell2 stU stOne stCC h hf
  rw [hft] at hy
  obtain ⟨ao, len, cap, rfl⟩ := slice_cell hu hy
  refine ⟨ao, len, cap, y.1, y.2, hc, ⟨n, by simpa [Value.cells] using hy⟩, fun elems sp hd => ?_⟩
  have hft2 : (stFields.toList.map (·.type))[i]? = some t := by simp [hf, hft]
  rw [hd] at hp
  have := DataW.weights_mem_each (P := Tryz.prog) hft2 hp ((elems.length + sp.length) * Tryz.prog.bytesOf e) (by unfold DataW.weights; rw [hu]; exact List.mem_cons_self)
  refine hw _ ?_
  rw [hD]
  unfold DataW.weights
  rw [stU]
  exact this
set_option maxRecDepth 100000 in
theorem st_open {H : Type} {enc : TypeId × Value → H} {W : World} {r : Reach} {b0 : Nat} {v : Value} {d : DataW H} {ps : List MemPlace} (hv : Value.okWide Tryz.prog W r b0 29 v)
    (h : DataW.Trod enc Tryz.prog W 0 (fun _ => true) true 29 v d ps) (hw : ∀ n ∈ d.weights Tryz.prog 29, n ≤ reachBytes) : ∃ (hh : Sv) (s : St), v = .agg (stC hh s) ∧ StIn W hh s ∧ s.sm 61 := by
  obtain ⟨cs, rfl, hsz⟩ := okWide_struct stU hv
  obtain ⟨z0, e0, w0⟩ := flat_int stU stOne stCC h (i := 0) (k := .i64) (by kernel_rfl)
  obtain ⟨z1, e1, w1⟩ := flat_int stU stOne stCC h (i := 1) (k := .i64) (by kernel_rfl)
  obtain ⟨z2, e2, w2⟩ := flat_int stU stOne stCC h (i := 2) (k := .i64) (by kernel_rfl)
  obtain ⟨a3, n3, c3, D3, p3, e3, t3, s3⟩ := st_part h hw (i := 3) Tryz.underlying24 (by kernel_rfl)
  obtain ⟨a4, n4, c4, D4, p4, e4, t4, s4⟩ := st_part h hw (i := 4) Tryz.underlying25 (by kernel_rfl)
  obtain ⟨a5, n5, c5, D5, p5, e5, t5, s5⟩ := st_part h hw (i := 5) Tryz.underlying26 (by kernel_rfl)
  obtain ⟨a6, n6, c6, D6, p6, e6, t6, s6⟩ := st_part h hw (i := 6) Tryz.underlying27 (by kernel_rfl)
  obtain ⟨us, l3, i3, k3, b3, -, bu⟩ := us_arg t3 s3
  obtain ⟨ss, l4, i4, k4, b4, -, -⟩ := se_arg t4 s4
  obtain ⟨ad, l5, i5, k5, b5, -, -⟩ := pa_arg t5 s5
  obtain ⟨sp, l6, i6, k6, b6, w6⟩ := in_arg t6 s6
  subst l3 l4 l5 l6
  refine ⟨⟨a3, c3, a4, c4, a5, c5, a6, c6⟩, ⟨z0, z1, z2, us, ss, ad, sp⟩, ?_, ⟨i3, i4, i5, i6, k3, k4, k5, k6, by show us.length ≤ _; omega, by show ss.length ≤ _; omega, by show ad.length ≤ _; omega, by show sp.length ≤ _; omega⟩, ⟨?_, by show ss.length ≤ _; omega, by show ad.length ≤ _; omega, by show sp.length + 61 ≤ _; omega, ⟨(bounds_i64 w1).1, bu⟩, w6⟩⟩
  · have := arr_of (cs := cs) (l := [.int .i64 z0, .int .i64 z1, .int .i64 z2, .slice a3 us.length c3, .slice a4 ss.length c4, .slice a5 ad.length c5, .slice a6 sp.length c6]) (hsz.trans stNN) (fun i hi => by
      match i, hi with
      | 0, _ => exact e0
      | 1, _ => exact e1
      | 2, _ => exact e2
      | 3, _ => exact e3
      | 4, _ => exact e4
      | 5, _ => exact e5
      | 6, _ => exact e6)
    rw [this]
  · show us.length + uFree us ≤ _
    have := uFree_le us
    omega
/-- What the arguments' bound says of one. -/
theorem arg_sized {H : Type} {P : Program} {ts : List TypeId} {ds : List (DataW H)} (h : (DataW.weightsEach P ts ds).all (· ≤ reachBytes) = true) {j : Nat} {t : TypeId} {d : DataW H} (ht : ts[j]? = some t) (hd : ds[j]? = some d) : ∀ n ∈ d.weights P t, n ≤ reachBytes := fun n hn => by
  have := List.all_eq_true.1 h _ (DataW.weights_mem_each ht hd n hn)
  simpa using this
end Go.Proofs.YtopkcaflmpjhgaaGreat
