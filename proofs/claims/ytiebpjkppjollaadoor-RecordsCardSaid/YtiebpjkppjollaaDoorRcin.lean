/- Records that came in, by value and in rows; events in rows. No condition. -/
import Derived.Test.YtiebpjkppjollaaDoorOpenEv
import Derived.Test.YtiebpjkppjollaaDoorBfl
import Derived.Test.YtiebpjkppjollaaDoorFrame0
import Derived.Test.YtiebpjkppjollaaDoorBpm
namespace Go.Proofs.YtiebpjkppjollaaDoor
open Go Go.Deep Go.ChangeShapes Go.WideShapes Go.ChangeAt Go.RowKit

section
variable {H : Type} {enc : TypeId × Value → H} {P : Program} {w : World} {base : Nat} {spare : Nat → Bool} {held : Bool}
/-- A field that is a number, wherever it lies. -/
theorem fld_int {t : TypeId} {fs : Array Field} {cs : Array Value} {d : DataW H} {ps : List MemPlace} (hs : P.underlying t = some (.struct fs)) (h : DataW.Trod enc P w base spare held t (.agg cs) d ps) {i o : Nat} {k : IntKind}
    (hi : fs[i]?.map (fun f => (f.offset, P.cellsOf f.type, P.underlying f.type)) = some (o, 1, some (.int k))) : ∃ z, cs[o]? = some (.int k z) ∧ (Lit.int k z).wf = true := by
  cases hf : fs[i]? with
  | none => rw [hf] at hi; cases hi
  | some f =>
  rw [hf] at hi
  simp only [Option.map_some, Option.some.injEq, Prod.mk.injEq] at hi
  obtain ⟨h1, h2, h3⟩ := hi
  obtain ⟨fuel, hq⟩ := h
  obtain ⟨xs, n, _, _, hl, hlen, hg⟩ := DataW.trod_struct hs hq
  have g := hg i f hf
  rw [h1, h2] at g
  have hx : i < xs.length := by rw [hlen]; exact (Array.getElem?_eq_some_iff.1 hf).1
  rw [List.getElem?_eq_getElem hx] at g
  obtain ⟨z, hz, _, hw⟩ := DataW.trod_int h3 g
  refine ⟨z, ?_, hw⟩
  have h0 := congrArg (fun l : List Value => l[0]?) hz
  simp only [List.getElem?_take, List.getElem?_drop, Nat.add_zero, Nat.zero_lt_one, if_true, List.getElem?_cons_zero] at h0
  rw [← Array.getElem?_toList]
  exact h0
/-- A field that is a struct. -/
theorem fld_sub {t : TypeId} {fs : Array Field} {cs : Array Value} {d : DataW H} {ps : List MemPlace} (hs : P.underlying t = some (.struct fs)) (h : DataW.Trod enc P w base spare held t (.agg cs) d ps) {i o n : Nat} {e : TypeId}
    (hi : fs[i]?.map (fun f => (f.offset, P.cellsOf f.type, f.type)) = some (o, n, e)) : ∃ d' ps', DataW.Trod enc P w base spare held e (.agg ((cs.toList.drop o).take n).toArray) d' ps' := by
  cases hf : fs[i]? with
  | none => rw [hf] at hi; cases hi
  | some f =>
  rw [hf] at hi
  simp only [Option.map_some, Option.some.injEq, Prod.mk.injEq] at hi
  obtain ⟨h1, h2, h3⟩ := hi
  obtain ⟨fuel, hq⟩ := h
  obtain ⟨xs, m, _, _, hl, hlen, hg⟩ := DataW.trod_struct hs hq
  have g := hg i f hf
  rw [h1, h2, h3] at g
  have hx : i < xs.length := by rw [hlen]; exact (Array.getElem?_eq_some_iff.1 hf).1
  rw [List.getElem?_eq_getElem hx] at g
  exact ⟨xs[i].1, xs[i].2, m, g⟩
end
/-- The cells of an event that came in. -/
theorem ev_cells {H : Type} {enc : TypeId × Value → H} {W : World} {base : Nat} {spare : Nat → Bool} {held : Bool} {cs : Array Value} {d : DataW H} {ps : List MemPlace} (hsz : cs.size = 8)
    (h : DataW.Trod enc Tryd.prog W base spare held 32 (.agg cs) d ps) : ∃ r : Ev, Value.agg cs = r.val := by
  obtain ⟨z0, f0, _⟩ := flat_int evU evOne evC h (i := 0) (by kernel_rfl)
  obtain ⟨z1, f1, _⟩ := flat_int evU evOne evC h (i := 1) (by kernel_rfl)
  obtain ⟨z2, f2, _⟩ := flat_int evU evOne evC h (i := 2) (by kernel_rfl)
  obtain ⟨z3, f3, _⟩ := flat_int evU evOne evC h (i := 3) (by kernel_rfl)
  obtain ⟨z4, f4, _⟩ := flat_int evU evOne evC h (i := 4) (by kernel_rfl)
  obtain ⟨z5, f5, _⟩ := flat_int evU evOne evC h (i := 5) (by kernel_rfl)
  obtain ⟨z6, f6, _⟩ := flat_int evU evOne evC h (i := 6) (by kernel_rfl)
  obtain ⟨z7, f7, _⟩ := flat_int evU evOne evC h (i := 7) (by kernel_rfl)
  refine ⟨⟨z0, z1, z2, z3, z4, z5, z6, z7⟩, ?_⟩
  have := arr_of (cs := cs) (l := [.int .i64 z0, .int .i64 z1, .int .i64 z2, .int .i64 z3, .int .i64 z4, .int .i64 z5, .int .i64 z6, .int .i64 z7]) hsz (fun i hi => by
    match i, hi with
    | 0, _ => exact f0
    | 1, _ => exact f1
    | 2, _ => exact f2
    | 3, _ => exact f3
    | 4, _ => exact f4
    | 5, _ => exact f5
    | 6, _ => exact f6
    | 7, _ => exact f7)
  rw [this]; rfl
noncomputable def rcFields : Array Field := match Tryd.prog.underlying 34 with
  | some (.struct fs) => fs
  | _ => #[]
theorem rcU : Tryd.prog.underlying 34 = some (.struct rcFields) := by kernel_rfl
theorem rcC : Tryd.prog.cellsOf 34 = 11 := by kernel_rfl
/-- The cells of a record that came in. -/
theorem rc_cells {H : Type} {enc : TypeId × Value → H} {W : World} {base : Nat} {spare : Nat → Bool} {held : Bool} {cs : Array Value} {d : DataW H} {ps : List MemPlace} (hsz : cs.size = 11)
    (h : DataW.Trod enc Tryd.prog W base spare held 34 (.agg cs) d ps) : ∃ r : Rc, Value.agg cs = r.val := by
  obtain ⟨z0, e0, _⟩ := fld_int rcU h (i := 0) (o := 0) (k := .i64) (by kernel_rfl)
  obtain ⟨z1, e1, _⟩ := fld_int rcU h (i := 1) (o := 1) (k := .i64) (by kernel_rfl)
  obtain ⟨z2, e2, _⟩ := fld_int rcU h (i := 2) (o := 2) (k := .i64) (by kernel_rfl)
  obtain ⟨d', ps', h3⟩ := fld_sub rcU h (i := 3) (o := 3) (n := 8) (e := 32) (by kernel_rfl)
  obtain ⟨z3, f3, _⟩ := flat_int evU evOne evC h3 (i := 0) (by kernel_rfl)
  obtain ⟨z4, f4, _⟩ := flat_int evU evOne evC h3 (i := 1) (by kernel_rfl)
  obtain ⟨z5, f5, _⟩ := flat_int evU evOne evC h3 (i := 2) (by kernel_rfl)
  obtain ⟨z6, f6, _⟩ := flat_int evU evOne evC h3 (i := 3) (by kernel_rfl)
  obtain ⟨z7, f7, _⟩ := flat_int evU evOne evC h3 (i := 4) (by kernel_rfl)
  obtain ⟨z8, f8, _⟩ := flat_int evU evOne evC h3 (i := 5) (by kernel_rfl)
  obtain ⟨z9, f9, _⟩ := flat_int evU evOne evC h3 (i := 6) (by kernel_rfl)
  obtain ⟨z10, f10, _⟩ := flat_int evU evOne evC h3 (i := 7) (by kernel_rfl)
  have hk : ∀ i, i < 8 → (((cs.toList.drop 3).take 8).toArray)[i]? = cs[3 + i]? := fun i hi => by
    rw [List.getElem?_toArray, List.getElem?_take, if_pos hi, List.getElem?_drop, Array.getElem?_toList]
  rw [hk 0 (by decide)] at f3
  rw [hk 1 (by decide)] at f4
  rw [hk 2 (by decide)] at f5
  rw [hk 3 (by decide)] at f6
  rw [hk 4 (by decide)] at f7
  rw [hk 5 (by decide)] at f8
  rw [hk 6 (by decide)] at f9
  rw [hk 7 (by decide)] at f10
  refine ⟨⟨z0, z1, z2, ⟨z3, z4, z5, z6, z7, z8, z9, z10⟩⟩, ?_⟩
  have := arr_of (cs := cs) (l := [.int .i64 z0, .int .i64 z1, .int .i64 z2, .int .i64 z3, .int .i64 z4, .int .i64 z5, .int .i64 z6, .int .i64 z7, .int .i64 z8, .int .i64 z9, .int .i64 z10]) hsz (fun i hi => by
    match i, hi with
    | 0, _ => exact e0
    | 1, _ => exact e1
    | 2, _ => exact e2
    | 3, _ => exact f3
    | 4, _ => exact f4
    | 5, _ => exact f5
    | 6, _ => exact f6
    | 7, _ => exact f7
    | 8, _ => exact f8
    | 9, _ => exact f9
    | 10, _ => exact f10)
  rw [this]; rfl
set_option maxRecDepth 100000 in
theorem rc_open {H : Type} {enc : TypeId × Value → H} {W : World} {base : Nat} {spare : Nat → Bool} {held : Bool} {r : Reach} {b0 : Nat} {v : Value} {d : DataW H} {ps : List MemPlace} (hv : Value.okWide Tryd.prog W r b0 34 v)
    (h : DataW.Trod enc Tryd.prog W base spare held 34 v d ps) : ∃ p : Rc, v = p.val := by
  obtain ⟨cs, rfl, hsz⟩ := okWide_struct rcU hv
  exact rc_cells (hsz.trans rcC) h
theorem rc_read : Tryd.prog.readableRec 34 = true := by kernel_rfl
theorem rc_row : 34 < Tryd.prog.types.size := of_decide_eq_true (by kernel_rfl)
/-- A row of structs that came in. -/
theorem rows_openN {H : Type} {enc : TypeId × Value → H} {P : Program} {w : World} {base : Nat} {held : Bool} {t e : TypeId} {n : Nat} {a0 : Option Addr} {len cap : Nat} {d : DataW H} {ps : List MemPlace} (hu : P.underlying t = some (.slice e)) (hC : P.cellsOf e = n)
    (h : DataW.Trod enc P w base (fun _ => true) held t (.slice a0 len cap) d ps) :
    len = 0 ∨ ∃ a elems sp, a0 = some a ∧ d = .slice elems sp ∧ elems.length = len ∧ ∀ i, i < len → ∃ (cs : Array Value) (D : DataW H) (q : List MemPlace), D ∈ elems ∧ cs.size = n ∧ (∀ k, k < n → w.cell? (a.add (i * n + k)) = cs[k]?) ∧
      DataW.Trod enc P w base (fun _ => true) held e (.agg cs) D q := by
  obtain ⟨fuel, hf⟩ := h
  rcases open_slice hu hf with ⟨hcs, _⟩ | ⟨a, len', cap', m, n', D, Pl, hcs, _, hl, _, hm, hx, hc⟩
  · simp [Value.cells] at hcs
    exact .inl hcs.2.1
  · simp [Value.cells] at hcs
    obtain ⟨rfl, rfl, rfl⟩ := hcs
    simp only [Prod.mk.injEq] at hx
    simp only [if_true] at hm
    subst hm
    refine .inr ⟨a, _, _, rfl, hx.1, by simp, fun i hi => ?_⟩
    obtain ⟨cs, h1, h2⟩ := hc i (by omega)
    obtain ⟨_, g2, g3⟩ := World.cells?_some h1
    rw [hC] at g2 g3
    refine ⟨cs.toArray, D i, Pl i, by simp; exact ⟨i, hi, rfl⟩, by simpa using g2, fun k hk => ?_, ⟨n', by simpa [Value.cells] using h2⟩⟩
    have := g3 k hk
    rw [Addr.add_add] at this
    simpa using this
/-- Records that came in, a row. -/
structure RcIn (w : World) (ao : Option Addr) (xs : List Rc) : Prop where
  cell : ∀ j, j < xs.length → ∃ b off, ao = some ⟨b, off, Option.none⟩ ∧ w.cell? ⟨b, off + j * 11, Option.none⟩ = some (.int .i64 (xs.getD j Rc.zero).seq) ∧ w.cell? ⟨b, off + j * 11 + 1, Option.none⟩ = some (.int .i64 (xs.getD j Rc.zero).boot) ∧ w.cell? ⟨b, off + j * 11 + 2, Option.none⟩ = some (.int .i64 (xs.getD j Rc.zero).prev) ∧ w.cell? ⟨b, off + j * 11 + 3, Option.none⟩ = some (.int .i64 (xs.getD j Rc.zero).ev.kind) ∧ w.cell? ⟨b, off + j * 11 + 4, Option.none⟩ = some (.int .i64 (xs.getD j Rc.zero).ev.user) ∧ w.cell? ⟨b, off + j * 11 + 5, Option.none⟩ = some (.int .i64 (xs.getD j Rc.zero).ev.session) ∧ w.cell? ⟨b, off + j * 11 + 6, Option.none⟩ = some (.int .i64 (xs.getD j Rc.zero).ev.address) ∧ w.cell? ⟨b, off + j * 11 + 7, Option.none⟩ = some (.int .i64 (xs.getD j Rc.zero).ev.a) ∧ w.cell? ⟨b, off + j * 11 + 8, Option.none⟩ = some (.int .i64 (xs.getD j Rc.zero).ev.b) ∧ w.cell? ⟨b, off + j * 11 + 9, Option.none⟩ = some (.int .i64 (xs.getD j Rc.zero).ev.c) ∧ w.cell? ⟨b, off + j * 11 + 10, Option.none⟩ = some (.int .i64 (xs.getD j Rc.zero).ev.tick)
  few : xs.length ≤ 9223372036854770000
/-- Events that came in, a row. -/
structure EvIn (w : World) (ao : Option Addr) (xs : List Ev) : Prop where
  cell : ∀ j, j < xs.length → ∃ b off, ao = some ⟨b, off, Option.none⟩ ∧ w.cell? ⟨b, off + j * 8, Option.none⟩ = some (.int .i64 (xs.getD j Ev.zero).kind) ∧ w.cell? ⟨b, off + j * 8 + 1, Option.none⟩ = some (.int .i64 (xs.getD j Ev.zero).user) ∧ w.cell? ⟨b, off + j * 8 + 2, Option.none⟩ = some (.int .i64 (xs.getD j Ev.zero).session) ∧ w.cell? ⟨b, off + j * 8 + 3, Option.none⟩ = some (.int .i64 (xs.getD j Ev.zero).address) ∧ w.cell? ⟨b, off + j * 8 + 4, Option.none⟩ = some (.int .i64 (xs.getD j Ev.zero).a) ∧ w.cell? ⟨b, off + j * 8 + 5, Option.none⟩ = some (.int .i64 (xs.getD j Ev.zero).b) ∧ w.cell? ⟨b, off + j * 8 + 6, Option.none⟩ = some (.int .i64 (xs.getD j Ev.zero).c) ∧ w.cell? ⟨b, off + j * 8 + 7, Option.none⟩ = some (.int .i64 (xs.getD j Ev.zero).tick)
  few : xs.length ≤ 9223372036854770000
theorem rc_bytes : Tryd.prog.bytesOf 34 = 88 := by kernel_rfl
theorem rcR_read : Tryd.prog.readableRec 22 = true := by kernel_rfl
theorem rcR_row : 22 < Tryd.prog.types.size := of_decide_eq_true (by kernel_rfl)
theorem rc_arg {H : Type} {enc : TypeId × Value → H} {W : World} {a0 : Option Addr} {len cap : Nat} {d : DataW H} {ps : List MemPlace} (h : DataW.Trod enc Tryd.prog W 0 (fun _ => true) true 22 (.slice a0 len cap) d ps)
    (hsz : ∀ elems sp, d = .slice elems sp → (elems.length + sp.length) * Tryd.prog.bytesOf 34 ≤ reachBytes ∧ ∀ D ∈ elems, ∀ n ∈ D.weights Tryd.prog 34, n ≤ reachBytes) : ∃ cs : List Rc, len = cs.length ∧ RcIn W a0 cs := by
  rcases rows_openN Tryd.underlying22 rcC h with rfl | ⟨a, elems, sp, rfl, hd, hl, hc⟩
  · exact ⟨[], rfl, ⟨(fun j hj => by cases hj), by simp⟩⟩
  · obtain ⟨hs1, hs2⟩ := hsz _ _ hd
    rw [rc_bytes] at hs1
    obtain ⟨cs, h1, h2⟩ := row_each (p := fun i (x : Rc) => W.cell? (a.add (i * 11 + 0)) = some (.int .i64 x.seq) ∧ W.cell? (a.add (i * 11 + 1)) = some (.int .i64 x.boot) ∧ W.cell? (a.add (i * 11 + 2)) = some (.int .i64 x.prev) ∧ W.cell? (a.add (i * 11 + 3)) = some (.int .i64 x.ev.kind) ∧ W.cell? (a.add (i * 11 + 4)) = some (.int .i64 x.ev.user) ∧ W.cell? (a.add (i * 11 + 5)) = some (.int .i64 x.ev.session) ∧ W.cell? (a.add (i * 11 + 6)) = some (.int .i64 x.ev.address) ∧ W.cell? (a.add (i * 11 + 7)) = some (.int .i64 x.ev.a) ∧ W.cell? (a.add (i * 11 + 8)) = some (.int .i64 x.ev.b) ∧ W.cell? (a.add (i * 11 + 9)) = some (.int .i64 x.ev.c) ∧ W.cell? (a.add (i * 11 + 10)) = some (.int .i64 x.ev.tick)) Rc.zero (fun i hi => by
      obtain ⟨cs, D, q, hD, hn, hcell, ht⟩ := hc i hi
      obtain ⟨r, hr⟩ := rc_cells hn ht
      have hv : cs = #[.int .i64 r.seq, .int .i64 r.boot, .int .i64 r.prev, .int .i64 r.ev.kind, .int .i64 r.ev.user, .int .i64 r.ev.session, .int .i64 r.ev.address, .int .i64 r.ev.a, .int .i64 r.ev.b, .int .i64 r.ev.c, .int .i64 r.ev.tick] := by cases hr; rfl
      exact ⟨r, (hcell 0 (by decide)).trans (by rw [hv]; rfl), (hcell 1 (by decide)).trans (by rw [hv]; rfl), (hcell 2 (by decide)).trans (by rw [hv]; rfl), (hcell 3 (by decide)).trans (by rw [hv]; rfl), (hcell 4 (by decide)).trans (by rw [hv]; rfl), (hcell 5 (by decide)).trans (by rw [hv]; rfl), (hcell 6 (by decide)).trans (by rw [hv]; rfl), (hcell 7 (by decide)).trans (by rw [hv]; rfl), (hcell 8 (by decide)).trans (by rw [hv]; rfl), (hcell 9 (by decide)).trans (by rw [hv]; rfl), (hcell 10 (by decide)).trans (by rw [hv]; rfl)⟩)
    subst h1
    have hr := reachBytes_lt
    refine ⟨cs, rfl, ⟨fun j hj => ?_, by omega⟩⟩
    obtain ⟨c0, c1, c2, c3, c4, c5, c6, c7, c8, c9, c10⟩ := h2 j hj
    obtain ⟨b, off, spot⟩ := a
    have hspot : spot = Option.none := by simpa [Addr.add] using World.cell?_spot (h2 0 (by omega)).1
    subst hspot
    simp only [Addr.add_lit, ← Nat.add_assoc, Nat.add_zero] at c0 c1 c2 c3 c4 c5 c6 c7 c8 c9 c10
    exact ⟨b, off, rfl, c0, c1, c2, c3, c4, c5, c6, c7, c8, c9, c10⟩
theorem ev_bytes : Tryd.prog.bytesOf 32 = 64 := by kernel_rfl
theorem evR_read : Tryd.prog.readableRec 51 = true := by kernel_rfl
theorem evR_row : 51 < Tryd.prog.types.size := of_decide_eq_true (by kernel_rfl)
theorem ev_arg {H : Type} {enc : TypeId × Value → H} {W : World} {a0 : Option Addr} {len cap : Nat} {d : DataW H} {ps : List MemPlace} (h : DataW.Trod enc Tryd.prog W 0 (fun _ => true) true 51 (.slice a0 len cap) d ps)
    (hsz : ∀ elems sp, d = .slice elems sp → (elems.length + sp.length) * Tryd.prog.bytesOf 32 ≤ reachBytes ∧ ∀ D ∈ elems, ∀ n ∈ D.weights Tryd.prog 32, n ≤ reachBytes) : ∃ cs : List Ev, len = cs.length ∧ EvIn W a0 cs := by
  rcases rows_openN Tryd.underlying51 evN h with rfl | ⟨a, elems, sp, rfl, hd, hl, hc⟩
  · exact ⟨[], rfl, ⟨(fun j hj => by cases hj), by simp⟩⟩
  · obtain ⟨hs1, hs2⟩ := hsz _ _ hd
    rw [ev_bytes] at hs1
    obtain ⟨cs, h1, h2⟩ := row_each (p := fun i (x : Ev) => W.cell? (a.add (i * 8 + 0)) = some (.int .i64 x.kind) ∧ W.cell? (a.add (i * 8 + 1)) = some (.int .i64 x.user) ∧ W.cell? (a.add (i * 8 + 2)) = some (.int .i64 x.session) ∧ W.cell? (a.add (i * 8 + 3)) = some (.int .i64 x.address) ∧ W.cell? (a.add (i * 8 + 4)) = some (.int .i64 x.a) ∧ W.cell? (a.add (i * 8 + 5)) = some (.int .i64 x.b) ∧ W.cell? (a.add (i * 8 + 6)) = some (.int .i64 x.c) ∧ W.cell? (a.add (i * 8 + 7)) = some (.int .i64 x.tick)) Ev.zero (fun i hi => by
      obtain ⟨cs, D, q, hD, hn, hcell, ht⟩ := hc i hi
      obtain ⟨r, hr⟩ := ev_cells hn ht
      have hv : cs = #[.int .i64 r.kind, .int .i64 r.user, .int .i64 r.session, .int .i64 r.address, .int .i64 r.a, .int .i64 r.b, .int .i64 r.c, .int .i64 r.tick] := by cases hr; rfl
      exact ⟨r, (hcell 0 (by decide)).trans (by rw [hv]; rfl), (hcell 1 (by decide)).trans (by rw [hv]; rfl), (hcell 2 (by decide)).trans (by rw [hv]; rfl), (hcell 3 (by decide)).trans (by rw [hv]; rfl), (hcell 4 (by decide)).trans (by rw [hv]; rfl), (hcell 5 (by decide)).trans (by rw [hv]; rfl), (hcell 6 (by decide)).trans (by rw [hv]; rfl), (hcell 7 (by decide)).trans (by rw [hv]; rfl)⟩)
    subst h1
    have hr := reachBytes_lt
    refine ⟨cs, rfl, ⟨fun j hj => ?_, by omega⟩⟩
    obtain ⟨c0, c1, c2, c3, c4, c5, c6, c7⟩ := h2 j hj
    obtain ⟨b, off, spot⟩ := a
    have hspot : spot = Option.none := by simpa [Addr.add] using World.cell?_spot (h2 0 (by omega)).1
    subst hspot
    simp only [Addr.add_lit, ← Nat.add_assoc, Nat.add_zero] at c0 c1 c2 c3 c4 c5 c6 c7
    exact ⟨b, off, rfl, c0, c1, c2, c3, c4, c5, c6, c7⟩
end Go.Proofs.YtiebpjkppjollaaDoor
