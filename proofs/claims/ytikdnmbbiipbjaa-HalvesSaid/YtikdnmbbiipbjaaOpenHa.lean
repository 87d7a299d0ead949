/- Half-open logins that came in: one by value, rows of them. No condition. -/
import Derived.Test.YtikdnmbbiipbjaaHar
import Derived.Test.YtikdnmbbiipbjaaRowsIn
import Derived.Test.YtikdnmbbiipbjaaFlat
import Derived.Test.YtikdnmbbiipbjaaFrame0
namespace Go.Proofs.Ytikdnmbbiipbjaa
open Go Go.Deep Go.ChangeShapes Go.WideShapes Go.ChangeAt Go.RowKit

theorem HaAt.of {w : World} {b off : Nat} {es : List Ha} (h : ∀ j, j < es.length → w.cell? ⟨b, off + j * 5, none⟩ = some (.int .i64 (es.getD j Ha.none).h) ∧ w.cell? ⟨b, off + j * 5 + 1, none⟩ = some (.int .i64 (es.getD j Ha.none).u) ∧ w.cell? ⟨b, off + j * 5 + 2, none⟩ = some (.int .i64 (es.getD j Ha.none).c) ∧ w.cell? ⟨b, off + j * 5 + 3, none⟩ = some (.int .i64 (es.getD j Ha.none).s) ∧ w.cell? ⟨b, off + j * 5 + 4, none⟩ = some (.int .i64 (es.getD j Ha.none).t)) : HaAt w b off es := by
  intro i u hu
  have hl : i < es.length * 5 := by
    rcases Nat.lt_or_ge i (es.length * 5) with c | c
    · exact c
    · rw [List.getElem?_eq_none (by rw [haCells_len]; exact c)] at hu; cases hu
  have e : i = i / 5 * 5 + i % 5 := by have := Nat.div_add_mod i 5; omega
  have hj : i / 5 < es.length := by omega
  have hlt : i % 5 < 5 := Nat.mod_lt _ (by decide)
  have h1 := haCells_at es hj hlt
  rw [← e, hu] at h1
  obtain ⟨c0, c1, c2, c3, c4⟩ := h (i / 5) hj
  rw [e]
  rcases (show i % 5 = 0 ∨ i % 5 = 1 ∨ i % 5 = 2 ∨ i % 5 = 3 ∨ i % 5 = 4 by omega) with hm | hm | hm | hm | hm
  · rw [hm] at h1 ⊢
    rw [h1, Nat.add_zero, c0]
    rfl
  · rw [hm] at h1 ⊢
    rw [h1, ← Nat.add_assoc, c1]
    rfl
  · rw [hm] at h1 ⊢
    rw [h1, ← Nat.add_assoc, c2]
    rfl
  · rw [hm] at h1 ⊢
    rw [h1, ← Nat.add_assoc, c3]
    rfl
  · rw [hm] at h1 ⊢
    rw [h1, ← Nat.add_assoc, c4]
    rfl
theorem trod_none {H : Type} {enc : TypeId × Value → H} {P : Program} {w : World} {base : Nat} {held : Bool} {t e : TypeId} {a0 : Option Addr} {len cap : Nat} {d : DataW H} {ps : List MemPlace} (hu : P.underlying t = some (.slice e))
    (h : DataW.Trod enc P w base (fun _ => true) held t (.slice a0 len cap) d ps) (h0 : a0 = none) : cap = 0 := by
  obtain ⟨fuel, hf⟩ := h
  rcases open_slice hu hf with ⟨hcs, _⟩ | ⟨a, len', cap', m, n, D, Pl, hcs, _⟩
  · simp [Value.cells] at hcs
    exact hcs.2.2
  · subst h0
    simp [Value.cells] at hcs
noncomputable def halfFields : Array Field := match Try.prog.underlying 24 with
  | some (.struct fs) => fs
  | _ => #[]
theorem halfU : Try.prog.underlying 24 = some (.struct halfFields) := by kernel_rfl
theorem halfOne : oneCellFields Try.prog halfFields = true := by kernel_rfl
theorem halfN : halfFields.size = 5 := by kernel_rfl
theorem halfC : Try.prog.cellsOf 24 = halfFields.size := by kernel_rfl
theorem halfNN : Try.prog.cellsOf 24 = 5 := by kernel_rfl
theorem half_bytes : Try.prog.bytesOf 24 = 40 := by kernel_rfl
theorem half_read : Try.prog.readableRec 22 = true := by kernel_rfl
theorem half_row : 22 < Try.prog.types.size := of_decide_eq_true (by kernel_rfl)
/-- Those that came in. -/
def HaArg (W : World) (a0 : Option Addr) (cap : Nat) (es : List Ha) : Prop := HaIn [] W a0 es.length es ∧ (a0 = none → cap = 0) ∧ es.length ≤ 3518437208878
theorem half_arg {H : Type} {enc : TypeId × Value → H} {W : World} {a0 : Option Addr} {len cap : Nat} {d : DataW H} {ps : List MemPlace} (h : DataW.Trod enc Try.prog W 0 (fun _ => true) true 22 (.slice a0 len cap) d ps)
    (hsz : ∀ elems sp, d = .slice elems sp → (elems.length + sp.length) * Try.prog.bytesOf 24 ≤ reachBytes ∧ ∀ D ∈ elems, ∀ n ∈ D.weights Try.prog 24, n ≤ reachBytes) : ∃ cs : List Ha, cs.length = len ∧ HaArg W a0 cap cs := by
  have hz := trod_none Try.underlying22 h
  rcases rows_open Try.underlying22 halfC h with rfl | ⟨a, elems, sp, hv, hd, hl, hc⟩
  · exact ⟨[], rfl, ⟨rfl, .inl rfl, by decide⟩, hz, by decide⟩
  · obtain rfl := hv
    obtain ⟨hs1, _⟩ := hsz _ _ hd
    rw [half_bytes] at hs1
    rw [halfN] at hc
    obtain ⟨cs, h1, h2⟩ := row_each (p := fun i (x : Ha) => W.cell? (a.add (i * 5 + 0)) = some (.int .i64 x.h) ∧ W.cell? (a.add (i * 5 + 1)) = some (.int .i64 x.u) ∧ W.cell? (a.add (i * 5 + 2)) = some (.int .i64 x.c) ∧ W.cell? (a.add (i * 5 + 3)) = some (.int .i64 x.s) ∧ W.cell? (a.add (i * 5 + 4)) = some (.int .i64 x.t)) Ha.none (n := len) fun i hi => by
      obtain ⟨cs, D, q, hD, hn, hcell, ht⟩ := hc i hi
      obtain ⟨z0, e0, _⟩ := flat_int halfU halfOne halfC ht (i := 0) (k := .i64) (by kernel_rfl)
      obtain ⟨z1, e1, _⟩ := flat_int halfU halfOne halfC ht (i := 1) (k := .i64) (by kernel_rfl)
      obtain ⟨z2, e2, _⟩ := flat_int halfU halfOne halfC ht (i := 2) (k := .i64) (by kernel_rfl)
      obtain ⟨z3, e3, _⟩ := flat_int halfU halfOne halfC ht (i := 3) (k := .i64) (by kernel_rfl)
      obtain ⟨z4, e4, _⟩ := flat_int halfU halfOne halfC ht (i := 4) (k := .i64) (by kernel_rfl)
      exact ⟨⟨z0, z1, z2, z3, z4⟩, (hcell 0 (by decide)).trans e0, (hcell 1 (by decide)).trans e1, (hcell 2 (by decide)).trans e2, (hcell 3 (by decide)).trans e3, (hcell 4 (by decide)).trans e4⟩
    subst h1
    have hr : reachBytes = 140737488351232 := rfl
    have hlen : cs.length ≤ 3518437208878 := by omega
    refine ⟨cs, rfl, ⟨rfl, ?_, by omega⟩, hz, hlen⟩
    by_cases h0 : cs.length = 0
    · exact .inl h0
    · obtain ⟨b, off, spot⟩ := a
      have h00 := (h2 0 (by omega)).1
      have hspot : spot = Option.none := by simpa [Addr.add] using World.cell?_spot h00
      subst hspot
      refine .inr ⟨b, off, rfl, HaAt.of fun j hj => ?_, by simp, ?_⟩
      · obtain ⟨c0, c1, c2, c3, c4⟩ := h2 j hj
        simp only [Addr.add_lit, ← Nat.add_assoc, Nat.add_zero] at c0 c1 c2 c3 c4
        exact ⟨c0, c1, c2, c3, c4⟩
      · rw [Addr.add_lit] at h00
        exact World.block_lt_of_cell? W _ h00
theorem ha_open {H : Type} {enc : TypeId × Value → H} {W : World} {base : Nat} {spare : Nat → Bool} {held : Bool} {r : Reach} {b0 : Nat} {v : Value} {d : DataW H} {ps : List MemPlace} (hv : Value.okWide Try.prog W r b0 24 v)
    (h : DataW.Trod enc Try.prog W base spare held 24 v d ps) : ∃ p : Ha, v = .agg #[.int .i64 p.h, .int .i64 p.u, .int .i64 p.c, .int .i64 p.s, .int .i64 p.t] := by
  obtain ⟨cs, rfl, hsz⟩ := okWide_struct halfU hv
  obtain ⟨z0, e0, _⟩ := flat_int halfU halfOne halfC h (i := 0) (by kernel_rfl)
  obtain ⟨z1, e1, _⟩ := flat_int halfU halfOne halfC h (i := 1) (by kernel_rfl)
  obtain ⟨z2, e2, _⟩ := flat_int halfU halfOne halfC h (i := 2) (by kernel_rfl)
  obtain ⟨z3, e3, _⟩ := flat_int halfU halfOne halfC h (i := 3) (by kernel_rfl)
  obtain ⟨z4, e4, _⟩ := flat_int halfU halfOne halfC h (i := 4) (by kernel_rfl)
  refine ⟨⟨z0, z1, z2, z3, z4⟩, ?_⟩
  have := arr_of (cs := cs) (l := [.int .i64 z0, .int .i64 z1, .int .i64 z2, .int .i64 z3, .int .i64 z4]) (hsz.trans halfNN) (fun i hi => by
    match i, hi with
    | 0, _ => exact e0
    | 1, _ => exact e1
    | 2, _ => exact e2
    | 3, _ => exact e3
    | 4, _ => exact e4)
  rw [this]
theorem ha_read : Try.prog.readableRec 24 = true := by kernel_rfl
theorem ha_row : 24 < Try.prog.types.size := of_decide_eq_true (by kernel_rfl)
end Go.Proofs.Ytikdnmbbiipbjaa
