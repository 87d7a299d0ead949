/- Rows of addresses that came in. No condition. -/
import Derived.Test.YtamhjnjabjfgeaaPal
import Derived.Test.YtamhjnjabjfgeaaRowsIn
import Derived.Test.YtamhjnjabjfgeaaFrame0
namespace Go.Proofs.Ytamhjnjabjfgeaa
open Go Go.Deep Go.ChangeShapes Go.WideShapes Go.ChangeAt Go.RowKit

theorem PaAt.of {w : World} {b off : Nat} {es : List Pa} (h : ∀ j, j < es.length → w.cell? ⟨b, off + j * 3, none⟩ = some (.bool (es.getD j Pa.none).b) ∧ w.cell? ⟨b, off + j * 3 + 1, none⟩ = some (.int .i64 (es.getD j Pa.none).l) ∧ w.cell? ⟨b, off + j * 3 + 2, none⟩ = some (.int .i64 (es.getD j Pa.none).u)) : PaAt w b off es := by
  intro i u hu
  have hl : i < es.length * 3 := by
    rcases Nat.lt_or_ge i (es.length * 3) with c | c
    · exact c
    · rw [List.getElem?_eq_none (by rw [paCells_len]; exact c)] at hu; cases hu
  have e : i = i / 3 * 3 + i % 3 := by have := Nat.div_add_mod i 3; omega
  have hj : i / 3 < es.length := by omega
  have hlt : i % 3 < 3 := Nat.mod_lt _ (by decide)
  have h1 := paCells_at es hj hlt
  rw [← e, hu] at h1
  obtain ⟨c0, c1, c2⟩ := h (i / 3) hj
  rw [e]
  rcases (show i % 3 = 0 ∨ i % 3 = 1 ∨ i % 3 = 2 by omega) with hm | hm | hm
  · rw [hm] at h1 ⊢
    rw [h1, Nat.add_zero, c0]
    rfl
  · rw [hm] at h1 ⊢
    rw [h1, ← Nat.add_assoc, c1]
    rfl
  · rw [hm] at h1 ⊢
    rw [h1, ← Nat.add_assoc, c2]
    rfl
theorem trod_none {H : Type} {enc : TypeId × Value → H} {P : Program} {w : World} {base : Nat} {held : Bool} {t e : TypeId} {a0 : Option Addr} {len cap : Nat} {d : DataW H} {ps : List MemPlace} (hu : P.underlying t = some (.slice e))
    (h : DataW.Trod enc P w base (fun _ => true) held t (.slice a0 len cap) d ps) (h0 : a0 = none) : cap = 0 := by
  obtain ⟨fuel, hf⟩ := h
  rcases open_slice hu hf with ⟨hcs, _⟩ | ⟨a, len', cap', m, n, D, Pl, hcs, _⟩
  · simp [Value.cells] at hcs
    exact hcs.2.2
  · subst h0
    simp [Value.cells] at hcs
noncomputable def adrFields : Array Field := match Try.prog.underlying 46 with
  | some (.struct fs) => fs
  | _ => #[]
theorem adrU : Try.prog.underlying 46 = some (.struct adrFields) := by kernel_rfl
theorem adrOne : oneCellFields Try.prog adrFields = true := by kernel_rfl
theorem adrN : adrFields.size = 3 := by kernel_rfl
theorem adrC : Try.prog.cellsOf 46 = adrFields.size := by kernel_rfl
theorem adr_bytes : Try.prog.bytesOf 46 = 24 := by kernel_rfl
theorem adr_read : Try.prog.readableRec 22 = true := by kernel_rfl
theorem adr_row : 22 < Try.prog.types.size := of_decide_eq_true (by kernel_rfl)
/-- Addresses that came in. -/
def PaArg (W : World) (a0 : Option Addr) (cap : Nat) (es : List Pa) : Prop := PaIn [] W a0 es.length es ∧ (a0 = none → cap = 0) ∧ es.length ≤ 5864062014800
theorem adr_arg {H : Type} {enc : TypeId × Value → H} {W : World} {a0 : Option Addr} {len cap : Nat} {d : DataW H} {ps : List MemPlace} (h : DataW.Trod enc Try.prog W 0 (fun _ => true) true 22 (.slice a0 len cap) d ps)
    (hsz : ∀ elems sp, d = .slice elems sp → (elems.length + sp.length) * Try.prog.bytesOf 46 ≤ reachBytes ∧ ∀ D ∈ elems, ∀ n ∈ D.weights Try.prog 46, n ≤ reachBytes) : ∃ cs : List Pa, cs.length = len ∧ PaArg W a0 cap cs := by
  have hz := trod_none Try.underlying22 h
  rcases rows_open Try.underlying22 adrC h with rfl | ⟨a, elems, sp, hv, hd, hl, hc⟩
  · exact ⟨[], rfl, ⟨rfl, .inl rfl, by decide⟩, hz, by decide⟩
  · obtain rfl := hv
    obtain ⟨hs1, _⟩ := hsz _ _ hd
    rw [adr_bytes] at hs1
    rw [adrN] at hc
    obtain ⟨cs, h1, h2⟩ := row_each (p := fun i (x : Pa) => W.cell? (a.add (i * 3 + 0)) = some (.bool x.b) ∧ W.cell? (a.add (i * 3 + 1)) = some (.int .i64 x.l) ∧ W.cell? (a.add (i * 3 + 2)) = some (.int .i64 x.u)) Pa.none (n := len) fun i hi => by
      obtain ⟨cs, D, q, hD, hn, hcell, ht⟩ := hc i hi
      obtain ⟨z0, e0⟩ := flat_bool adrU adrOne adrC ht (i := 0) (by kernel_rfl)
      obtain ⟨z1, e1, _⟩ := flat_int adrU adrOne adrC ht (i := 1) (k := .i64) (by kernel_rfl)
      obtain ⟨z2, e2, _⟩ := flat_int adrU adrOne adrC ht (i := 2) (k := .i64) (by kernel_rfl)
      exact ⟨⟨z0, z1, z2⟩, (hcell 0 (by decide)).trans e0, (hcell 1 (by decide)).trans e1, (hcell 2 (by decide)).trans e2⟩
    subst h1
    have hr : reachBytes = 140737488351232 := rfl
    have hlen : cs.length ≤ 5864062014800 := by omega
    refine ⟨cs, rfl, ⟨rfl, ?_, by omega⟩, hz, hlen⟩
    by_cases h0 : cs.length = 0
    · exact .inl h0
    · obtain ⟨b, off, spot⟩ := a
      have h00 := (h2 0 (by omega)).1
      have hspot : spot = Option.none := by simpa [Addr.add] using World.cell?_spot h00
      subst hspot
      refine .inr ⟨b, off, rfl, PaAt.of fun j hj => ?_, by simp, ?_⟩
      · obtain ⟨c0, c1, c2⟩ := h2 j hj
        simp only [Addr.add_lit, ← Nat.add_assoc, Nat.add_zero] at c0 c1 c2
        exact ⟨c0, c1, c2⟩
      · rw [Addr.add_lit] at h00
        exact World.block_lt_of_cell? W _ h00
end Go.Proofs.Ytamhjnjabjfgeaa
