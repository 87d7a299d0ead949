/- The acts of Disks that came in. No condition. -/
import Derived.Test.YtlnliphejjfdeaaKdisks
import Derived.Test.YtlnliphejjfdeaaRowsIn
import Derived.Test.YtlnliphejjfdeaaFrame0
namespace Go.Proofs.Ytlnliphejjfdeaa
open Go Go.Deep Go.ChangeShapes Go.WideShapes Go.ChangeAt Go.RowKit

noncomputable def act8Fields : Array Field := match Try.prog.underlying 33 with
  | some (.struct fs) => fs
  | _ => #[]
theorem act8U : Try.prog.underlying 33 = some (.struct act8Fields) := by kernel_rfl
theorem act8One : oneCellFields Try.prog act8Fields = true := by kernel_rfl
theorem act8N : act8Fields.size = 6 := by kernel_rfl
theorem act8C : Try.prog.cellsOf 33 = act8Fields.size := by kernel_rfl
theorem act8_bytes : Try.prog.bytesOf 33 = 56 := by kernel_rfl
theorem act8_read : Try.prog.readableRec 22 = true := by kernel_rfl
theorem act8_row : 22 < Try.prog.types.size := of_decide_eq_true (by kernel_rfl)
theorem act8_arg {H : Type} {enc : TypeId × Value → H} {W : World} {a0 : Option Addr} {len cap : Nat} {d : DataW H} {ps : List MemPlace} (h : DataW.Trod enc Try.prog W 0 (fun _ => true) true 22 (.slice a0 len cap) d ps)
    (hsz : ∀ elems sp, d = .slice elems sp → (elems.length + sp.length) * Try.prog.bytesOf 33 ≤ reachBytes ∧ ∀ D ∈ elems, ∀ n ∈ D.weights Try.prog 33, n ≤ reachBytes) : ∃ cs : List Act8, cs.length = len ∧ AArg W a0 cs := by
  rcases rows_open Try.underlying22 act8C h with rfl | ⟨a, elems, sp, rfl, hd, hl, hc⟩
  · exact ⟨[], rfl, ⟨(fun j hj => by cases hj), (fun j hj => by cases hj), by simp⟩⟩
  · obtain ⟨hs1, hs2⟩ := hsz _ _ hd
    rw [act8_bytes] at hs1
    rw [act8N] at hc
    obtain ⟨cs, h1, h2⟩ := row_each (p := fun i (x : Act8) => W.cell? (a.add (i * 6 + 0)) = some (.int .i64 x.k) ∧ W.cell? (a.add (i * 6 + 1)) = some (.int .i64 x.i) ∧ W.cell? (a.add (i * 6 + 2)) = some (.string x.s) ∧
        W.cell? (a.add (i * 6 + 3)) = some (.bool x.b) ∧ W.cell? (a.add (i * 6 + 4)) = some (.int .i64 x.m) ∧ W.cell? (a.add (i * 6 + 5)) = some (.int .i64 x.t) ∧ x.s.size ≤ 9223372036854770000 ∧ x.m ≤ 9223372036854775807 ∧ x.t ≤ 9223372036854775807) Act8.none (n := len) fun i hi => by
      obtain ⟨cs, D, q, hD, hn, hcell, ht⟩ := hc i hi
      obtain ⟨z0, e0, _⟩ := flat_int act8U act8One act8C ht (i := 0) (k := .i64) (by kernel_rfl)
      obtain ⟨z1, e1, _⟩ := flat_int act8U act8One act8C ht (i := 1) (k := .i64) (by kernel_rfl)
      obtain ⟨z2, e2, b2⟩ := flat_text act8U act8One act8C ht (hs2 D hD) (i := 2) (by kernel_rfl)
      obtain ⟨z3, e3⟩ := flat_bool act8U act8One act8C ht (i := 3) (by kernel_rfl)
      obtain ⟨z4, e4, b4⟩ := flat_int act8U act8One act8C ht (i := 4) (k := .i64) (by kernel_rfl)
      obtain ⟨z5, e5, b5⟩ := flat_int act8U act8One act8C ht (i := 5) (k := .i64) (by kernel_rfl)
      have hr := reachBytes_lt
      exact ⟨⟨z0, z1, z2, z3, z4, z5⟩, (hcell 0 (by decide)).trans e0, (hcell 1 (by decide)).trans e1, (hcell 2 (by decide)).trans e2, (hcell 3 (by decide)).trans e3, (hcell 4 (by decide)).trans e4, (hcell 5 (by decide)).trans e5,
        Nat.le_trans b2 (by omega), (bounds_i64 b4).2, (bounds_i64 b5).2⟩
    subst h1
    have hr := reachBytes_lt
    refine ⟨cs, rfl, ⟨fun j hj => ?_, fun j hj => (h2 j hj).2.2.2.2.2.2, by omega⟩⟩
    obtain ⟨c0, c1, c2, c3, c4, c5, _⟩ := h2 j hj
    obtain ⟨b, off, spot⟩ := a
    have hspot : spot = Option.none := by simpa [Addr.add] using World.cell?_spot (h2 0 (by omega)).1
    subst hspot
    simp only [Addr.add_lit, ← Nat.add_assoc, Nat.add_zero] at c0 c1 c2 c3 c4 c5
    exact ⟨b, off, rfl, c0, c1, c2, c3, c4, c5⟩
end Go.Proofs.Ytlnliphejjfdeaa
