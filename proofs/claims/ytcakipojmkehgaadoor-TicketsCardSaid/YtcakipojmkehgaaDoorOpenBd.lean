/- Bodies that came in, by value and in rows. No condition. -/
import Derived.Test.YtcakipojmkehgaaDoorTkarg
import Derived.Test.YtcakipojmkehgaaDoorProg
import Derived.Test.YtcakipojmkehgaaDoorBfl
import Derived.Test.YtcakipojmkehgaaDoorFrame0
namespace Go.Proofs.YtcakipojmkehgaaDoor
open Go Go.Deep Go.ChangeShapes Go.WideShapes Go.ChangeAt Go.RowKit

noncomputable def bdFields : Array Field := match Tryd.prog.underlying 34 with
  | some (.struct fs) => fs
  | _ => #[]
theorem bdStr : Tryd.prog.underlying 34 = some (.struct bdFields) := by kernel_rfl
theorem bdOne : oneCellFields Tryd.prog bdFields = true := by kernel_rfl
theorem bdCel : Tryd.prog.cellsOf 34 = bdFields.size := by kernel_rfl
theorem bdN : Tryd.prog.cellsOf 34 = 5 := by kernel_rfl
theorem bdFN : bdFields.size = 5 := by kernel_rfl
theorem bd_bytes : Tryd.prog.bytesOf 34 = 40 := by kernel_rfl
set_option maxRecDepth 100000 in
theorem bd_open {H : Type} {enc : TypeId × Value → H} {W : World} {base : Nat} {spare : Nat → Bool} {held : Bool} {r : Reach} {b0 : Nat} {v : Value} {d : DataW H} {ps : List MemPlace} (hv : Value.okWide Tryd.prog W r b0 34 v)
    (h : DataW.Trod enc Tryd.prog W base spare held 34 v d ps) : ∃ p : Bd, v = .agg #[.int .i64 p.u, .int .i64 p.g, .int .i64 p.x, .int .i64 p.s, .int .i64 p.k] ∧ True := by
  obtain ⟨cs, rfl, hsz⟩ := okWide_struct bdStr hv
  obtain ⟨z0, e0, _⟩ := flat_int bdStr bdOne bdCel h (i := 0) (by kernel_rfl)
  obtain ⟨z1, e1, _⟩ := flat_int bdStr bdOne bdCel h (i := 1) (by kernel_rfl)
  obtain ⟨z2, e2, _⟩ := flat_int bdStr bdOne bdCel h (i := 2) (by kernel_rfl)
  obtain ⟨z3, e3, _⟩ := flat_int bdStr bdOne bdCel h (i := 3) (by kernel_rfl)
  obtain ⟨z4, e4, _⟩ := flat_int bdStr bdOne bdCel h (i := 4) (by kernel_rfl)
  refine ⟨⟨z0, z1, z2, z3, z4⟩, ?_, trivial⟩
  have := arr_of (cs := cs) (l := [.int .i64 z0, .int .i64 z1, .int .i64 z2, .int .i64 z3, .int .i64 z4]) (hsz.trans bdN) (fun i hi => by
    match i, hi with
    | 0, _ => exact e0
    | 1, _ => exact e1
    | 2, _ => exact e2
    | 3, _ => exact e3
    | 4, _ => exact e4)
  rw [this]
theorem bd_read : Tryd.prog.readableRec 34 = true := by kernel_rfl
theorem bd_row : 34 < Tryd.prog.types.size := of_decide_eq_true (by kernel_rfl)
theorem bdR_read : Tryd.prog.readableRec 24 = true := by kernel_rfl
theorem bdR_row : 24 < Tryd.prog.types.size := of_decide_eq_true (by kernel_rfl)
set_option maxRecDepth 100000 in
theorem bd_arg {H : Type} {enc : TypeId × Value → H} {W : World} {a0 : Option Addr} {len cap : Nat} {d : DataW H} {ps : List MemPlace} (h : DataW.Trod enc Tryd.prog W 0 (fun _ => true) true 24 (.slice a0 len cap) d ps)
    (hsz : ∀ elems sp, d = .slice elems sp → (elems.length + sp.length) * Tryd.prog.bytesOf 34 ≤ reachBytes ∧ ∀ D ∈ elems, ∀ n ∈ D.weights Tryd.prog 34, n ≤ reachBytes) : ∃ cs : List Bd, cs.length = len ∧ BArg W a0 cs := by
  rcases rows_open Tryd.underlying24 bdCel h with rfl | ⟨a, elems, sp, rfl, hd, hl, hc⟩
  · exact ⟨[], rfl, ⟨(fun j hj => by cases hj), by simp⟩⟩
  · obtain ⟨hs1, hs2⟩ := hsz _ _ hd
    rw [bd_bytes] at hs1
    rw [bdFN] at hc
    obtain ⟨cs, h1, h2⟩ := row_each (p := fun i (x : Bd) => W.cell? (a.add (i * 5 + 0)) = some (.int .i64 x.u) ∧ W.cell? (a.add (i * 5 + 1)) = some (.int .i64 x.g) ∧ W.cell? (a.add (i * 5 + 2)) = some (.int .i64 x.x) ∧
        W.cell? (a.add (i * 5 + 3)) = some (.int .i64 x.s) ∧ W.cell? (a.add (i * 5 + 4)) = some (.int .i64 x.k)) Bd.zero (n := len) fun i hi => by
      obtain ⟨cs, D, q, hD, hn, hcell, ht⟩ := hc i hi
      obtain ⟨z0, e0, _⟩ := flat_int bdStr bdOne bdCel ht (i := 0) (k := .i64) (by kernel_rfl)
      obtain ⟨z1, e1, _⟩ := flat_int bdStr bdOne bdCel ht (i := 1) (k := .i64) (by kernel_rfl)
      obtain ⟨z2, e2, _⟩ := flat_int bdStr bdOne bdCel ht (i := 2) (k := .i64) (by kernel_rfl)
      obtain ⟨z3, e3, _⟩ := flat_int bdStr bdOne bdCel ht (i := 3) (k := .i64) (by kernel_rfl)
      obtain ⟨z4, e4, _⟩ := flat_int bdStr bdOne bdCel ht (i := 4) (k := .i64) (by kernel_rfl)
      exact ⟨⟨z0, z1, z2, z3, z4⟩, (hcell 0 (by decide)).trans e0, (hcell 1 (by decide)).trans e1, (hcell 2 (by decide)).trans e2, (hcell 3 (by decide)).trans e3, (hcell 4 (by decide)).trans e4⟩
    subst h1
    have hr := reachBytes_lt
    refine ⟨cs, rfl, ⟨fun j hj => ?_, by omega⟩⟩
    obtain ⟨c0, c1, c2, c3, c4⟩ := h2 j hj
    obtain ⟨b, off, spot⟩ := a
    have hspot : spot = Option.none := by simpa [Addr.add] using World.cell?_spot (h2 0 (by omega)).1
    subst hspot
    simp only [Addr.add_lit, ← Nat.add_assoc, Nat.add_zero] at c0 c1 c2 c3 c4
    exact ⟨b, off, rfl, c0, c1, c2, c3, c4⟩
end Go.Proofs.YtcakipojmkehgaaDoor
