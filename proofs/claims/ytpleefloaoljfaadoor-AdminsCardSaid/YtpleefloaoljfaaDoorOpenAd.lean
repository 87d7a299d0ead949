/- A admin that came in by value. No condition. -/
import Derived.Test.YtpleefloaoljfaaDoorProg
import Derived.Test.YtpleefloaoljfaaDoorFlat
import Derived.Test.YtpleefloaoljfaaDoorAdm
namespace Go.Proofs.YtpleefloaoljfaaDoor
open Go Go.Deep Go.ChangeShapes Go.WideShapes

noncomputable def adFields : Array Field := match Tryd.prog.underlying 23 with
  | some (.struct fs) => fs
  | _ => #[]
theorem adU : Tryd.prog.underlying 23 = some (.struct adFields) := by kernel_rfl
theorem adOne : oneCellFields Tryd.prog adFields = true := by kernel_rfl
theorem adC : Tryd.prog.cellsOf 23 = adFields.size := by kernel_rfl
theorem adN : Tryd.prog.cellsOf 23 = 6 := by kernel_rfl
set_option maxRecDepth 100000 in
theorem ad_open {H : Type} {enc : TypeId × Value → H} {W : World} {base : Nat} {spare : Nat → Bool} {held : Bool} {r : Reach} {b0 : Nat} {v : Value} {d : DataW H} {ps : List MemPlace} (hv : Value.okWide Tryd.prog W r b0 23 v)
    (h : DataW.Trod enc Tryd.prog W base spare held 23 v d ps) : ∃ p : Ad, v = p.val := by
  obtain ⟨cs, rfl, hsz⟩ := okWide_struct adU hv
  obtain ⟨z0, e0, _⟩ := flat_int adU adOne adC h (i := 0) (by kernel_rfl)
  obtain ⟨z1, e1, _⟩ := flat_int adU adOne adC h (i := 1) (by kernel_rfl)
  obtain ⟨z2, e2, _⟩ := flat_int adU adOne adC h (i := 2) (by kernel_rfl)
  obtain ⟨z3, e3, _⟩ := flat_int adU adOne adC h (i := 3) (by kernel_rfl)
  obtain ⟨z4, e4, _⟩ := flat_int adU adOne adC h (i := 4) (by kernel_rfl)
  obtain ⟨z5, e5, _⟩ := flat_int adU adOne adC h (i := 5) (by kernel_rfl)
  refine ⟨⟨z0, z1, z2, z3, z4, z5⟩, ?_⟩
  have := arr_of (cs := cs) (l := [.int .i64 z0, .int .i64 z1, .int .i64 z2, .int .i64 z3, .int .i64 z4, .int .i64 z5]) (hsz.trans adN) (fun i hi => by
    match i, hi with
    | 0, _ => exact e0
    | 1, _ => exact e1
    | 2, _ => exact e2
    | 3, _ => exact e3
    | 4, _ => exact e4
    | 5, _ => exact e5)
  rw [this]; rfl
theorem ad_read : Tryd.prog.readableRec 23 = true := by kernel_rfl
theorem ad_row : 23 < Tryd.prog.types.size := of_decide_eq_true (by kernel_rfl)
theorem laidOutK : laidOutB Tryd.prog = true := by kernel_rfl
end Go.Proofs.YtpleefloaoljfaaDoor
