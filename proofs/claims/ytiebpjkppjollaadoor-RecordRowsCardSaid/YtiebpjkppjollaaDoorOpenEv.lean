/- A event that came in by value. No condition. -/
import Derived.Test.YtiebpjkppjollaaDoorProg
import Derived.Test.YtiebpjkppjollaaDoorBfl
import Derived.Test.YtiebpjkppjollaaDoorBpm
namespace Go.Proofs.YtiebpjkppjollaaDoor
open Go Go.Deep Go.ChangeShapes Go.WideShapes

noncomputable def evFields : Array Field := match Tryd.prog.underlying 32 with
  | some (.struct fs) => fs
  | _ => #[]
theorem evU : Tryd.prog.underlying 32 = some (.struct evFields) := by kernel_rfl
theorem evOne : oneCellFields Tryd.prog evFields = true := by kernel_rfl
theorem evC : Tryd.prog.cellsOf 32 = evFields.size := by kernel_rfl
theorem evN : Tryd.prog.cellsOf 32 = 8 := by kernel_rfl
set_option maxRecDepth 100000 in
theorem ev_open {H : Type} {enc : TypeId × Value → H} {W : World} {base : Nat} {spare : Nat → Bool} {held : Bool} {r : Reach} {b0 : Nat} {v : Value} {d : DataW H} {ps : List MemPlace} (hv : Value.okWide Tryd.prog W r b0 32 v)
    (h : DataW.Trod enc Tryd.prog W base spare held 32 v d ps) : ∃ p : Ev, v = p.val := by
  obtain ⟨cs, rfl, hsz⟩ := okWide_struct evU hv
  obtain ⟨z0, e0, _⟩ := flat_int evU evOne evC h (i := 0) (by kernel_rfl)
  obtain ⟨z1, e1, _⟩ := flat_int evU evOne evC h (i := 1) (by kernel_rfl)
  obtain ⟨z2, e2, _⟩ := flat_int evU evOne evC h (i := 2) (by kernel_rfl)
  obtain ⟨z3, e3, _⟩ := flat_int evU evOne evC h (i := 3) (by kernel_rfl)
  obtain ⟨z4, e4, _⟩ := flat_int evU evOne evC h (i := 4) (by kernel_rfl)
  obtain ⟨z5, e5, _⟩ := flat_int evU evOne evC h (i := 5) (by kernel_rfl)
  obtain ⟨z6, e6, _⟩ := flat_int evU evOne evC h (i := 6) (by kernel_rfl)
  obtain ⟨z7, e7, _⟩ := flat_int evU evOne evC h (i := 7) (by kernel_rfl)
  refine ⟨⟨z0, z1, z2, z3, z4, z5, z6, z7⟩, ?_⟩
  have := arr_of (cs := cs) (l := [.int .i64 z0, .int .i64 z1, .int .i64 z2, .int .i64 z3, .int .i64 z4, .int .i64 z5, .int .i64 z6, .int .i64 z7]) (hsz.trans evN) (fun i hi => by
    match i, hi with
    | 0, _ => exact e0
    | 1, _ => exact e1
    | 2, _ => exact e2
    | 3, _ => exact e3
    | 4, _ => exact e4
    | 5, _ => exact e5
    | 6, _ => exact e6
    | 7, _ => exact e7)
  rw [this]; rfl
theorem ev_read : Tryd.prog.readableRec 32 = true := by kernel_rfl
theorem ev_row : 32 < Tryd.prog.types.size := of_decide_eq_true (by kernel_rfl)
theorem laidOutK : laidOutB Tryd.prog = true := by kernel_rfl
end Go.Proofs.YtiebpjkppjollaaDoor
