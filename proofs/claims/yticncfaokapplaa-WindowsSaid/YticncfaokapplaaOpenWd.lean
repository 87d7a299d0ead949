/- A window that came in by value. No condition. -/
import Derived.Test.YticncfaokapplaaProg
import Derived.Test.YticncfaokapplaaFlat
namespace Go.Proofs.Yticncfaokapplaa
open Go Go.Deep Go.ChangeShapes Go.WideShapes

noncomputable def wdFields : Array Field := match Try.prog.underlying 23 with
  | some (.struct fs) => fs
  | _ => #[]
theorem wdStr : Try.prog.underlying 23 = some (.struct wdFields) := by kernel_rfl
theorem wdOne : oneCellFields Try.prog wdFields = true := by kernel_rfl
theorem wdCel : Try.prog.cellsOf 23 = wdFields.size := by kernel_rfl
theorem wdNN : Try.prog.cellsOf 23 = 2 := by kernel_rfl
theorem wd_open {H : Type} {enc : TypeId × Value → H} {W : World} {base : Nat} {spare : Nat → Bool} {held : Bool} {r : Reach} {b0 : Nat} {v : Value} {d : DataW H} {ps : List MemPlace} (hv : Value.okWide Try.prog W r b0 23 v)
    (h : DataW.Trod enc Try.prog W base spare held 23 v d ps) : ∃ p : Int × Int, v = .agg #[.int .i64 p.1, .int .i64 p.2] := by
  obtain ⟨cs, rfl, hsz⟩ := okWide_struct wdStr hv
  obtain ⟨z0, e0, _⟩ := flat_int wdStr wdOne wdCel h (i := 0) (by kernel_rfl)
  obtain ⟨z1, e1, _⟩ := flat_int wdStr wdOne wdCel h (i := 1) (by kernel_rfl)
  refine ⟨⟨z0, z1⟩, ?_⟩
  have := arr_of (cs := cs) (l := [.int .i64 z0, .int .i64 z1]) (hsz.trans wdNN) (fun i hi => by
    match i, hi with
    | 0, _ => exact e0
    | 1, _ => exact e1)
  rw [this]
theorem wd_read : Try.prog.readableRec 23 = true := by kernel_rfl
theorem wd_row : 23 < Try.prog.types.size := of_decide_eq_true (by kernel_rfl)
end Go.Proofs.Yticncfaokapplaa
