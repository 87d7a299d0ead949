/- A meter that came in by value. No condition. -/
import Derived.Test.YtjkcimeeagmmeaaProg
import Derived.Test.YtjkcimeeagmmeaaFlat
namespace Go.Proofs.Ytjkcimeeagmmeaa
open Go Go.Deep Go.ChangeShapes Go.WideShapes

noncomputable def meFields : Array Field := match Try.prog.underlying 23 with
  | some (.struct fs) => fs
  | _ => #[]
theorem meStr : Try.prog.underlying 23 = some (.struct meFields) := by kernel_rfl
theorem meOne : oneCellFields Try.prog meFields = true := by kernel_rfl
theorem meCel : Try.prog.cellsOf 23 = meFields.size := by kernel_rfl
theorem meNN : Try.prog.cellsOf 23 = 3 := by kernel_rfl
theorem me_open {H : Type} {enc : TypeId × Value → H} {W : World} {base : Nat} {spare : Nat → Bool} {held : Bool} {r : Reach} {b0 : Nat} {v : Value} {d : DataW H} {ps : List MemPlace} (hv : Value.okWide Try.prog W r b0 23 v)
    (h : DataW.Trod enc Try.prog W base spare held 23 v d ps) : ∃ p : Int × Int × Int, v = .agg #[.int .i64 p.1, .int .i64 p.2.1, .int .i64 p.2.2] := by
  obtain ⟨cs, rfl, hsz⟩ := okWide_struct meStr hv
  obtain ⟨z0, e0, _⟩ := flat_int meStr meOne meCel h (i := 0) (by kernel_rfl)
  obtain ⟨z1, e1, _⟩ := flat_int meStr meOne meCel h (i := 1) (by kernel_rfl)
  obtain ⟨z2, e2, _⟩ := flat_int meStr meOne meCel h (i := 2) (by kernel_rfl)
  refine ⟨⟨z0, z1, z2⟩, ?_⟩
  have := arr_of (cs := cs) (l := [.int .i64 z0, .int .i64 z1, .int .i64 z2]) (hsz.trans meNN) (fun i hi => by
    match i, hi with
    | 0, _ => exact e0
    | 1, _ => exact e1
    | 2, _ => exact e2)
  rw [this]
theorem me_read : Try.prog.readableRec 23 = true := by kernel_rfl
theorem me_row : 23 < Try.prog.types.size := of_decide_eq_true (by kernel_rfl)
end Go.Proofs.Ytjkcimeeagmmeaa
