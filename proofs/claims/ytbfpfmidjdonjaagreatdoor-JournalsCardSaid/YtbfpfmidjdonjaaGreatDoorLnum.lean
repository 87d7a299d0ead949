/- The statements' own Num. No condition. -/
import Derived.Test.YtbfpfmidjdonjaaGreatDoorProg
import Derived.WalkKit
namespace Go.Proofs.YtbfpfmidjdonjaaGreatDoor
open Go Go.RowKit
theorem lnum (n : Int) (w : World) : Calls Tryz.prog 16 #[.int .i64 n] w fun e w' => e = .returned (.int .i64 n) ∧ w = w' := by
  go_enter Tryz.func16, Tryz.ntmps16
  go_wp2
  go_ret
  exact ⟨rfl, rfl⟩
end Go.Proofs.YtbfpfmidjdonjaaGreatDoor
