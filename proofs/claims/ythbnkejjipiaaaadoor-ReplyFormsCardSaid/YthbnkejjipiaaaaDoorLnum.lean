/- The statements' own Num. No condition. -/
import Derived.Test.YthbnkejjipiaaaaDoorProg
import Derived.WalkKit
namespace Go.Proofs.YthbnkejjipiaaaaDoor
open Go Go.RowKit

theorem lnum (n : Int) (w : World) : Calls Tryd.prog 15 #[.int .i64 n] w fun e w' => e = .returned (.int .i64 n) ∧ w = w' := by
  go_enter Tryd.func15, Tryd.ntmps15
  go_wp2
  go_ret
  exact ⟨rfl, rfl⟩
end Go.Proofs.YthbnkejjipiaaaaDoor
