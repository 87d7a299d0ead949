/- The statements' own Num. No condition. -/
import Derived.Test.YtkccbeepdgafcaaDoorProg
import Derived.WalkKit
namespace Go.Proofs.YtkccbeepdgafcaaDoor
open Go Go.RowKit

theorem lnum (n : Int) (w : World) : Calls Tryd.prog 12 #[.int .i64 n] w fun e w' => e = .returned (.int .i64 n) ∧ w = w' := by
  go_enter Tryd.func12, Tryd.ntmps12
  go_wp2
  go_ret
  exact ⟨rfl, rfl⟩
end Go.Proofs.YtkccbeepdgafcaaDoor
