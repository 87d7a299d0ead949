/- The statements' own Num. No condition. -/
import Derived.Test.YtiebpjkppjollaaDoorProg
import Derived.WalkKit
namespace Go.Proofs.YtiebpjkppjollaaDoor
open Go Go.RowKit

theorem lnum (n : Int) (w : World) : Calls Tryd.prog 16 #[.int .i64 n] w fun e w' => e = .returned (.int .i64 n) ∧ w = w' := by
  go_enter Tryd.func16, Tryd.ntmps16
  go_wp2
  go_ret
  exact ⟨rfl, rfl⟩
end Go.Proofs.YtiebpjkppjollaaDoor
