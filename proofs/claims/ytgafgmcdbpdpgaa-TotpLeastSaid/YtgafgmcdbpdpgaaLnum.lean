/- The statements' own Num. No condition. -/
import Derived.Test.YtgafgmcdbpdpgaaProg
import Derived.WalkKit
namespace Go.Proofs.Ytgafgmcdbpdpgaa
open Go Go.RowKit

theorem lnum (n : Int) (w : World) : Calls Try.prog 13 #[.int .i64 n] w fun e w' => e = .returned (.int .i64 n) ∧ w = w' := by
  go_enter Try.func13, Try.ntmps13
  go_wp2
  go_ret
  exact ⟨rfl, rfl⟩
end Go.Proofs.Ytgafgmcdbpdpgaa
