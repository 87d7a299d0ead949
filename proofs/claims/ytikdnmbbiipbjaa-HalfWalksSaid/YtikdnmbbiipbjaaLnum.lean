/- The statements' own Num. No condition. -/
import Derived.Test.YtikdnmbbiipbjaaProg
import Derived.WalkKit
namespace Go.Proofs.Ytikdnmbbiipbjaa
open Go Go.RowKit

theorem lnum (n : Int) (w : World) : Calls Try.prog 14 #[.int .i64 n] w fun e w' => e = .returned (.int .i64 n) ∧ w = w' := by
  go_enter Try.func14, Try.ntmps14
  go_wp2
  go_ret
  exact ⟨rfl, rfl⟩
end Go.Proofs.Ytikdnmbbiipbjaa
