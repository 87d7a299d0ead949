/- The statements' own Num. No condition. -/
import Derived.Test.YtamhjnjabjfgeaaProg
import Derived.WalkKit
namespace Go.Proofs.Ytamhjnjabjfgeaa
open Go Go.RowKit

theorem lnum (n : Int) (w : World) : Calls Try.prog 17 #[.int .i64 n] w fun e w' => e = .returned (.int .i64 n) ∧ w = w' := by
  go_enter Try.func17, Try.ntmps17
  go_wp2
  go_ret
  exact ⟨rfl, rfl⟩
end Go.Proofs.Ytamhjnjabjfgeaa
