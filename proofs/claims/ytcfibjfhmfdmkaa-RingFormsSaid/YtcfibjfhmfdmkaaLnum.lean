/- The statements' own Num. No condition. -/
import Derived.Test.YtcfibjfhmfdmkaaProg
import Derived.WalkKit
namespace Go.Proofs.Ytcfibjfhmfdmkaa
open Go Go.RowKit

theorem lnum (n : Int) (w : World) : Calls Try.prog 9 #[.int .i64 n] w fun e w' => e = .returned (.int .i64 n) ∧ w = w' := by
  go_enter Try.func9, Try.ntmps9
  go_wp2
  go_ret
  exact ⟨rfl, rfl⟩
end Go.Proofs.Ytcfibjfhmfdmkaa
