/- The statements' own Num. No condition. -/
import Derived.Test.YticncfaokapplaaProg
import Derived.WalkKit
namespace Go.Proofs.Yticncfaokapplaa
open Go Go.RowKit

theorem lnum (n : Int) (w : World) : Calls Try.prog 10 #[.int .i64 n] w fun e w' => e = .returned (.int .i64 n) ∧ w = w' := by
  go_enter Try.func10, Try.ntmps10
  go_wp2
  go_ret
  exact ⟨rfl, rfl⟩
end Go.Proofs.Yticncfaokapplaa
