/- The statements' own Num. No condition. -/
import Derived.Test.YtjkcimeeagmmeaaProg
import Derived.WalkKit
namespace Go.Proofs.Ytjkcimeeagmmeaa
open Go Go.RowKit

theorem lnum (n : Int) (w : World) : Calls Try.prog 11 #[.int .i64 n] w fun e w' => e = .returned (.int .i64 n) ∧ w = w' := by
  go_enter Try.func11, Try.ntmps11
  go_wp2
  go_ret
  exact ⟨rfl, rfl⟩
end Go.Proofs.Ytjkcimeeagmmeaa
