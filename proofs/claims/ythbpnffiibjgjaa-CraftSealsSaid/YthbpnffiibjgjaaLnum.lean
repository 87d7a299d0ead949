/- The statements' own Num. No condition. -/
import Derived.Test.YthbpnffiibjgjaaProg
import Derived.WalkKit
namespace Go.Proofs.Ythbpnffiibjgjaa
open Go Go.RowKit

theorem lnum (n : Int) (w : World) : Calls Try.prog 16 #[.int .i64 n] w fun e w' => e = .returned (.int .i64 n) ∧ w = w' := by
  go_enter Try.func16, Try.ntmps16
  go_wp2
  go_ret
  exact ⟨rfl, rfl⟩
end Go.Proofs.Ythbpnffiibjgjaa
