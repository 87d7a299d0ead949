/- The statements' own Num. No condition. -/
import Derived.Test.YtcakipojmkehgaaDoorProg
import Derived.WalkKit
namespace Go.Proofs.YtcakipojmkehgaaDoor
open Go Go.RowKit

theorem lnum (n : Int) (w : World) : Calls Tryd.prog 14 #[.int .i64 n] w fun e w' => e = .returned (.int .i64 n) ∧ w = w' := by
  go_enter Tryd.func14, Tryd.ntmps14
  go_wp2
  go_ret
  exact ⟨rfl, rfl⟩
end Go.Proofs.YtcakipojmkehgaaDoor
