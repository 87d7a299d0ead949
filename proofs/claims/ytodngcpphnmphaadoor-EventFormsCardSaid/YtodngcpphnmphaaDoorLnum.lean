/- The statements' own Num. No condition. -/
import Derived.Test.YtodngcpphnmphaaDoorProg
import Derived.WalkKit
namespace Go.Proofs.YtodngcpphnmphaaDoor
open Go Go.RowKit

theorem lnum (n : Int) (w : World) : Calls Tryd.prog 11 #[.int .i64 n] w fun e w' => e = .returned (.int .i64 n) ∧ w = w' := by
  go_enter Tryd.func11, Tryd.ntmps11
  go_wp2
  go_ret
  exact ⟨rfl, rfl⟩
end Go.Proofs.YtodngcpphnmphaaDoor
