/- Package fault's New: it lays one fault, and answers it. No condition. -/
import Derived.Test.YtbfpfmidjdonjaaGreatDoorProg
import Derived.WalkKit
import Derived.WalkSpells
import Derived.WalkLawsBesides
namespace Go.Proofs.YtbfpfmidjdonjaaGreatDoor
open Go.RowKit
theorem fltnew (s : ByteArray) (a : Int) (t : TypeId) (u : Value) (w : World) : Calls Tryz.prog 92 #[.string s, .int .i64 a, .iface t u] w fun e w' => e = .returned (.iface 178 (.pointer (some ⟨w.heap.size, 0, none⟩))) ∧ w.alloc (.cells #[.string s, .int .i64 a, .iface t u] 180) = w' := by
  go_enter Tryz.func92, Tryz.ntmps92
  go_wp2
  go_ret
  exact ⟨rfl, rfl⟩
end Go.Proofs.YtbfpfmidjdonjaaGreatDoor
