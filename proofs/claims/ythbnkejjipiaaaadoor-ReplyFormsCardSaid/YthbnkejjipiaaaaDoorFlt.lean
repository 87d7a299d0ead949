/- Package fault's New: it lays one fault, and answers it. No condition. -/
import Derived.Test.YthbnkejjipiaaaaDoorProg
import Derived.WalkKit
import Derived.WalkSpells
import Derived.WalkLawsBesides
namespace Go.Proofs.YthbnkejjipiaaaaDoor
open Go.RowKit

theorem fltnew (s : ByteArray) (a : Int) (t : TypeId) (u : Value) (w : World) : Calls Tryd.prog 59 #[.string s, .int .i64 a, .iface t u] w fun e w' => e = .returned (.iface 112 (.pointer (some ⟨w.heap.size, 0, none⟩))) ∧ w.alloc (.cells #[.string s, .int .i64 a, .iface t u] 114) = w' := by
  go_enter Tryd.func59, Tryd.ntmps59
  go_wp2
  go_ret
  exact ⟨rfl, rfl⟩
end Go.Proofs.YthbnkejjipiaaaaDoor
