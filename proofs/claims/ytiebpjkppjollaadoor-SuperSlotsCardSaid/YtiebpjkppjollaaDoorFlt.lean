/- Package fault's New: it lays one fault, and answers it. No condition. -/
import Derived.Test.YtiebpjkppjollaaDoorProg
import Derived.WalkKit
import Derived.WalkSpells
import Derived.WalkLawsBesides
namespace Go.Proofs.YtiebpjkppjollaaDoor
open Go.RowKit

theorem fltnew (s : ByteArray) (a : Int) (t : TypeId) (u : Value) (w : World) : Calls Tryd.prog 87 #[.string s, .int .i64 a, .iface t u] w fun e w' => e = .returned (.iface 158 (.pointer (some ⟨w.heap.size, 0, none⟩))) ∧ w.alloc (.cells #[.string s, .int .i64 a, .iface t u] 160) = w' := by
  go_enter Tryd.func87, Tryd.ntmps87
  go_wp2
  go_ret
  exact ⟨rfl, rfl⟩
end Go.Proofs.YtiebpjkppjollaaDoor
