/- Package fault's New: it lays one fault, and answers it. No condition. -/
import Derived.Test.YtmllcbhoioajgaaDoorProg
import Derived.WalkKit
import Derived.WalkSpells
import Derived.WalkLawsBesides
namespace Go.Proofs.YtmllcbhoioajgaaDoor
open Go.RowKit

theorem fltnew (s : ByteArray) (a : Int) (t : TypeId) (u : Value) (w : World) : Calls Tryd.prog 25 #[.string s, .int .i64 a, .iface t u] w fun e w' => e = .returned (.iface 66 (.pointer (some ⟨w.heap.size, 0, none⟩))) ∧ w.alloc (.cells #[.string s, .int .i64 a, .iface t u] 68) = w' := by
  go_enter Tryd.func25, Tryd.ntmps25
  go_wp2
  go_ret
  exact ⟨rfl, rfl⟩
end Go.Proofs.YtmllcbhoioajgaaDoor
