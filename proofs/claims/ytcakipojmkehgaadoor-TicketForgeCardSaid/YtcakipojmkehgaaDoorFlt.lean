/- Package fault's New: it lays one fault, and answers it. No condition. -/
import Derived.Test.YtcakipojmkehgaaDoorProg
import Derived.WalkKit
import Derived.WalkSpells
import Derived.WalkLawsBesides
namespace Go.Proofs.YtcakipojmkehgaaDoor
open Go.RowKit

theorem fltnew (s : ByteArray) (a : Int) (t : TypeId) (u : Value) (w : World) : Calls Tryd.prog 36 #[.string s, .int .i64 a, .iface t u] w fun e w' => e = .returned (.iface 97 (.pointer (some ⟨w.heap.size, 0, none⟩))) ∧ w.alloc (.cells #[.string s, .int .i64 a, .iface t u] 99) = w' := by
  go_enter Tryd.func36, Tryd.ntmps36
  go_wp2
  go_ret
  exact ⟨rfl, rfl⟩
end Go.Proofs.YtcakipojmkehgaaDoor
