/- PoolForms answers true at any numbers, where the program's calls answer as the chapter says. -/
import Derived.Test.YtamhjnjabjfgeaaPaf1
import Derived.Test.YtamhjnjabjfgeaaPaf2
namespace Go.Proofs.Ytamhjnjabjfgeaa
open Go Go.RowKit

theorem paforms (P : PoolsOk) (n x : Int) (w : World) : Calls Try.prog 5 #[.int .i64 n, .int .i64 x] w fun e w' => e = .returned (.bool true) ∧ Below w.heap.size w w' := by
  have hu0 : 0 ≤ IntKind.u64.wrap n := by rw [IntKind.wrap_u64]; omega
  have hm := i64_mask x 10 (by omega)
  rw [show ((2 ^ 10 - 1 : Nat) : Int) = 1023 from by decide, show ((2 ^ 10 : Nat) : Int) = 1024 from by decide] at hm
  have h0 : 0 ≤ (IntKind.u64.wrap n).tmod 14 := by rw [Int.tmod_eq_emod_of_nonneg hu0]; omega
  have h1 : (IntKind.u64.wrap n).tmod 14 < 14 := by rw [Int.tmod_eq_emod_of_nonneg hu0]; omega
  generalize hk : (IntKind.u64.wrap n).tmod 14 = k at h0 h1
  rcases (show k = 0 ∨ k = 1 ∨ k = 2 ∨ k = 3 ∨ k = 4 ∨ k = 5 ∨ k = 6 ∨ k = 7 ∨ k = 8 ∨ k = 9 ∨ k = 10 ∨ k = 11 ∨ k = 12 ∨ k = 13 by omega) with rfl | rfl | rfl | rfl | rfl | rfl | rfl | rfl | rfl | rfl | rfl | rfl | rfl | rfl
  · exact paforms0 P n x _ w hk hm (by omega) (by omega)
  · exact paforms1 P n x _ w hk hm (by omega) (by omega)
  · exact paforms2 P n x _ w hk hm (by omega) (by omega)
  · exact paforms3 P n x _ w hk hm (by omega) (by omega)
  · exact paforms4 P n x _ w hk hm (by omega) (by omega)
  · exact paforms5 P n x _ w hk hm (by omega) (by omega)
  · exact paforms6 P n x _ w hk hm (by omega) (by omega)
  · exact paforms7 P n x _ w hk hm (by omega) (by omega)
  · exact paforms8 P n x _ w hk hm (by omega) (by omega)
  · exact paforms9 P n x _ w hk hm (by omega) (by omega)
  · exact paforms10 P n x _ w hk hm (by omega) (by omega)
  · exact paforms11 P n x _ w hk hm (by omega) (by omega)
  · exact paforms12 P n x _ w hk hm (by omega) (by omega)
  · exact paforms13 P n x _ w hk hm (by omega) (by omega)
end Go.Proofs.Ytamhjnjabjfgeaa
