/- The walk of CraftForms: keys and texts that are none, and a full book. No condition. -/
import Derived.Test.YthbpnffiibjgjaaCforms1
import Derived.Test.YthbpnffiibjgjaaCforms2
import Derived.Test.YthbpnffiibjgjaaCforms3
namespace Go.Proofs.Ythbpnffiibjgjaa
open Go Go.RowKit Go.Maps

theorem cforms_walk (n x : Int) (w : World) :
    Calls Try.prog 5 #[.int .i64 n, .int .i64 x] w fun e w' => e = .returned (.bool true) ∧ Below w.heap.size w w' := by
  have hu0 : 0 ≤ IntKind.u64.wrap n := by rw [IntKind.wrap_u64]; omega
  have hm := i64_mask x 10 (by omega)
  rw [show ((2 ^ 10 - 1 : Nat) : Int) = 1023 from by decide, show ((2 ^ 10 : Nat) : Int) = 1024 from by decide] at hm
  obtain ⟨j, hj, h0, h9⟩ : ∃ j : Int, (IntKind.u64.wrap n).tmod 9 = j ∧ 0 ≤ j ∧ j < 9 := ⟨_, rfl, by rw [Int.tmod_eq_emod_of_nonneg hu0]; omega, by rw [Int.tmod_eq_emod_of_nonneg hu0]; omega⟩
  have m0 : 0 ≤ x % 1024 := by omega
  have m1 : x % 1024 ≤ 1023 := by omega
  rcases (show j = 0 ∨ j = 1 ∨ j = 2 ∨ j = 3 ∨ j = 4 ∨ j = 5 ∨ j = 6 ∨ j = 7 ∨ j = 8 by omega) with rfl | rfl | rfl | rfl | rfl | rfl | rfl | rfl | rfl
  · exact forms_0 n x _ w hj hm m0 m1
  · exact forms_1 n x _ w hj hm m0 m1
  · exact forms_2 n x _ w hj hm m0 m1
  · exact forms_3 n x _ w hj hm m0 m1
  · exact forms_4 n x _ w hj hm m0 m1
  · exact forms_5 n x _ w hj hm m0 m1
  · exact forms_6 n x _ w hj hm m0 m1
  · exact forms_7 n x _ w hj hm m0 m1
  · exact forms_8 n x _ w hj hm m0 m1
end Go.Proofs.Ythbpnffiibjgjaa
