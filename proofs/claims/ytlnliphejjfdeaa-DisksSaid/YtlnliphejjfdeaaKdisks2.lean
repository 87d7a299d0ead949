/- The walk of Disks, at any size. No condition. -/
import Derived.Test.YtlnliphejjfdeaaKdisks
namespace Go.Proofs.Ytlnliphejjfdeaa
open Go Go.RowKit

theorem disks_bad (n : Int) (ao : Option Addr) (len cap : Nat) (w : World) (h : n < 1 ∨ 256 < n) :
    Calls Try.prog 3 #[.int .i64 n, .slice ao len cap] w fun e w' => e = .returned (.bool true) ∧ Below w.heap.size w w' := by
  have HP := Lib.hid (fun w => kpnew_bad n w h)
  have HQ := Lib.hid (fun w => krnew_bad n w h)
  clear h
  go_enter Try.func3, Try.ntmps3
  go_wp2_with (first
    | (go_at_call 7; (with_reducible refine (HP.out _).mono ?_); rintro e w1 ⟨rfl, hb⟩; have hB := hb; clear hb)
    | (go_at_call 8; (with_reducible refine (HQ.out _).mono ?_); rintro e w1 ⟨rfl, rfl⟩)
    | (go_at_call 10; (with_reducible refine (awake8 _).mono ?_); rintro e w2 ⟨rfl, hb⟩; replace hB := hB.trans (hb.mono hB.size); clear hb)
    | (go_at_call 9; (with_reducible refine (lnum _ _).mono ?_); rintro e w1 ⟨rfl, rfl⟩))
  go_ret
  exact ⟨rfl, hB⟩
theorem disks_walk (n : Int) (ao : Option Addr) (cap : Nat) (cs : List Act8) (w : World) (hA : AArg w ao cs) :
    Calls Try.prog 3 #[.int .i64 n, .slice ao cs.length cap] w fun e w' => e = .returned (.bool true) ∧ Below w.heap.size w w' := by
  by_cases h : 1 ≤ n ∧ n ≤ 256
  · obtain ⟨m, rfl⟩ := Int.eq_ofNat_of_zero_le (show 0 ≤ n by omega)
    exact disks_ok m ao cap cs w hA (by omega) (by omega)
  · exact disks_bad n ao cs.length cap w (by omega)
end Go.Proofs.Ytlnliphejjfdeaa
