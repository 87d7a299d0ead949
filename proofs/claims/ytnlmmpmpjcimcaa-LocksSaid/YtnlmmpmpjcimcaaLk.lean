/- Locks in plain words. No program is named. -/
import Derived.WalkKit
namespace Go.Proofs.Ytnlmmpmpjcimcaa
open Go Go.RowKit

/-- May a failure be counted: the lock, the tick, the most, the lockout are some, and the lock is open. -/
def lkOk (f u t m o : Int) : Prop := (0 ≤ f ∧ f ≤ 8) ∧ (0 ≤ u ∧ u ≤ 1114111) ∧ (0 ≤ t ∧ t ≤ 1048575) ∧ (1 ≤ m ∧ m ≤ 8) ∧ (1 ≤ o ∧ o ≤ 65536) ∧ u ≤ t
instance (f u t m o : Int) : Decidable (lkOk f u t m o) := by unfold lkOk; exact inferInstance
/-- One failure more. -/
def lkC (f m : Int) : Int := if m ≤ f then 1 else f + 1
def lkE (f u t m o : Int) : Int := if lkOk f u t m o then 0 else 1300
def lkF (f u t m o : Int) : Int := if lkOk f u t m o then lkC f m else 0
def lkU (f u t m o : Int) : Int := if lkOk f u t m o then (if lkC f m = m then t + o else u) else 0
theorem lk_no {f u t m o : Int} (h : ¬ lkOk f u t m o) : lkE f u t m o = 1300 ∧ lkF f u t m o = 0 ∧ lkU f u t m o = 0 := by
  simp [lkE, lkF, lkU, h]
theorem lk_yes {f u t m o : Int} (h : lkOk f u t m o) : lkE f u t m o = 0 ∧ lkF f u t m o = lkC f m ∧ lkU f u t m o = if lkC f m = m then t + o else u := by
  simp [lkE, lkF, lkU, h]
theorem lkC_bd {f m : Int} (h0 : 0 ≤ f) (m1 : 1 ≤ m) : 1 ≤ lkC f m ∧ lkC f m ≤ m := by
  unfold lkC; split <;> omega
end Go.Proofs.Ytnlmmpmpjcimcaa
