/- admin.May answers as the plain codec says. No condition. -/
import Derived.Test.YtpleefloaoljfaaDoorAp2
import Derived.Test.YtpleefloaoljfaaDoorRefkit
namespace Go.Proofs.YtpleefloaoljfaaDoor
open Go Go.RowKit

theorem apok_of {k : Int} (U : Nat) (m0 m1 m2 m3 m4 : Int) (B0 B1 B2 B3 B4 : Bool) (hU : apU k = U) (hI : (apI k) = true) (hM : (apM k) = rowL [m0, m1, m2, m3, m4]) (e0 : pT U ((0 : Nat) : Int) = B0) (e1 : pT U ((1 : Nat) : Int) = B1) (e2 : pT U ((2 : Nat) : Int) = B2) (e3 : pT U ((3 : Nat) : Int) = B3) (e4 : pT U ((4 : Nat) : Int) = B4) (u y x q s : Int) :
    apok k u y x q s = true ↔ ((0 ≤ u ∧ u ≤ m0) ∧ (u = 0 ∨ B0 = true)) ∧ ((0 ≤ y ∧ y ≤ m1) ∧ (y = 0 ∨ B1 = true)) ∧ ((0 ≤ x ∧ x ≤ m2) ∧ (x = 0 ∨ B2 = true)) ∧ ((0 ≤ q ∧ q ≤ m3) ∧ (q = 0 ∨ B3 = true)) ∧ ((0 ≤ s ∧ s ≤ m4) ∧ (s = 0 ∨ B4 = true)) := by
  unfold apok okRow
  rw [hI, hU, hM, show List.range 5 = [0, 1, 2, 3, 4] from rfl]
  simp only [List.all_cons, List.all_nil, Bool.and_eq_true, Bool.or_eq_true, decide_eq_true_eq, Bool.and_true, true_and, e0, e1, e2, e3, e4]
  simp only [rowL, List.getD_cons_zero, List.getD_cons_succ]
theorem apmay_ok (k u y x q s : Int) : apok k u y x q s = (Ad.mk k u y x q s).may := by
  rw [Bool.eq_iff_iff, Ad.may_iff, Ad.rng_iff]
  simp only [okNum_iff]
  by_cases h0 : k = 0
  · subst h0
    rw [apok_of 15 7 1073741823 1073741823 1048576 1073741823 true true true true false rfl rfl rfl (by kernel_rfl) (by kernel_rfl) (by kernel_rfl) (by kernel_rfl) (by kernel_rfl)]
    simp [Ad.part, Ad.lim]
    grind
  by_cases h1 : k = 1
  · subst h1
    rw [apok_of 1 7 1073741823 1073741823 1048576 1073741823 true false false false false rfl rfl rfl (by kernel_rfl) (by kernel_rfl) (by kernel_rfl) (by kernel_rfl) (by kernel_rfl)]
    simp [Ad.part, Ad.lim]
    grind
  by_cases h2 : k = 2
  · subst h2
    rw [apok_of 1 7 1073741823 1073741823 1048576 1073741823 true false false false false rfl rfl rfl (by kernel_rfl) (by kernel_rfl) (by kernel_rfl) (by kernel_rfl) (by kernel_rfl)]
    simp [Ad.part, Ad.lim]
    grind
  by_cases h3 : k = 3
  · subst h3
    rw [apok_of 0 7 1073741823 1073741823 1048576 1073741823 false false false false false rfl rfl rfl (by kernel_rfl) (by kernel_rfl) (by kernel_rfl) (by kernel_rfl) (by kernel_rfl)]
    simp [Ad.part, Ad.lim]
    grind
  by_cases h4 : k = 4
  · subst h4
    rw [apok_of 16 7 1073741823 1073741823 1048576 1073741823 false false false false true rfl rfl rfl (by kernel_rfl) (by kernel_rfl) (by kernel_rfl) (by kernel_rfl) (by kernel_rfl)]
    simp [Ad.part, Ad.lim]
    grind
  have e2 : apok k u y x q s = false := by
    unfold apok
    rw [show apI k = false by unfold apI; simp [h0, h1, h2, h3, h4]]
    rfl
  rw [e2]
  simp [Ad.part, h0, h1, h2, h3, h4]
theorem apmay (p : Ad) (w : World) : Calls Tryd.prog 12 #[p.val] w fun e w' => e = .returned (.bool p.may) ∧ Below w.heap.size w w' := by
  obtain ⟨k, u, y, x, q, s⟩ := p
  rw [← apmay_ok]
  exact apmayR k u y x q s w
end Go.Proofs.YtpleefloaoljfaaDoor
