/- event.May answers as the plain codec says. No condition. -/
import Derived.Test.YtodngcpphnmphaaDoorEp2
import Derived.Test.YtodngcpphnmphaaDoorRefkit
namespace Go.Proofs.YtodngcpphnmphaaDoor
open Go Go.RowKit

theorem epok_of {k : Int} (U : Nat) (m0 m1 m2 m3 m4 m5 m6 : Int) (B0 B1 B2 B3 B4 B5 B6 : Bool) (hU : epU k = U) (hI : (epI k) = true) (hM : (epM k) = rowL [m0, m1, m2, m3, m4, m5, m6]) (e0 : pT U ((0 : Nat) : Int) = B0) (e1 : pT U ((1 : Nat) : Int) = B1) (e2 : pT U ((2 : Nat) : Int) = B2) (e3 : pT U ((3 : Nat) : Int) = B3) (e4 : pT U ((4 : Nat) : Int) = B4) (e5 : pT U ((5 : Nat) : Int) = B5) (e6 : pT U ((6 : Nat) : Int) = B6) (u s a x y z t : Int) :
    epok k u s a x y z t = true ↔ ((0 ≤ s ∧ s ≤ m0) ∧ (s = 0 ∨ B0 = true)) ∧ ((0 ≤ u ∧ u ≤ m1) ∧ (u = 0 ∨ B1 = true)) ∧ ((0 ≤ a ∧ a ≤ m2) ∧ (a = 0 ∨ B2 = true)) ∧ ((0 ≤ x ∧ x ≤ m3) ∧ (x = 0 ∨ B3 = true)) ∧ ((0 ≤ y ∧ y ≤ m4) ∧ (y = 0 ∨ B4 = true)) ∧ ((0 ≤ z ∧ z ≤ m5) ∧ (z = 0 ∨ B5 = true)) ∧ ((0 ≤ t ∧ t ≤ m6) ∧ (t = 0 ∨ B6 = true)) := by
  unfold epok okRow
  rw [hI, hU, hM, show List.range 7 = [0, 1, 2, 3, 4, 5, 6] from rfl]
  simp only [List.all_cons, List.all_nil, Bool.and_eq_true, Bool.or_eq_true, decide_eq_true_eq, Bool.and_true, true_and, e0, e1, e2, e3, e4, e5, e6]
  simp only [rowL, List.getD_cons_zero, List.getD_cons_succ]
theorem epmay_ok (k u s a x y z t : Int) : epok k u s a x y z t = (Ev.mk k u s a x y z t).may := by
  rw [Bool.eq_iff_iff, Ev.may_iff, Ev.rng_iff]
  simp only [okNum_iff]
  by_cases h0 : k = 0
  · subst h0
    rw [epok_of 64 1073741823 7 15 1073741823 1073741823 1048576 1048575 false false false false false false true rfl rfl rfl (by kernel_rfl) (by kernel_rfl) (by kernel_rfl) (by kernel_rfl) (by kernel_rfl) (by kernel_rfl) (by kernel_rfl)]
    simp [Ev.part, Ev.lim]
    grind
  by_cases h1 : k = 1
  · subst h1
    rw [epok_of 58 1073741823 7 15 1073741823 1073741823 1048576 1048575 false true false true true true false rfl rfl rfl (by kernel_rfl) (by kernel_rfl) (by kernel_rfl) (by kernel_rfl) (by kernel_rfl) (by kernel_rfl) (by kernel_rfl)]
    simp [Ev.part, Ev.lim]
    grind
  by_cases h2 : k = 2
  · subst h2
    rw [epok_of 66 1073741823 7 15 1073741823 1073741823 1048576 1048575 false true false false false false true rfl rfl rfl (by kernel_rfl) (by kernel_rfl) (by kernel_rfl) (by kernel_rfl) (by kernel_rfl) (by kernel_rfl) (by kernel_rfl)]
    simp [Ev.part, Ev.lim]
    grind
  by_cases h3 : k = 3
  · subst h3
    rw [epok_of 10 1073741823 7 15 1073741823 1073741823 1048576 1048575 false true false true false false false rfl rfl rfl (by kernel_rfl) (by kernel_rfl) (by kernel_rfl) (by kernel_rfl) (by kernel_rfl) (by kernel_rfl) (by kernel_rfl)]
    simp [Ev.part, Ev.lim]
    grind
  by_cases h4 : k = 4
  · subst h4
    rw [epok_of 2 1073741823 7 15 1073741823 1073741823 1048576 1048575 false true false false false false false rfl rfl rfl (by kernel_rfl) (by kernel_rfl) (by kernel_rfl) (by kernel_rfl) (by kernel_rfl) (by kernel_rfl) (by kernel_rfl)]
    simp [Ev.part, Ev.lim]
    grind
  by_cases h5 : k = 5
  · subst h5
    rw [epok_of 71 1073741823 7 15 1073741823 1073741823 1048576 1048575 true true true false false false true rfl rfl rfl (by kernel_rfl) (by kernel_rfl) (by kernel_rfl) (by kernel_rfl) (by kernel_rfl) (by kernel_rfl) (by kernel_rfl)]
    simp [Ev.part, Ev.lim]
    grind
  by_cases h6 : k = 6
  · subst h6
    rw [epok_of 89 1073741823 7 15 1073741823 4 1048576 1048575 true false false true true false true rfl rfl rfl (by kernel_rfl) (by kernel_rfl) (by kernel_rfl) (by kernel_rfl) (by kernel_rfl) (by kernel_rfl) (by kernel_rfl)]
    simp [Ev.part, Ev.lim]
    grind
  by_cases h7 : k = 7
  · subst h7
    rw [epok_of 2 1073741823 7 15 1073741823 1073741823 1048576 1048575 false true false false false false false rfl rfl rfl (by kernel_rfl) (by kernel_rfl) (by kernel_rfl) (by kernel_rfl) (by kernel_rfl) (by kernel_rfl) (by kernel_rfl)]
    simp [Ev.part, Ev.lim]
    grind
  by_cases h8 : k = 8
  · subst h8
    rw [epok_of 0 1073741823 7 15 1073741823 1073741823 1048576 1048575 false false false false false false false rfl rfl rfl (by kernel_rfl) (by kernel_rfl) (by kernel_rfl) (by kernel_rfl) (by kernel_rfl) (by kernel_rfl) (by kernel_rfl)]
    simp [Ev.part, Ev.lim]
    grind
  by_cases h9 : k = 9
  · subst h9
    rw [epok_of 1 1073741823 7 15 1073741823 1073741823 1048576 1048575 true false false false false false false rfl rfl rfl (by kernel_rfl) (by kernel_rfl) (by kernel_rfl) (by kernel_rfl) (by kernel_rfl) (by kernel_rfl) (by kernel_rfl)]
    simp [Ev.part, Ev.lim]
    grind
  have e2 : epok k u s a x y z t = false := by
    unfold epok
    rw [show epI k = false by unfold epI; simp [h0, h1, h2, h3, h4, h5, h6, h7, h8, h9]]
    rfl
  rw [e2]
  simp [Ev.part, h0, h1, h2, h3, h4, h5, h6, h7, h8, h9]
theorem epmay (p : Ev) (w : World) : Calls Tryd.prog 12 #[p.val] w fun e w' => e = .returned (.bool p.may) ∧ Below w.heap.size w w' := by
  obtain ⟨k, u, s, a, x, y, z, t⟩ := p
  rw [← epmay_ok]
  exact epmayR k u s a x y z t w
end Go.Proofs.YtodngcpphnmphaaDoor
