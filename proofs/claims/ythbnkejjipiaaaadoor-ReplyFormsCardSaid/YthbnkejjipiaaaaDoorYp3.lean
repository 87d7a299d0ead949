/- reply.May answers as the plain codec says. No condition. -/
import Derived.Test.YthbnkejjipiaaaaDoorYp2
import Derived.Test.YthbnkejjipiaaaaDoorRefkit
namespace Go.Proofs.YthbnkejjipiaaaaDoor
open Go Go.RowKit

theorem ypok_of {k : Int} (U : Nat) (m0 m1 m2 m3 m4 m5 m6 : Int) (B0 B1 B2 B3 B4 B5 B6 B7 : Bool) (hU : ypU k = U) (hI : (ypI k) = true) (hM : (ypM k) = rowL [m0, m1, m2, m3, m4, m5, m6]) (e0 : pT U ((0 : Nat) : Int) = B0) (e1 : pT U ((1 : Nat) : Int) = B1) (e2 : pT U ((2 : Nat) : Int) = B2) (e3 : pT U ((3 : Nat) : Int) = B3) (e4 : pT U ((4 : Nat) : Int) = B4) (e5 : pT U ((5 : Nat) : Int) = B5) (e6 : pT U ((6 : Nat) : Int) = B6) (e7 : pT U 7 = B7) (h n s a t q c : Int) (d : ByteArray) :
    ypok k h n s a t q c d = true ↔ ((0 ≤ h ∧ h ≤ m0) ∧ (h = 0 ∨ B0 = true)) ∧ ((0 ≤ n ∧ n ≤ m1) ∧ (n = 0 ∨ B1 = true)) ∧ ((0 ≤ s ∧ s ≤ m2) ∧ (s = 0 ∨ B2 = true)) ∧ ((0 ≤ a ∧ a ≤ m3) ∧ (a = 0 ∨ B3 = true)) ∧ ((0 ≤ t ∧ t ≤ m4) ∧ (t = 0 ∨ B4 = true)) ∧ ((0 ≤ q ∧ q ≤ m5) ∧ (q = 0 ∨ B5 = true)) ∧ ((0 ≤ c ∧ c ≤ m6) ∧ (c = 0 ∨ B6 = true)) ∧ (if B7 then (d.size : Int) ≤ 64 else d = ⟨#[]⟩) := by
  unfold ypok okRow
  rw [hI, hU, hM, e7, show List.range 7 = [0, 1, 2, 3, 4, 5, 6] from rfl]
  simp only [List.all_cons, List.all_nil, Bool.and_eq_true, Bool.or_eq_true, decide_eq_true_eq, Bool.and_true, true_and, e0, e1, e2, e3, e4, e5, e6]
  simp only [rowL, List.getD_cons_zero, List.getD_cons_succ, and_assoc]
  have hz : ∀ x : ByteArray, x.toList.isEmpty = true ↔ x = ⟨#[]⟩ := fun x => by rw [List.isEmpty_iff]; exact isE x
  cases B7
  · simp only [Bool.false_eq_true, if_false, hz]
  · simp only [if_true, decide_eq_true_eq]
theorem ypmay_ok (k h n s a t q c : Int) (d : ByteArray) : ypok k h n s a t q c d = (Ry.mk k h n s a t q c d).may := by
  rw [Bool.eq_iff_iff, Ry.may_iff, Ry.rng_iff]
  simp only [okNum_iff]
  have hz : d = ⟨#[]⟩ → d.size = 0 := fun e => by rw [e]; rfl
  by_cases h0 : k = 0
  · subst h0
    rw [ypok_of 3 1073741823 1073741823 1073741823 15 1073741823 1048575 11 true true false false false false false false rfl rfl rfl (by kernel_rfl) (by kernel_rfl) (by kernel_rfl) (by kernel_rfl) (by kernel_rfl) (by kernel_rfl) (by kernel_rfl) (by kernel_rfl)]
    simp [Ry.part, Ry.lim]
    grind
  by_cases h1 : k = 1
  · subst h1
    rw [ypok_of 28 1073741823 1073741823 1073741823 15 1073741823 1048575 11 false false true true true false false false rfl rfl rfl (by kernel_rfl) (by kernel_rfl) (by kernel_rfl) (by kernel_rfl) (by kernel_rfl) (by kernel_rfl) (by kernel_rfl) (by kernel_rfl)]
    simp [Ry.part, Ry.lim]
    grind
  by_cases h2 : k = 2
  · subst h2
    rw [ypok_of 164 1073741823 1073741823 1073741823 15 1073741823 1048575 11 false false true false false true false true rfl rfl rfl (by kernel_rfl) (by kernel_rfl) (by kernel_rfl) (by kernel_rfl) (by kernel_rfl) (by kernel_rfl) (by kernel_rfl) (by kernel_rfl)]
    simp [Ry.part, Ry.lim]
    grind
  by_cases h3 : k = 3
  · subst h3
    rw [ypok_of 64 1073741823 1073741823 1073741823 15 1073741823 1048575 11 false false false false false false true false rfl rfl rfl (by kernel_rfl) (by kernel_rfl) (by kernel_rfl) (by kernel_rfl) (by kernel_rfl) (by kernel_rfl) (by kernel_rfl) (by kernel_rfl)]
    simp [Ry.part, Ry.lim]
    grind
  by_cases h4 : k = 4
  · subst h4
    rw [ypok_of 68 1073741823 1073741823 1073741823 15 1073741823 1048575 4 false false true false false false true false rfl rfl rfl (by kernel_rfl) (by kernel_rfl) (by kernel_rfl) (by kernel_rfl) (by kernel_rfl) (by kernel_rfl) (by kernel_rfl) (by kernel_rfl)]
    simp [Ry.part, Ry.lim]
    grind
  by_cases h5 : k = 5
  · subst h5
    rw [ypok_of 0 1073741823 1073741823 1073741823 15 1073741823 1048575 11 false false false false false false false false rfl rfl rfl (by kernel_rfl) (by kernel_rfl) (by kernel_rfl) (by kernel_rfl) (by kernel_rfl) (by kernel_rfl) (by kernel_rfl) (by kernel_rfl)]
    simp [Ry.part, Ry.lim]
    grind
  have e2 : ypok k h n s a t q c d = false := by
    unfold ypok
    rw [show ypI k = false by unfold ypI; simp [h0, h1, h2, h3, h4, h5]]
    rfl
  rw [e2]
  simp [Ry.part, h0, h1, h2, h3, h4, h5]
theorem ypmay (p : Ry) (w : World) : Calls Tryd.prog 23 #[p.val] w fun e w' => e = .returned (.bool p.may) ∧ Below w.heap.size w w' := by
  obtain ⟨k, h, n, s, a, t, q, c, d⟩ := p
  rw [← ypmay_ok]
  exact ypmayR k h n s a t q c d w
end Go.Proofs.YthbnkejjipiaaaaDoor
