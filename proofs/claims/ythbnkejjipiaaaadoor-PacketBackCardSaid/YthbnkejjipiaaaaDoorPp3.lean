/- packet.May answers as the plain codec says. No condition. -/
import Derived.Test.YthbnkejjipiaaaaDoorPp2
import Derived.Test.YthbnkejjipiaaaaDoorRefkit
namespace Go.Proofs.YthbnkejjipiaaaaDoor
open Go Go.RowKit

theorem ppok_of {k : Int} (U : Nat) (m0 m1 m2 m3 m4 m5 m6 : Int) (B0 B1 B2 B3 B4 B5 B6 B7 : Bool) (hU : ppU k = U) (hI : (!(((ppU k : Nat) : Int) == 0)) = true) (hM : (ppM k) = rowL [m0, m1, m2, m3, m4, m5, m6]) (e0 : pT U ((0 : Nat) : Int) = B0) (e1 : pT U ((1 : Nat) : Int) = B1) (e2 : pT U ((2 : Nat) : Int) = B2) (e3 : pT U ((3 : Nat) : Int) = B3) (e4 : pT U ((4 : Nat) : Int) = B4) (e5 : pT U ((5 : Nat) : Int) = B5) (e6 : pT U ((6 : Nat) : Int) = B6) (e7 : pT U 7 = B7) (u n h t c s q : Int) (d : ByteArray) :
    ppok k u n h t c s q d = true ↔ ((0 ≤ u ∧ u ≤ m0) ∧ (u = 0 ∨ B0 = true)) ∧ ((0 ≤ h ∧ h ≤ m1) ∧ (h = 0 ∨ B1 = true)) ∧ ((0 ≤ s ∧ s ≤ m2) ∧ (s = 0 ∨ B2 = true)) ∧ ((0 ≤ q ∧ q ≤ m3) ∧ (q = 0 ∨ B3 = true)) ∧ ((0 ≤ t ∧ t ≤ m4) ∧ (t = 0 ∨ B4 = true)) ∧ ((0 ≤ n ∧ n ≤ m5) ∧ (n = 0 ∨ B5 = true)) ∧ ((0 ≤ c ∧ c ≤ m6) ∧ (c = 0 ∨ B6 = true)) ∧ (if B7 then (d.size : Int) ≤ 64 else d = ⟨#[]⟩) := by
  unfold ppok okRow
  rw [hI, hU, hM, e7, show List.range 7 = [0, 1, 2, 3, 4, 5, 6] from rfl]
  simp only [List.all_cons, List.all_nil, Bool.and_eq_true, Bool.or_eq_true, decide_eq_true_eq, Bool.and_true, true_and, e0, e1, e2, e3, e4, e5, e6]
  simp only [rowL, List.getD_cons_zero, List.getD_cons_succ, and_assoc]
  have hz : ∀ x : ByteArray, x.toList.isEmpty = true ↔ x = ⟨#[]⟩ := fun x => by rw [List.isEmpty_iff]; exact isE x
  cases B7
  · simp only [Bool.false_eq_true, if_false, hz]
  · simp only [if_true, decide_eq_true_eq]
theorem ppmay_ok (k u n h t c s q : Int) (d : ByteArray) : ppok k u n h t c s q d = (Pk.mk k u n h t c s q d).may := by
  rw [Bool.eq_iff_iff, Pk.may_iff, Pk.rng_iff]
  simp only [okNum_iff]
  have hz : d = ⟨#[]⟩ → d.size = 0 := fun e => by rw [e]; rfl
  by_cases h0 : k = 0
  · subst h0
    rw [ppok_of 33 1073741823 1073741823 1073741823 1048575 1073741823 1073741823 1073741823 true false false false false true false false rfl rfl rfl (by kernel_rfl) (by kernel_rfl) (by kernel_rfl) (by kernel_rfl) (by kernel_rfl) (by kernel_rfl) (by kernel_rfl) (by kernel_rfl)]
    simp [Pk.part, Pk.lim]
    grind
  by_cases h1 : k = 1
  · subst h1
    rw [ppok_of 82 1073741823 1073741823 1073741823 1048575 1073741823 1073741823 1073741823 false true false false true false true false rfl rfl rfl (by kernel_rfl) (by kernel_rfl) (by kernel_rfl) (by kernel_rfl) (by kernel_rfl) (by kernel_rfl) (by kernel_rfl) (by kernel_rfl)]
    simp [Pk.part, Pk.lim]
    grind
  by_cases h2 : k = 2
  · subst h2
    rw [ppok_of 112 1073741823 1073741823 1073741823 1048575 1073741823 1073741823 1073741823 false false false false true true true false rfl rfl rfl (by kernel_rfl) (by kernel_rfl) (by kernel_rfl) (by kernel_rfl) (by kernel_rfl) (by kernel_rfl) (by kernel_rfl) (by kernel_rfl)]
    simp [Pk.part, Pk.lim]
    grind
  by_cases h3 : k = 3
  · subst h3
    rw [ppok_of 156 1073741823 1073741823 1073741823 1048575 1073741823 1073741823 1073741823 false false true true true false false true rfl rfl rfl (by kernel_rfl) (by kernel_rfl) (by kernel_rfl) (by kernel_rfl) (by kernel_rfl) (by kernel_rfl) (by kernel_rfl) (by kernel_rfl)]
    simp [Pk.part, Pk.lim]
    grind
  by_cases h4 : k = 4
  · subst h4
    rw [ppok_of 20 1073741823 1073741823 1073741823 1048575 1073741823 1073741823 1073741823 false false true false true false false false rfl rfl rfl (by kernel_rfl) (by kernel_rfl) (by kernel_rfl) (by kernel_rfl) (by kernel_rfl) (by kernel_rfl) (by kernel_rfl) (by kernel_rfl)]
    simp [Pk.part, Pk.lim]
    grind
  have e2 : ppok k u n h t c s q d = false := by
    unfold ppok
    rw [show ppU k = 0 by unfold ppU; rw [if_neg h0, if_neg h1, if_neg h2, if_neg h3, if_neg h4]]
    rfl
  rw [e2]
  simp [Pk.part, h0, h1, h2, h3, h4]
theorem ppmay (p : Pk) (w : World) : Calls Tryd.prog 16 #[p.val] w fun e w' => e = .returned (.bool p.may) ∧ Below w.heap.size w w' := by
  obtain ⟨k, u, n, h, t, c, s, q, d⟩ := p
  rw [← ppmay_ok]
  exact ppmayR k u n h t c s q d w
end Go.Proofs.YthbnkejjipiaaaaDoor
