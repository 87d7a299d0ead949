/- packet.May answers as the plain words say. No condition. -/
import Derived.Test.YtheeblhlhdeghaaDoorPpm2
import Derived.Test.YtheeblhlhdeghaaDoorPkt
namespace Go.Proofs.YtheeblhlhdeghaaDoor
open Go Go.RowKit

theorem okP_of {k : Int} (U : Nat) (m0 m1 m2 m3 m4 m5 m6 m7 : Int) (hU : pU k = U) (hz : ((U : Int) == 0) = false)
    (e0 : pM U (0 : Nat) = m0) (e1 : pM U (1 : Nat) = m1) (e2 : pM U (2 : Nat) = m2) (e3 : pM U (3 : Nat) = m3) (e4 : pM U (4 : Nat) = m4) (e5 : pM U (5 : Nat) = m5) (e6 : pM U (6 : Nat) = m6) (e7 : pM U 7 = m7) (u n h t c s q : Int) (d : ByteArray) :
    okP k u n h t c s q d = true ↔ (0 ≤ u ∧ u ≤ m0) ∧ (0 ≤ h ∧ h ≤ m1) ∧ (0 ≤ s ∧ s ≤ m2) ∧ (0 ≤ q ∧ q ≤ m3) ∧ (0 ≤ t ∧ t ≤ m4) ∧ (0 ≤ n ∧ n ≤ m5) ∧ (0 ≤ c ∧ c ≤ m6) ∧ (d.size : Int) ≤ m7 := by
  unfold okP
  rw [hU, hz, e7, show List.range 7 = [0, 1, 2, 3, 4, 5, 6] from rfl]
  simp only [List.all_cons, List.all_nil, Bool.and_eq_true, decide_eq_true_eq, Bool.not_false, Bool.and_true, true_and, e0, e1, e2, e3, e4, e5, e6]
  simp only [row7, and_assoc]
theorem size_zero {d : ByteArray} (h : d.size = 0) : d = ⟨#[]⟩ := by
  obtain ⟨a⟩ := d
  congr 1
  exact Array.eq_empty_of_size_eq_zero h
theorem Pk.may_ok (k u n h t c s q : Int) (d : ByteArray) : okP k u n h t c s q d = (Pk.mk k u n h t c s q d).may := by
  rw [Bool.eq_iff_iff, Pk.may_iff, Pk.rng_iff]
  simp only [okNum_iff]
  have hz : d = ⟨#[]⟩ ↔ d.size = 0 := ⟨fun e => by rw [e]; rfl, size_zero⟩
  by_cases h0 : k = 0
  · subst h0
    rw [okP_of 33 1073741823 0 0 0 0 1073741823 0 0 rfl rfl (by kernel_rfl) (by kernel_rfl) (by kernel_rfl) (by kernel_rfl) (by kernel_rfl) (by kernel_rfl) (by kernel_rfl) (by kernel_rfl)]
    simp only [Pk.part, if_pos, Option.some.injEq, Pk.mk.injEq, true_and, eq_comm (a := (⟨#[]⟩ : ByteArray)), hz]
    omega
  by_cases h1 : k = 1
  · subst h1
    rw [okP_of 82 0 1073741823 0 0 1073741823 0 1073741823 0 rfl rfl (by kernel_rfl) (by kernel_rfl) (by kernel_rfl) (by kernel_rfl) (by kernel_rfl) (by kernel_rfl) (by kernel_rfl) (by kernel_rfl)]
    simp only [Pk.part, if_neg h0, if_pos, Option.some.injEq, Pk.mk.injEq, true_and, eq_comm (a := (⟨#[]⟩ : ByteArray)), hz]
    omega
  by_cases h2 : k = 2
  · subst h2
    rw [okP_of 112 0 0 0 0 1073741823 1073741823 1073741823 0 rfl rfl (by kernel_rfl) (by kernel_rfl) (by kernel_rfl) (by kernel_rfl) (by kernel_rfl) (by kernel_rfl) (by kernel_rfl) (by kernel_rfl)]
    simp only [Pk.part, if_neg h0, if_neg h1, if_pos, Option.some.injEq, Pk.mk.injEq, true_and, eq_comm (a := (⟨#[]⟩ : ByteArray)), hz]
    omega
  by_cases h3 : k = 3
  · subst h3
    rw [okP_of 156 0 0 1073741823 1048575 1073741823 0 0 64 rfl rfl (by kernel_rfl) (by kernel_rfl) (by kernel_rfl) (by kernel_rfl) (by kernel_rfl) (by kernel_rfl) (by kernel_rfl) (by kernel_rfl)]
    simp only [Pk.part, if_neg h0, if_neg h1, if_neg h2, if_pos, Option.some.injEq, Pk.mk.injEq, true_and, and_true]
    omega
  by_cases h4 : k = 4
  · subst h4
    rw [okP_of 20 0 0 1073741823 0 1073741823 0 0 0 rfl rfl (by kernel_rfl) (by kernel_rfl) (by kernel_rfl) (by kernel_rfl) (by kernel_rfl) (by kernel_rfl) (by kernel_rfl) (by kernel_rfl)]
    simp only [Pk.part, if_neg h0, if_neg h1, if_neg h2, if_neg h3, if_pos, Option.some.injEq, Pk.mk.injEq, true_and, eq_comm (a := (⟨#[]⟩ : ByteArray)), hz]
    omega
  have e : pU k = 0 := by unfold pU; rw [if_neg h0, if_neg h1, if_neg h2, if_neg h3, if_neg h4]
  have e2 : okP k u n h t c s q d = false := by unfold okP; rw [e]; rfl
  rw [e2]
  simp [Pk.part, h0, h1, h2, h3, h4]
theorem ppmay (p : Pk) (w : World) : Calls Tryd.prog 12 #[p.val] w fun e w' => e = .returned (.bool p.may) ∧ Below w.heap.size w w' := by
  obtain ⟨k, u, n, h, t, c, s, q, d⟩ := p
  rw [← Pk.may_ok]
  exact ppmayR k u n h t c s q d w
end Go.Proofs.YtheeblhlhdeghaaDoor
