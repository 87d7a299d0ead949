/- admin's reader in plain words: what it reads place by place, and that it is what the codec reads. No program is named. -/
import Derived.Test.YtpleefloaoljfaaDoorAp3
namespace Go.Proofs.YtpleefloaoljfaaDoor
open Go Go.RowKit

def apjoinP (k : Int) (r : Nat → Int) : Ad := Ad.mk k (r 0) (r 1) (r 2) (r 3) (r 4)
def apend (k : Int) : Option ((Nat → Int) × Int) → Option (Ad × Int)
  | none => none
  | some (r, a) => some (apjoinP k r, a)
def aprd (s : ByteArray) : Option (Ad × Int) := if getE s 0 = 0 then apend (getX s 0) (stP s (apU (getX s 0)) (getTo s 0) 5) else none
theorem apend_0 (s : ByteArray) (a : Int) : apend 0 (stP s 15 a 5) = (rdL s a [false, false, false, false]).map fun x => (Ad.mk' (.n 0 :: x.1), x.2) := by
  have p0 : pT 15 ((0 : Nat) : Int) = true := by kernel_rfl
  have p1 : pT 15 ((1 : Nat) : Int) = true := by kernel_rfl
  have p2 : pT 15 ((2 : Nat) : Int) = true := by kernel_rfl
  have p3 : pT 15 ((3 : Nat) : Int) = true := by kernel_rfl
  have p4 : pT 15 ((4 : Nat) : Int) = false := by kernel_rfl
  simp only [stP, p0, p1, p2, p3, p4, rdL, if_true, Bool.false_eq_true, if_false]
  by_cases h0 : getE s a = 0
  case neg => simp [h0, apend]
  by_cases h1 : getE s (getTo s a) = 0
  case neg => simp [h1, apend, h0]
  by_cases h2 : getE s (getTo s (getTo s a)) = 0
  case neg => simp [h2, apend, h0, h1]
  by_cases h3 : getE s (getTo s (getTo s (getTo s a))) = 0
  case neg => simp [h3, apend, h0, h1, h2]
  simp [apend, apjoinP, updR, Ad.mk', h0, h1, h2, h3]
theorem apend_1 (s : ByteArray) (a : Int) : apend 1 (stP s 1 a 5) = (rdL s a [false]).map fun x => (Ad.mk' (.n 1 :: x.1), x.2) := by
  have p0 : pT 1 ((0 : Nat) : Int) = true := by kernel_rfl
  have p1 : pT 1 ((1 : Nat) : Int) = false := by kernel_rfl
  have p2 : pT 1 ((2 : Nat) : Int) = false := by kernel_rfl
  have p3 : pT 1 ((3 : Nat) : Int) = false := by kernel_rfl
  have p4 : pT 1 ((4 : Nat) : Int) = false := by kernel_rfl
  simp only [stP, p0, p1, p2, p3, p4, rdL, if_true, Bool.false_eq_true, if_false]
  by_cases h0 : getE s a = 0
  case neg => simp [h0, apend]
  simp [apend, apjoinP, updR, Ad.mk', h0]
theorem apend_2 (s : ByteArray) (a : Int) : apend 2 (stP s 1 a 5) = (rdL s a [false]).map fun x => (Ad.mk' (.n 2 :: x.1), x.2) := by
  have p0 : pT 1 ((0 : Nat) : Int) = true := by kernel_rfl
  have p1 : pT 1 ((1 : Nat) : Int) = false := by kernel_rfl
  have p2 : pT 1 ((2 : Nat) : Int) = false := by kernel_rfl
  have p3 : pT 1 ((3 : Nat) : Int) = false := by kernel_rfl
  have p4 : pT 1 ((4 : Nat) : Int) = false := by kernel_rfl
  simp only [stP, p0, p1, p2, p3, p4, rdL, if_true, Bool.false_eq_true, if_false]
  by_cases h0 : getE s a = 0
  case neg => simp [h0, apend]
  simp [apend, apjoinP, updR, Ad.mk', h0]
theorem apend_3 (s : ByteArray) (a : Int) : apend 3 (stP s 0 a 5) = (rdL s a []).map fun x => (Ad.mk' (.n 3 :: x.1), x.2) := by
  have p0 : pT 0 ((0 : Nat) : Int) = false := by kernel_rfl
  have p1 : pT 0 ((1 : Nat) : Int) = false := by kernel_rfl
  have p2 : pT 0 ((2 : Nat) : Int) = false := by kernel_rfl
  have p3 : pT 0 ((3 : Nat) : Int) = false := by kernel_rfl
  have p4 : pT 0 ((4 : Nat) : Int) = false := by kernel_rfl
  simp only [stP, p0, p1, p2, p3, p4, rdL, Bool.false_eq_true, if_false]
  simp [apend, apjoinP, Ad.mk']
theorem apend_4 (s : ByteArray) (a : Int) : apend 4 (stP s 16 a 5) = (rdL s a [false]).map fun x => (Ad.mk' (.n 4 :: x.1), x.2) := by
  have p0 : pT 16 ((0 : Nat) : Int) = false := by kernel_rfl
  have p1 : pT 16 ((1 : Nat) : Int) = false := by kernel_rfl
  have p2 : pT 16 ((2 : Nat) : Int) = false := by kernel_rfl
  have p3 : pT 16 ((3 : Nat) : Int) = false := by kernel_rfl
  have p4 : pT 16 ((4 : Nat) : Int) = true := by kernel_rfl
  simp only [stP, p0, p1, p2, p3, p4, rdL, if_true, Bool.false_eq_true, if_false]
  by_cases h0 : getE s a = 0
  case neg => simp [h0, apend]
  simp [apend, apjoinP, updR, Ad.mk', h0]
theorem apend_ok (s : ByteArray) (k a : Int) : apend k (stP s (apU k) a 5) = (rdL s a (Ad.sh k)).map fun x => (Ad.mk' (.n k :: x.1), x.2) := by
  by_cases h0 : k = 0
  · subst h0; exact apend_0 s a
  by_cases h1 : k = 1
  · subst h1; exact apend_1 s a
  by_cases h2 : k = 2
  · subst h2; exact apend_2 s a
  by_cases h3 : k = 3
  · subst h3; exact apend_3 s a
  by_cases h4 : k = 4
  · subst h4; exact apend_4 s a
  rw [show apU k = 0 by unfold apU; rw [if_neg h0, if_neg h1, if_neg h2, if_neg h3, if_neg h4], stP_zero s a 5 (fun j hj => by match j, hj with | 0, _ | 1, _ | 2, _ | 3, _ | 4, _ => show (_ : Bool) = _; kernel_rfl) 5 (Nat.le_refl _)]
  rw [show Ad.sh k = [] by unfold Ad.sh; rw [if_neg h0, if_neg h1, if_neg h2, if_neg h3, if_neg h4]]
  simp [apend, apjoinP, rdL, Ad.mk']
theorem aprd_ok (s : ByteArray) : Ad.get s = match aprd s with
    | some (p, b) => if b = s.size ∧ p.may = true then some p else none
    | none => none := by
  unfold Ad.get getK rdK aprd
  by_cases h : getE s 0 = 0
  · rw [if_pos h, if_pos h, apend_ok]
    cases rdL s (getTo s 0) (Ad.sh (getX s 0)) with
    | none => rfl
    | some y => rfl
  · rw [if_neg h, if_neg h]
end Go.Proofs.YtpleefloaoljfaaDoor
