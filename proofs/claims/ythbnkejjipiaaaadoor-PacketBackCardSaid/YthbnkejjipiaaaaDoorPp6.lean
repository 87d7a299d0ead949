/- packet's reader in plain words: what it reads place by place, and that it is what the codec reads. No program is named. -/
import Derived.Test.YthbnkejjipiaaaaDoorPp3
namespace Go.Proofs.YthbnkejjipiaaaaDoor
open Go Go.RowKit

def ppjoinP (k : Int) (r : Nat → Int) (d : ByteArray) : Pk := Pk.mk k (r 0) (r 5) (r 1) (r 4) (r 6) (r 2) (r 3) d
def ppend (s : ByteArray) (k : Int) (U : Nat) : Option ((Nat → Int) × Int) → Option (Pk × Int)
  | none => none
  | some (r, a) => if pT U 7 then (if txtE s a = 0 then some (ppjoinP k r (txtS s a), txtTo s a) else none) else some (ppjoinP k r ⟨#[]⟩, a)
def pprd (s : ByteArray) : Option (Pk × Int) := if getE s 0 = 0 then ppend s (getX s 0) (ppU (getX s 0)) (stP s (ppU (getX s 0)) (getTo s 0) 7) else none
theorem ppend_0 (s : ByteArray) (a : Int) : ppend s 0 33 (stP s 33 a 7) = (rdL s a [false, false]).map fun x => (Pk.mk' (.n 0 :: x.1), x.2) := by
  have p0 : pT 33 ((0 : Nat) : Int) = true := by kernel_rfl
  have p1 : pT 33 ((1 : Nat) : Int) = false := by kernel_rfl
  have p2 : pT 33 ((2 : Nat) : Int) = false := by kernel_rfl
  have p3 : pT 33 ((3 : Nat) : Int) = false := by kernel_rfl
  have p4 : pT 33 ((4 : Nat) : Int) = false := by kernel_rfl
  have p5 : pT 33 ((5 : Nat) : Int) = true := by kernel_rfl
  have p6 : pT 33 ((6 : Nat) : Int) = false := by kernel_rfl
  have p7 : pT 33 7 = false := by kernel_rfl
  simp only [stP, p0, p1, p2, p3, p4, p5, p6, rdL, if_true, Bool.false_eq_true, if_false]
  by_cases h0 : getE s a = 0
  case neg => simp [h0, ppend]
  by_cases h1 : getE s (getTo s a) = 0
  case neg => simp [h1, ppend, h0]
  simp [ppend, p7, ppjoinP, updR, Pk.mk', h0, h1]
theorem ppend_1 (s : ByteArray) (a : Int) : ppend s 1 82 (stP s 82 a 7) = (rdL s a [false, false, false]).map fun x => (Pk.mk' (.n 1 :: x.1), x.2) := by
  have p0 : pT 82 ((0 : Nat) : Int) = false := by kernel_rfl
  have p1 : pT 82 ((1 : Nat) : Int) = true := by kernel_rfl
  have p2 : pT 82 ((2 : Nat) : Int) = false := by kernel_rfl
  have p3 : pT 82 ((3 : Nat) : Int) = false := by kernel_rfl
  have p4 : pT 82 ((4 : Nat) : Int) = true := by kernel_rfl
  have p5 : pT 82 ((5 : Nat) : Int) = false := by kernel_rfl
  have p6 : pT 82 ((6 : Nat) : Int) = true := by kernel_rfl
  have p7 : pT 82 7 = false := by kernel_rfl
  simp only [stP, p0, p1, p2, p3, p4, p5, p6, rdL, if_true, Bool.false_eq_true, if_false]
  by_cases h0 : getE s a = 0
  case neg => simp [h0, ppend]
  by_cases h1 : getE s (getTo s a) = 0
  case neg => simp [h1, ppend, h0]
  by_cases h2 : getE s (getTo s (getTo s a)) = 0
  case neg => simp [h2, ppend, h0, h1]
  simp [ppend, p7, ppjoinP, updR, Pk.mk', h0, h1, h2]
theorem ppend_2 (s : ByteArray) (a : Int) : ppend s 2 112 (stP s 112 a 7) = (rdL s a [false, false, false]).map fun x => (Pk.mk' (.n 2 :: x.1), x.2) := by
  have p0 : pT 112 ((0 : Nat) : Int) = false := by kernel_rfl
  have p1 : pT 112 ((1 : Nat) : Int) = false := by kernel_rfl
  have p2 : pT 112 ((2 : Nat) : Int) = false := by kernel_rfl
  have p3 : pT 112 ((3 : Nat) : Int) = false := by kernel_rfl
  have p4 : pT 112 ((4 : Nat) : Int) = true := by kernel_rfl
  have p5 : pT 112 ((5 : Nat) : Int) = true := by kernel_rfl
  have p6 : pT 112 ((6 : Nat) : Int) = true := by kernel_rfl
  have p7 : pT 112 7 = false := by kernel_rfl
  simp only [stP, p0, p1, p2, p3, p4, p5, p6, rdL, if_true, Bool.false_eq_true, if_false]
  by_cases h0 : getE s a = 0
  case neg => simp [h0, ppend]
  by_cases h1 : getE s (getTo s a) = 0
  case neg => simp [h1, ppend, h0]
  by_cases h2 : getE s (getTo s (getTo s a)) = 0
  case neg => simp [h2, ppend, h0, h1]
  simp [ppend, p7, ppjoinP, updR, Pk.mk', h0, h1, h2]
theorem ppend_3 (s : ByteArray) (a : Int) : ppend s 3 156 (stP s 156 a 7) = (rdL s a [false, false, false, true]).map fun x => (Pk.mk' (.n 3 :: x.1), x.2) := by
  have p0 : pT 156 ((0 : Nat) : Int) = false := by kernel_rfl
  have p1 : pT 156 ((1 : Nat) : Int) = false := by kernel_rfl
  have p2 : pT 156 ((2 : Nat) : Int) = true := by kernel_rfl
  have p3 : pT 156 ((3 : Nat) : Int) = true := by kernel_rfl
  have p4 : pT 156 ((4 : Nat) : Int) = true := by kernel_rfl
  have p5 : pT 156 ((5 : Nat) : Int) = false := by kernel_rfl
  have p6 : pT 156 ((6 : Nat) : Int) = false := by kernel_rfl
  have p7 : pT 156 7 = true := by kernel_rfl
  simp only [stP, p0, p1, p2, p3, p4, p5, p6, rdL, if_true, Bool.false_eq_true, if_false]
  by_cases h0 : getE s a = 0
  case neg => simp [h0, ppend]
  by_cases h1 : getE s (getTo s a) = 0
  case neg => simp [h1, ppend, h0]
  by_cases h2 : getE s (getTo s (getTo s a)) = 0
  case neg => simp [h2, ppend, h0, h1]
  by_cases ht : txtE s (getTo s (getTo s (getTo s a))) = 0
  case neg => simp [ht, ppend, p7, h0, h1, h2]
  simp [ppend, p7, ppjoinP, updR, Pk.mk', h0, h1, h2, ht]
theorem ppend_4 (s : ByteArray) (a : Int) : ppend s 4 20 (stP s 20 a 7) = (rdL s a [false, false]).map fun x => (Pk.mk' (.n 4 :: x.1), x.2) := by
  have p0 : pT 20 ((0 : Nat) : Int) = false := by kernel_rfl
  have p1 : pT 20 ((1 : Nat) : Int) = false := by kernel_rfl
  have p2 : pT 20 ((2 : Nat) : Int) = true := by kernel_rfl
  have p3 : pT 20 ((3 : Nat) : Int) = false := by kernel_rfl
  have p4 : pT 20 ((4 : Nat) : Int) = true := by kernel_rfl
  have p5 : pT 20 ((5 : Nat) : Int) = false := by kernel_rfl
  have p6 : pT 20 ((6 : Nat) : Int) = false := by kernel_rfl
  have p7 : pT 20 7 = false := by kernel_rfl
  simp only [stP, p0, p1, p2, p3, p4, p5, p6, rdL, if_true, Bool.false_eq_true, if_false]
  by_cases h0 : getE s a = 0
  case neg => simp [h0, ppend]
  by_cases h1 : getE s (getTo s a) = 0
  case neg => simp [h1, ppend, h0]
  simp [ppend, p7, ppjoinP, updR, Pk.mk', h0, h1]
theorem ppend_ok (s : ByteArray) (k a : Int) : ppend s k (ppU k) (stP s (ppU k) a 7) = (rdL s a (Pk.sh k)).map fun x => (Pk.mk' (.n k :: x.1), x.2) := by
  by_cases h0 : k = 0
  · subst h0; exact ppend_0 s a
  by_cases h1 : k = 1
  · subst h1; exact ppend_1 s a
  by_cases h2 : k = 2
  · subst h2; exact ppend_2 s a
  by_cases h3 : k = 3
  · subst h3; exact ppend_3 s a
  by_cases h4 : k = 4
  · subst h4; exact ppend_4 s a
  rw [show ppU k = 0 by unfold ppU; rw [if_neg h0, if_neg h1, if_neg h2, if_neg h3, if_neg h4], stP_zero s a 7 (fun j hj => by match j, hj with | 0, _ | 1, _ | 2, _ | 3, _ | 4, _ | 5, _ | 6, _ => show (_ : Bool) = _; kernel_rfl) 7 (Nat.le_refl _)]
  rw [show Pk.sh k = [] by unfold Pk.sh; rw [if_neg h0, if_neg h1, if_neg h2, if_neg h3, if_neg h4]]
  have p7 : pT 0 7 = false := by kernel_rfl
  simp [ppend, p7, ppjoinP, rdL, Pk.mk']
theorem pprd_ok (s : ByteArray) : Pk.get s = match pprd s with
    | some (p, b) => if b = s.size ∧ p.may = true then some p else none
    | none => none := by
  unfold Pk.get getK rdK pprd
  by_cases h : getE s 0 = 0
  · rw [if_pos h, if_pos h, ppend_ok]
    cases rdL s (getTo s 0) (Pk.sh (getX s 0)) with
    | none => rfl
    | some y => rfl
  · rw [if_neg h, if_neg h]
end Go.Proofs.YthbnkejjipiaaaaDoor
