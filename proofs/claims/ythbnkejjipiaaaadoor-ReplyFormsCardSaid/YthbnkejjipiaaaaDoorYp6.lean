/- reply's reader in plain words: what it reads place by place, and that it is what the codec reads. No program is named. -/
import Derived.Test.YthbnkejjipiaaaaDoorYp3
namespace Go.Proofs.YthbnkejjipiaaaaDoor
open Go Go.RowKit

def ypjoinP (k : Int) (r : Nat → Int) (d : ByteArray) : Ry := Ry.mk k (r 0) (r 1) (r 2) (r 3) (r 4) (r 5) (r 6) d
def ypend (s : ByteArray) (k : Int) (U : Nat) : Option ((Nat → Int) × Int) → Option (Ry × Int)
  | none => none
  | some (r, a) => if pT U 7 then (if txtE s a = 0 then some (ypjoinP k r (txtS s a), txtTo s a) else none) else some (ypjoinP k r ⟨#[]⟩, a)
def yprd (s : ByteArray) : Option (Ry × Int) := if getE s 0 = 0 then ypend s (getX s 0) (ypU (getX s 0)) (stP s (ypU (getX s 0)) (getTo s 0) 7) else none
theorem ypend_0 (s : ByteArray) (a : Int) : ypend s 0 3 (stP s 3 a 7) = (rdL s a [false, false]).map fun x => (Ry.mk' (.n 0 :: x.1), x.2) := by
  have p0 : pT 3 ((0 : Nat) : Int) = true := by kernel_rfl
  have p1 : pT 3 ((1 : Nat) : Int) = true := by kernel_rfl
  have p2 : pT 3 ((2 : Nat) : Int) = false := by kernel_rfl
  have p3 : pT 3 ((3 : Nat) : Int) = false := by kernel_rfl
  have p4 : pT 3 ((4 : Nat) : Int) = false := by kernel_rfl
  have p5 : pT 3 ((5 : Nat) : Int) = false := by kernel_rfl
  have p6 : pT 3 ((6 : Nat) : Int) = false := by kernel_rfl
  have p7 : pT 3 7 = false := by kernel_rfl
  simp only [stP, p0, p1, p2, p3, p4, p5, p6, rdL, if_true, Bool.false_eq_true, if_false]
  by_cases h0 : getE s a = 0
  case neg => simp [h0, ypend]
  by_cases h1 : getE s (getTo s a) = 0
  case neg => simp [h1, ypend, h0]
  simp [ypend, p7, ypjoinP, updR, Ry.mk', h0, h1]
theorem ypend_1 (s : ByteArray) (a : Int) : ypend s 1 28 (stP s 28 a 7) = (rdL s a [false, false, false]).map fun x => (Ry.mk' (.n 1 :: x.1), x.2) := by
  have p0 : pT 28 ((0 : Nat) : Int) = false := by kernel_rfl
  have p1 : pT 28 ((1 : Nat) : Int) = false := by kernel_rfl
  have p2 : pT 28 ((2 : Nat) : Int) = true := by kernel_rfl
  have p3 : pT 28 ((3 : Nat) : Int) = true := by kernel_rfl
  have p4 : pT 28 ((4 : Nat) : Int) = true := by kernel_rfl
  have p5 : pT 28 ((5 : Nat) : Int) = false := by kernel_rfl
  have p6 : pT 28 ((6 : Nat) : Int) = false := by kernel_rfl
  have p7 : pT 28 7 = false := by kernel_rfl
  simp only [stP, p0, p1, p2, p3, p4, p5, p6, rdL, if_true, Bool.false_eq_true, if_false]
  by_cases h0 : getE s a = 0
  case neg => simp [h0, ypend]
  by_cases h1 : getE s (getTo s a) = 0
  case neg => simp [h1, ypend, h0]
  by_cases h2 : getE s (getTo s (getTo s a)) = 0
  case neg => simp [h2, ypend, h0, h1]
  simp [ypend, p7, ypjoinP, updR, Ry.mk', h0, h1, h2]
theorem ypend_2 (s : ByteArray) (a : Int) : ypend s 2 164 (stP s 164 a 7) = (rdL s a [false, false, true]).map fun x => (Ry.mk' (.n 2 :: x.1), x.2) := by
  have p0 : pT 164 ((0 : Nat) : Int) = false := by kernel_rfl
  have p1 : pT 164 ((1 : Nat) : Int) = false := by kernel_rfl
  have p2 : pT 164 ((2 : Nat) : Int) = true := by kernel_rfl
  have p3 : pT 164 ((3 : Nat) : Int) = false := by kernel_rfl
  have p4 : pT 164 ((4 : Nat) : Int) = false := by kernel_rfl
  have p5 : pT 164 ((5 : Nat) : Int) = true := by kernel_rfl
  have p6 : pT 164 ((6 : Nat) : Int) = false := by kernel_rfl
  have p7 : pT 164 7 = true := by kernel_rfl
  simp only [stP, p0, p1, p2, p3, p4, p5, p6, rdL, if_true, Bool.false_eq_true, if_false]
  by_cases h0 : getE s a = 0
  case neg => simp [h0, ypend]
  by_cases h1 : getE s (getTo s a) = 0
  case neg => simp [h1, ypend, h0]
  by_cases ht : txtE s (getTo s (getTo s a)) = 0
  case neg => simp [ht, ypend, p7, h0, h1]
  simp [ypend, p7, ypjoinP, updR, Ry.mk', h0, h1, ht]
theorem ypend_3 (s : ByteArray) (a : Int) : ypend s 3 64 (stP s 64 a 7) = (rdL s a [false]).map fun x => (Ry.mk' (.n 3 :: x.1), x.2) := by
  have p0 : pT 64 ((0 : Nat) : Int) = false := by kernel_rfl
  have p1 : pT 64 ((1 : Nat) : Int) = false := by kernel_rfl
  have p2 : pT 64 ((2 : Nat) : Int) = false := by kernel_rfl
  have p3 : pT 64 ((3 : Nat) : Int) = false := by kernel_rfl
  have p4 : pT 64 ((4 : Nat) : Int) = false := by kernel_rfl
  have p5 : pT 64 ((5 : Nat) : Int) = false := by kernel_rfl
  have p6 : pT 64 ((6 : Nat) : Int) = true := by kernel_rfl
  have p7 : pT 64 7 = false := by kernel_rfl
  simp only [stP, p0, p1, p2, p3, p4, p5, p6, rdL, if_true, Bool.false_eq_true, if_false]
  by_cases h0 : getE s a = 0
  case neg => simp [h0, ypend]
  simp [ypend, p7, ypjoinP, updR, Ry.mk', h0]
theorem ypend_4 (s : ByteArray) (a : Int) : ypend s 4 68 (stP s 68 a 7) = (rdL s a [false, false]).map fun x => (Ry.mk' (.n 4 :: x.1), x.2) := by
  have p0 : pT 68 ((0 : Nat) : Int) = false := by kernel_rfl
  have p1 : pT 68 ((1 : Nat) : Int) = false := by kernel_rfl
  have p2 : pT 68 ((2 : Nat) : Int) = true := by kernel_rfl
  have p3 : pT 68 ((3 : Nat) : Int) = false := by kernel_rfl
  have p4 : pT 68 ((4 : Nat) : Int) = false := by kernel_rfl
  have p5 : pT 68 ((5 : Nat) : Int) = false := by kernel_rfl
  have p6 : pT 68 ((6 : Nat) : Int) = true := by kernel_rfl
  have p7 : pT 68 7 = false := by kernel_rfl
  simp only [stP, p0, p1, p2, p3, p4, p5, p6, rdL, if_true, Bool.false_eq_true, if_false]
  by_cases h0 : getE s a = 0
  case neg => simp [h0, ypend]
  by_cases h1 : getE s (getTo s a) = 0
  case neg => simp [h1, ypend, h0]
  simp [ypend, p7, ypjoinP, updR, Ry.mk', h0, h1]
theorem ypend_5 (s : ByteArray) (a : Int) : ypend s 5 0 (stP s 0 a 7) = (rdL s a []).map fun x => (Ry.mk' (.n 5 :: x.1), x.2) := by
  have p0 : pT 0 ((0 : Nat) : Int) = false := by kernel_rfl
  have p1 : pT 0 ((1 : Nat) : Int) = false := by kernel_rfl
  have p2 : pT 0 ((2 : Nat) : Int) = false := by kernel_rfl
  have p3 : pT 0 ((3 : Nat) : Int) = false := by kernel_rfl
  have p4 : pT 0 ((4 : Nat) : Int) = false := by kernel_rfl
  have p5 : pT 0 ((5 : Nat) : Int) = false := by kernel_rfl
  have p6 : pT 0 ((6 : Nat) : Int) = false := by kernel_rfl
  have p7 : pT 0 7 = false := by kernel_rfl
  simp only [stP, p0, p1, p2, p3, p4, p5, p6, rdL, Bool.false_eq_true, if_false]
  simp [ypend, p7, ypjoinP, Ry.mk']
theorem ypend_ok (s : ByteArray) (k a : Int) : ypend s k (ypU k) (stP s (ypU k) a 7) = (rdL s a (Ry.sh k)).map fun x => (Ry.mk' (.n k :: x.1), x.2) := by
  by_cases h0 : k = 0
  · subst h0; exact ypend_0 s a
  by_cases h1 : k = 1
  · subst h1; exact ypend_1 s a
  by_cases h2 : k = 2
  · subst h2; exact ypend_2 s a
  by_cases h3 : k = 3
  · subst h3; exact ypend_3 s a
  by_cases h4 : k = 4
  · subst h4; exact ypend_4 s a
  by_cases h5 : k = 5
  · subst h5; exact ypend_5 s a
  rw [show ypU k = 0 by unfold ypU; rw [if_neg h0, if_neg h1, if_neg h2, if_neg h3, if_neg h4, if_neg h5], stP_zero s a 7 (fun j hj => by match j, hj with | 0, _ | 1, _ | 2, _ | 3, _ | 4, _ | 5, _ | 6, _ => show (_ : Bool) = _; kernel_rfl) 7 (Nat.le_refl _)]
  rw [show Ry.sh k = [] by unfold Ry.sh; rw [if_neg h0, if_neg h1, if_neg h2, if_neg h3, if_neg h4, if_neg h5]]
  have p7 : pT 0 7 = false := by kernel_rfl
  simp [ypend, p7, ypjoinP, rdL, Ry.mk']
theorem yprd_ok (s : ByteArray) : Ry.get s = match yprd s with
    | some (p, b) => if b = s.size ∧ p.may = true then some p else none
    | none => none := by
  unfold Ry.get getK rdK yprd
  by_cases h : getE s 0 = 0
  · rw [if_pos h, if_pos h, ypend_ok]
    cases rdL s (getTo s 0) (Ry.sh (getX s 0)) with
    | none => rfl
    | some y => rfl
  · rw [if_neg h, if_neg h]
end Go.Proofs.YthbnkejjipiaaaaDoor
