/- event's reader in plain words: what it reads place by place, and that it is what the codec reads. No program is named. -/
import Derived.Test.YtodngcpphnmphaaDoorEp3
namespace Go.Proofs.YtodngcpphnmphaaDoor
open Go Go.RowKit

def epjoinP (k : Int) (r : Nat → Int) : Ev := Ev.mk k (r 1) (r 0) (r 2) (r 3) (r 4) (r 5) (r 6)
def epend (k : Int) : Option ((Nat → Int) × Int) → Option (Ev × Int)
  | none => none
  | some (r, a) => some (epjoinP k r, a)
def eprd (s : ByteArray) : Option (Ev × Int) := if getE s 0 = 0 then epend (getX s 0) (stP s (epU (getX s 0)) (getTo s 0) 7) else none
theorem epend_0 (s : ByteArray) (a : Int) : epend 0 (stP s 64 a 7) = (rdL s a [false]).map fun x => (Ev.mk' (.n 0 :: x.1), x.2) := by
  have p0 : pT 64 ((0 : Nat) : Int) = false := by kernel_rfl
  have p1 : pT 64 ((1 : Nat) : Int) = false := by kernel_rfl
  have p2 : pT 64 ((2 : Nat) : Int) = false := by kernel_rfl
  have p3 : pT 64 ((3 : Nat) : Int) = false := by kernel_rfl
  have p4 : pT 64 ((4 : Nat) : Int) = false := by kernel_rfl
  have p5 : pT 64 ((5 : Nat) : Int) = false := by kernel_rfl
  have p6 : pT 64 ((6 : Nat) : Int) = true := by kernel_rfl
  simp only [stP, p0, p1, p2, p3, p4, p5, p6, rdL, if_true, Bool.false_eq_true, if_false]
  by_cases h0 : getE s a = 0
  case neg => simp [h0, epend]
  simp [epend, epjoinP, updR, Ev.mk', h0]
theorem epend_1 (s : ByteArray) (a : Int) : epend 1 (stP s 58 a 7) = (rdL s a [false, false, false, false]).map fun x => (Ev.mk' (.n 1 :: x.1), x.2) := by
  have p0 : pT 58 ((0 : Nat) : Int) = false := by kernel_rfl
  have p1 : pT 58 ((1 : Nat) : Int) = true := by kernel_rfl
  have p2 : pT 58 ((2 : Nat) : Int) = false := by kernel_rfl
  have p3 : pT 58 ((3 : Nat) : Int) = true := by kernel_rfl
  have p4 : pT 58 ((4 : Nat) : Int) = true := by kernel_rfl
  have p5 : pT 58 ((5 : Nat) : Int) = true := by kernel_rfl
  have p6 : pT 58 ((6 : Nat) : Int) = false := by kernel_rfl
  simp only [stP, p0, p1, p2, p3, p4, p5, p6, rdL, if_true, Bool.false_eq_true, if_false]
  by_cases h0 : getE s a = 0
  case neg => simp [h0, epend]
  by_cases h1 : getE s (getTo s a) = 0
  case neg => simp [h1, epend, h0]
  by_cases h2 : getE s (getTo s (getTo s a)) = 0
  case neg => simp [h2, epend, h0, h1]
  by_cases h3 : getE s (getTo s (getTo s (getTo s a))) = 0
  case neg => simp [h3, epend, h0, h1, h2]
  simp [epend, epjoinP, updR, Ev.mk', h0, h1, h2, h3]
theorem epend_2 (s : ByteArray) (a : Int) : epend 2 (stP s 66 a 7) = (rdL s a [false, false]).map fun x => (Ev.mk' (.n 2 :: x.1), x.2) := by
  have p0 : pT 66 ((0 : Nat) : Int) = false := by kernel_rfl
  have p1 : pT 66 ((1 : Nat) : Int) = true := by kernel_rfl
  have p2 : pT 66 ((2 : Nat) : Int) = false := by kernel_rfl
  have p3 : pT 66 ((3 : Nat) : Int) = false := by kernel_rfl
  have p4 : pT 66 ((4 : Nat) : Int) = false := by kernel_rfl
  have p5 : pT 66 ((5 : Nat) : Int) = false := by kernel_rfl
  have p6 : pT 66 ((6 : Nat) : Int) = true := by kernel_rfl
  simp only [stP, p0, p1, p2, p3, p4, p5, p6, rdL, if_true, Bool.false_eq_true, if_false]
  by_cases h0 : getE s a = 0
  case neg => simp [h0, epend]
  by_cases h1 : getE s (getTo s a) = 0
  case neg => simp [h1, epend, h0]
  simp [epend, epjoinP, updR, Ev.mk', h0, h1]
theorem epend_3 (s : ByteArray) (a : Int) : epend 3 (stP s 10 a 7) = (rdL s a [false, false]).map fun x => (Ev.mk' (.n 3 :: x.1), x.2) := by
  have p0 : pT 10 ((0 : Nat) : Int) = false := by kernel_rfl
  have p1 : pT 10 ((1 : Nat) : Int) = true := by kernel_rfl
  have p2 : pT 10 ((2 : Nat) : Int) = false := by kernel_rfl
  have p3 : pT 10 ((3 : Nat) : Int) = true := by kernel_rfl
  have p4 : pT 10 ((4 : Nat) : Int) = false := by kernel_rfl
  have p5 : pT 10 ((5 : Nat) : Int) = false := by kernel_rfl
  have p6 : pT 10 ((6 : Nat) : Int) = false := by kernel_rfl
  simp only [stP, p0, p1, p2, p3, p4, p5, p6, rdL, if_true, Bool.false_eq_true, if_false]
  by_cases h0 : getE s a = 0
  case neg => simp [h0, epend]
  by_cases h1 : getE s (getTo s a) = 0
  case neg => simp [h1, epend, h0]
  simp [epend, epjoinP, updR, Ev.mk', h0, h1]
theorem epend_4 (s : ByteArray) (a : Int) : epend 4 (stP s 2 a 7) = (rdL s a [false]).map fun x => (Ev.mk' (.n 4 :: x.1), x.2) := by
  have p0 : pT 2 ((0 : Nat) : Int) = false := by kernel_rfl
  have p1 : pT 2 ((1 : Nat) : Int) = true := by kernel_rfl
  have p2 : pT 2 ((2 : Nat) : Int) = false := by kernel_rfl
  have p3 : pT 2 ((3 : Nat) : Int) = false := by kernel_rfl
  have p4 : pT 2 ((4 : Nat) : Int) = false := by kernel_rfl
  have p5 : pT 2 ((5 : Nat) : Int) = false := by kernel_rfl
  have p6 : pT 2 ((6 : Nat) : Int) = false := by kernel_rfl
  simp only [stP, p0, p1, p2, p3, p4, p5, p6, rdL, if_true, Bool.false_eq_true, if_false]
  by_cases h0 : getE s a = 0
  case neg => simp [h0, epend]
  simp [epend, epjoinP, updR, Ev.mk', h0]
theorem epend_5 (s : ByteArray) (a : Int) : epend 5 (stP s 71 a 7) = (rdL s a [false, false, false, false]).map fun x => (Ev.mk' (.n 5 :: x.1), x.2) := by
  have p0 : pT 71 ((0 : Nat) : Int) = true := by kernel_rfl
  have p1 : pT 71 ((1 : Nat) : Int) = true := by kernel_rfl
  have p2 : pT 71 ((2 : Nat) : Int) = true := by kernel_rfl
  have p3 : pT 71 ((3 : Nat) : Int) = false := by kernel_rfl
  have p4 : pT 71 ((4 : Nat) : Int) = false := by kernel_rfl
  have p5 : pT 71 ((5 : Nat) : Int) = false := by kernel_rfl
  have p6 : pT 71 ((6 : Nat) : Int) = true := by kernel_rfl
  simp only [stP, p0, p1, p2, p3, p4, p5, p6, rdL, if_true, Bool.false_eq_true, if_false]
  by_cases h0 : getE s a = 0
  case neg => simp [h0, epend]
  by_cases h1 : getE s (getTo s a) = 0
  case neg => simp [h1, epend, h0]
  by_cases h2 : getE s (getTo s (getTo s a)) = 0
  case neg => simp [h2, epend, h0, h1]
  by_cases h3 : getE s (getTo s (getTo s (getTo s a))) = 0
  case neg => simp [h3, epend, h0, h1, h2]
  simp [epend, epjoinP, updR, Ev.mk', h0, h1, h2, h3]
theorem epend_6 (s : ByteArray) (a : Int) : epend 6 (stP s 89 a 7) = (rdL s a [false, false, false, false]).map fun x => (Ev.mk' (.n 6 :: x.1), x.2) := by
  have p0 : pT 89 ((0 : Nat) : Int) = true := by kernel_rfl
  have p1 : pT 89 ((1 : Nat) : Int) = false := by kernel_rfl
  have p2 : pT 89 ((2 : Nat) : Int) = false := by kernel_rfl
  have p3 : pT 89 ((3 : Nat) : Int) = true := by kernel_rfl
  have p4 : pT 89 ((4 : Nat) : Int) = true := by kernel_rfl
  have p5 : pT 89 ((5 : Nat) : Int) = false := by kernel_rfl
  have p6 : pT 89 ((6 : Nat) : Int) = true := by kernel_rfl
  simp only [stP, p0, p1, p2, p3, p4, p5, p6, rdL, if_true, Bool.false_eq_true, if_false]
  by_cases h0 : getE s a = 0
  case neg => simp [h0, epend]
  by_cases h1 : getE s (getTo s a) = 0
  case neg => simp [h1, epend, h0]
  by_cases h2 : getE s (getTo s (getTo s a)) = 0
  case neg => simp [h2, epend, h0, h1]
  by_cases h3 : getE s (getTo s (getTo s (getTo s a))) = 0
  case neg => simp [h3, epend, h0, h1, h2]
  simp [epend, epjoinP, updR, Ev.mk', h0, h1, h2, h3]
theorem epend_7 (s : ByteArray) (a : Int) : epend 7 (stP s 2 a 7) = (rdL s a [false]).map fun x => (Ev.mk' (.n 7 :: x.1), x.2) := by
  have p0 : pT 2 ((0 : Nat) : Int) = false := by kernel_rfl
  have p1 : pT 2 ((1 : Nat) : Int) = true := by kernel_rfl
  have p2 : pT 2 ((2 : Nat) : Int) = false := by kernel_rfl
  have p3 : pT 2 ((3 : Nat) : Int) = false := by kernel_rfl
  have p4 : pT 2 ((4 : Nat) : Int) = false := by kernel_rfl
  have p5 : pT 2 ((5 : Nat) : Int) = false := by kernel_rfl
  have p6 : pT 2 ((6 : Nat) : Int) = false := by kernel_rfl
  simp only [stP, p0, p1, p2, p3, p4, p5, p6, rdL, if_true, Bool.false_eq_true, if_false]
  by_cases h0 : getE s a = 0
  case neg => simp [h0, epend]
  simp [epend, epjoinP, updR, Ev.mk', h0]
theorem epend_8 (s : ByteArray) (a : Int) : epend 8 (stP s 0 a 7) = (rdL s a []).map fun x => (Ev.mk' (.n 8 :: x.1), x.2) := by
  have p0 : pT 0 ((0 : Nat) : Int) = false := by kernel_rfl
  have p1 : pT 0 ((1 : Nat) : Int) = false := by kernel_rfl
  have p2 : pT 0 ((2 : Nat) : Int) = false := by kernel_rfl
  have p3 : pT 0 ((3 : Nat) : Int) = false := by kernel_rfl
  have p4 : pT 0 ((4 : Nat) : Int) = false := by kernel_rfl
  have p5 : pT 0 ((5 : Nat) : Int) = false := by kernel_rfl
  have p6 : pT 0 ((6 : Nat) : Int) = false := by kernel_rfl
  simp only [stP, p0, p1, p2, p3, p4, p5, p6, rdL, Bool.false_eq_true, if_false]
  simp [epend, epjoinP, Ev.mk']
theorem epend_9 (s : ByteArray) (a : Int) : epend 9 (stP s 1 a 7) = (rdL s a [false]).map fun x => (Ev.mk' (.n 9 :: x.1), x.2) := by
  have p0 : pT 1 ((0 : Nat) : Int) = true := by kernel_rfl
  have p1 : pT 1 ((1 : Nat) : Int) = false := by kernel_rfl
  have p2 : pT 1 ((2 : Nat) : Int) = false := by kernel_rfl
  have p3 : pT 1 ((3 : Nat) : Int) = false := by kernel_rfl
  have p4 : pT 1 ((4 : Nat) : Int) = false := by kernel_rfl
  have p5 : pT 1 ((5 : Nat) : Int) = false := by kernel_rfl
  have p6 : pT 1 ((6 : Nat) : Int) = false := by kernel_rfl
  simp only [stP, p0, p1, p2, p3, p4, p5, p6, rdL, if_true, Bool.false_eq_true, if_false]
  by_cases h0 : getE s a = 0
  case neg => simp [h0, epend]
  simp [epend, epjoinP, updR, Ev.mk', h0]
theorem epend_ok (s : ByteArray) (k a : Int) : epend k (stP s (epU k) a 7) = (rdL s a (Ev.sh k)).map fun x => (Ev.mk' (.n k :: x.1), x.2) := by
  by_cases h0 : k = 0
  · subst h0; exact epend_0 s a
  by_cases h1 : k = 1
  · subst h1; exact epend_1 s a
  by_cases h2 : k = 2
  · subst h2; exact epend_2 s a
  by_cases h3 : k = 3
  · subst h3; exact epend_3 s a
  by_cases h4 : k = 4
  · subst h4; exact epend_4 s a
  by_cases h5 : k = 5
  · subst h5; exact epend_5 s a
  by_cases h6 : k = 6
  · subst h6; exact epend_6 s a
  by_cases h7 : k = 7
  · subst h7; exact epend_7 s a
  by_cases h8 : k = 8
  · subst h8; exact epend_8 s a
  by_cases h9 : k = 9
  · subst h9; exact epend_9 s a
  rw [show epU k = 0 by unfold epU; rw [if_neg h0, if_neg h1, if_neg h2, if_neg h3, if_neg h4, if_neg h5, if_neg h6, if_neg h7, if_neg h8, if_neg h9], stP_zero s a 7 (fun j hj => by match j, hj with | 0, _ | 1, _ | 2, _ | 3, _ | 4, _ | 5, _ | 6, _ => show (_ : Bool) = _; kernel_rfl) 7 (Nat.le_refl _)]
  rw [show Ev.sh k = [] by unfold Ev.sh; rw [if_neg h0, if_neg h1, if_neg h2, if_neg h3, if_neg h4, if_neg h5, if_neg h6, if_neg h7, if_neg h8, if_neg h9]]
  simp [epend, epjoinP, rdL, Ev.mk']
theorem eprd_ok (s : ByteArray) : Ev.get s = match eprd s with
    | some (p, b) => if b = s.size ∧ p.may = true then some p else none
    | none => none := by
  unfold Ev.get getK rdK eprd
  by_cases h : getE s 0 = 0
  · rw [if_pos h, if_pos h, epend_ok]
    cases rdL s (getTo s 0) (Ev.sh (getX s 0)) with
    | none => rfl
    | some y => rfl
  · rw [if_neg h, if_neg h]
end Go.Proofs.YtodngcpphnmphaaDoor
