/- Plain mathematics of packet's reader: what it reads place by place, and that it is what the reference reads. -/
import Derived.Test.YtheeblhlhdeghaaDoorPpput
namespace Go.Proofs.YtheeblhlhdeghaaDoor
open Go Go.RowKit

def updR (r : Nat → Int) (j : Nat) (v : Int) : Nat → Int := fun i => if i = j then v else r i
/-- What has been read behind j places, and where the next begins. -/
def stP (s : ByteArray) (U : Nat) (a0 : Int) : Nat → Option ((Nat → Int) × Int)
  | 0 => some (fun _ => 0, a0)
  | j + 1 => match stP s U a0 j with
    | none => none
    | some (r, a) => if pT U (j : Nat) then (if getE s a = 0 then some (updR r j (getX s a), getTo s a) else none) else some (r, a)
def joinP (k : Int) (r : Nat → Int) (d : ByteArray) : Pk := ⟨k, r 0, r 5, r 1, r 4, r 6, r 2, r 3, d⟩
def endP (s : ByteArray) (k : Int) (U : Nat) : Option ((Nat → Int) × Int) → Option (Pk × Int)
  | none => none
  | some (r, a) => if pT U 7 then (if txtE s a = 0 then some (joinP k r (txtS s a), txtTo s a) else none) else some (joinP k r ⟨#[]⟩, a)
def rdP (s : ByteArray) : Option (Pk × Int) := if getE s 0 = 0 then endP s (getX s 0) (pU (getX s 0)) (stP s (pU (getX s 0)) (getTo s 0) 7) else none
theorem stP_none {s : ByteArray} {U : Nat} {a0 : Int} {j : Nat} (h : stP s U a0 j = none) (m : Nat) : stP s U a0 (j + m) = none := by
  induction m with
  | zero => exact h
  | succ m ih => rw [← Nat.add_assoc, stP, ih]
theorem stP_go {s : ByteArray} {U : Nat} {a0 : Int} {j : Nat} {r : Nat → Int} {a : Int} (h : stP s U a0 j = some (r, a)) : (pT U (j : Nat) = false → stP s U a0 (j + 1) = some (r, a)) ∧ (pT U (j : Nat) = true → getE s a = 0 → stP s U a0 (j + 1) = some (updR r j (getX s a), getTo s a)) ∧ (pT U (j : Nat) = true → getE s a ≠ 0 → j < 7 → stP s U a0 7 = none) := by
  refine ⟨fun h1 => ?_, fun h1 h2 => ?_, fun h1 h2 h3 => ?_⟩
  · rw [stP, h]; simp only [h1]; rfl
  · rw [stP, h]; simp only [h1, if_pos h2, if_true]
  · have : stP s U a0 (j + 1) = none := by rw [stP, h]; simp only [h1, if_neg h2, if_true]
    have := stP_none this (6 - j)
    rwa [show j + 1 + (6 - j) = 7 by omega] at this
theorem stP_bd {s : ByteArray} {U : Nat} {a0 : Int} (h0 : 0 ≤ a0) (h1 : a0 ≤ s.size) (j : Nat) : ∀ r a, stP s U a0 j = some (r, a) → 0 ≤ a ∧ a ≤ s.size := by
  induction j with
  | zero => intro r a h; rw [stP] at h; obtain ⟨_, rfl⟩ := Prod.mk.inj (Option.some.inj h); exact ⟨h0, h1⟩
  | succ j ih =>
    intro r a h
    rw [stP] at h
    cases hs : stP s U a0 j with
    | none => rw [hs] at h; cases h
    | some y =>
      obtain ⟨r', a'⟩ := y
      rw [hs] at h
      simp only at h
      split at h
      · split at h
        · rename_i hE
          obtain ⟨_, rfl⟩ := Prod.mk.inj (Option.some.inj h)
          obtain ⟨_, _, b2, b3, b4⟩ := get_bd hE
          omega
        · cases h
      · obtain ⟨_, rfl⟩ := Prod.mk.inj (Option.some.inj h)
        exact ih r' _ hs
theorem stP_of {s : ByteArray} {U : Nat} {a0 : Int} {j : Nat} (r : Nat → Int) (a : Int) {b : Bool} (h : stP s U a0 j = some (r, a)) (hb : pT U (j : Nat) = b) : stP s U a0 (j + 1) = if b then (if getE s a = 0 then some (updR r j (getX s a), getTo s a) else none) else some (r, a) := by
  rw [stP, h]; simp only [hb]
theorem endP_0 (s : ByteArray) (a : Int) : endP s 0 33 (stP s 33 a 7) = (rdL s a [false, false]).map fun x => (Pk.mk' (.n 0 :: x.1), x.2) := by
  have p0 : pT 33 ((0 : Nat) : Int) = true := by kernel_rfl
  have p1 : pT 33 ((1 : Nat) : Int) = false := by kernel_rfl
  have p2 : pT 33 ((2 : Nat) : Int) = false := by kernel_rfl
  have p3 : pT 33 ((3 : Nat) : Int) = false := by kernel_rfl
  have p4 : pT 33 ((4 : Nat) : Int) = false := by kernel_rfl
  have p5 : pT 33 ((5 : Nat) : Int) = true := by kernel_rfl
  have p6 : pT 33 ((6 : Nat) : Int) = false := by kernel_rfl
  have p7 : pT 33 7 = false := by kernel_rfl
  simp only [stP, p0, p1, p2, p3, p4, p5, p6, rdL, if_true, Bool.false_eq_true, if_false]
  by_cases h0 : getE s a = 0
  case neg => simp [h0, endP]
  by_cases h1 : getE s (getTo s a) = 0
  case neg => simp [h1, endP, h0]
  simp [endP, p7, joinP, updR, Pk.mk', h0, h1]
theorem endP_1 (s : ByteArray) (a : Int) : endP s 1 82 (stP s 82 a 7) = (rdL s a [false, false, false]).map fun x => (Pk.mk' (.n 1 :: x.1), x.2) := by
  have p0 : pT 82 ((0 : Nat) : Int) = false := by kernel_rfl
  have p1 : pT 82 ((1 : Nat) : Int) = true := by kernel_rfl
  have p2 : pT 82 ((2 : Nat) : Int) = false := by kernel_rfl
  have p3 : pT 82 ((3 : Nat) : Int) = false := by kernel_rfl
  have p4 : pT 82 ((4 : Nat) : Int) = true := by kernel_rfl
  have p5 : pT 82 ((5 : Nat) : Int) = false := by kernel_rfl
  have p6 : pT 82 ((6 : Nat) : Int) = true := by kernel_rfl
  have p7 : pT 82 7 = false := by kernel_rfl
  simp only [stP, p0, p1, p2, p3, p4, p5, p6, rdL, if_true, Bool.false_eq_true, if_false]
  by_cases h0 : getE s a = 0
  case neg => simp [h0, endP]
  by_cases h1 : getE s (getTo s a) = 0
  case neg => simp [h1, endP, h0]
  by_cases h2 : getE s (getTo s (getTo s a)) = 0
  case neg => simp [h2, endP, h0, h1]
  simp [endP, p7, joinP, updR, Pk.mk', h0, h1, h2]
theorem endP_2 (s : ByteArray) (a : Int) : endP s 2 112 (stP s 112 a 7) = (rdL s a [false, false, false]).map fun x => (Pk.mk' (.n 2 :: x.1), x.2) := by
  have p0 : pT 112 ((0 : Nat) : Int) = false := by kernel_rfl
  have p1 : pT 112 ((1 : Nat) : Int) = false := by kernel_rfl
  have p2 : pT 112 ((2 : Nat) : Int) = false := by kernel_rfl
  have p3 : pT 112 ((3 : Nat) : Int) = false := by kernel_rfl
  have p4 : pT 112 ((4 : Nat) : Int) = true := by kernel_rfl
  have p5 : pT 112 ((5 : Nat) : Int) = true := by kernel_rfl
  have p6 : pT 112 ((6 : Nat) : Int) = true := by kernel_rfl
  have p7 : pT 112 7 = false := by kernel_rfl
  simp only [stP, p0, p1, p2, p3, p4, p5, p6, rdL, if_true, Bool.false_eq_true, if_false]
  by_cases h0 : getE s a = 0
  case neg => simp [h0, endP]
  by_cases h1 : getE s (getTo s a) = 0
  case neg => simp [h1, endP, h0]
  by_cases h2 : getE s (getTo s (getTo s a)) = 0
  case neg => simp [h2, endP, h0, h1]
  simp [endP, p7, joinP, updR, Pk.mk', h0, h1, h2]
theorem endP_3 (s : ByteArray) (a : Int) : endP s 3 156 (stP s 156 a 7) = (rdL s a [false, false, false, true]).map fun x => (Pk.mk' (.n 3 :: x.1), x.2) := by
  have p0 : pT 156 ((0 : Nat) : Int) = false := by kernel_rfl
  have p1 : pT 156 ((1 : Nat) : Int) = false := by kernel_rfl
  have p2 : pT 156 ((2 : Nat) : Int) = true := by kernel_rfl
  have p3 : pT 156 ((3 : Nat) : Int) = true := by kernel_rfl
  have p4 : pT 156 ((4 : Nat) : Int) = true := by kernel_rfl
  have p5 : pT 156 ((5 : Nat) : Int) = false := by kernel_rfl
  have p6 : pT 156 ((6 : Nat) : Int) = false := by kernel_rfl
  have p7 : pT 156 7 = true := by kernel_rfl
  simp only [stP, p0, p1, p2, p3, p4, p5, p6, rdL, if_true, Bool.false_eq_true, if_false]
  by_cases h0 : getE s a = 0
  case neg => simp [h0, endP]
  by_cases h1 : getE s (getTo s a) = 0
  case neg => simp [h1, endP, h0]
  by_cases h2 : getE s (getTo s (getTo s a)) = 0
  case neg => simp [h2, endP, h0, h1]
  by_cases ht : txtE s (getTo s (getTo s (getTo s a))) = 0
  case neg => simp [ht, endP, p7, h0, h1, h2]
  simp [endP, p7, joinP, updR, Pk.mk', ht, h0, h1, h2]
theorem endP_4 (s : ByteArray) (a : Int) : endP s 4 20 (stP s 20 a 7) = (rdL s a [false, false]).map fun x => (Pk.mk' (.n 4 :: x.1), x.2) := by
  have p0 : pT 20 ((0 : Nat) : Int) = false := by kernel_rfl
  have p1 : pT 20 ((1 : Nat) : Int) = false := by kernel_rfl
  have p2 : pT 20 ((2 : Nat) : Int) = true := by kernel_rfl
  have p3 : pT 20 ((3 : Nat) : Int) = false := by kernel_rfl
  have p4 : pT 20 ((4 : Nat) : Int) = true := by kernel_rfl
  have p5 : pT 20 ((5 : Nat) : Int) = false := by kernel_rfl
  have p6 : pT 20 ((6 : Nat) : Int) = false := by kernel_rfl
  have p7 : pT 20 7 = false := by kernel_rfl
  simp only [stP, p0, p1, p2, p3, p4, p5, p6, rdL, if_true, Bool.false_eq_true, if_false]
  by_cases h0 : getE s a = 0
  case neg => simp [h0, endP]
  by_cases h1 : getE s (getTo s a) = 0
  case neg => simp [h1, endP, h0]
  simp [endP, p7, joinP, updR, Pk.mk', h0, h1]
theorem stP_zero (s : ByteArray) (a : Int) (j : Nat) (hj : j ≤ 7) : stP s 0 a j = some (fun _ => 0, a) := by
  induction j with
  | zero => rfl
  | succ j ih =>
    rw [stP, ih (by omega)]
    have : pT 0 (j : Nat) = false := by
      match j, hj with
      | 0, _ | 1, _ | 2, _ | 3, _ | 4, _ | 5, _ | 6, _ => show (_ : Bool) = _; kernel_rfl
    simp only [this]; rfl
theorem endP_ok (s : ByteArray) (k a : Int) : endP s k (pU k) (stP s (pU k) a 7) = (rdL s a (Pk.sh k)).map fun x => (Pk.mk' (.n k :: x.1), x.2) := by
  by_cases h0 : k = 0
  · subst h0; exact endP_0 s a
  by_cases h1 : k = 1
  · subst h1; exact endP_1 s a
  by_cases h2 : k = 2
  · subst h2; exact endP_2 s a
  by_cases h3 : k = 3
  · subst h3; exact endP_3 s a
  by_cases h4 : k = 4
  · subst h4; exact endP_4 s a
  rw [show pU k = 0 by unfold pU; rw [if_neg h0, if_neg h1, if_neg h2, if_neg h3, if_neg h4], stP_zero s a 7 (by omega)]
  rw [show Pk.sh k = [] by unfold Pk.sh; rw [if_neg h0, if_neg h1, if_neg h2, if_neg h3, if_neg h4]]
  have p7 : pT 0 7 = false := by kernel_rfl
  simp [endP, p7, joinP, rdL, Pk.mk']
theorem rdP_ok (s : ByteArray) : Pk.get s = match rdP s with
    | some (p, b) => if b = s.size ∧ p.may = true then some p else none
    | none => none := by
  unfold Pk.get getK rdK rdP
  by_cases h : getE s 0 = 0
  · rw [if_pos h, if_pos h, endP_ok]
    cases rdL s (getTo s 0) (Pk.sh (getX s 0)) with
    | none => rfl
    | some y => rfl
  · rw [if_neg h, if_neg h]
end Go.Proofs.YtheeblhlhdeghaaDoor
