/- Plain mathematics of numbers and texts as bytes: no program is named. -/
import Derived.Lib.BitFns
import Derived.Lib.Strings
namespace Go.Proofs.Ytjkcimeeagmmeaa

theorem bitLenAux_le (f k x : Nat) (h : x < 2 ^ f) : Lib.bitLenAux f x ≤ k ↔ x < 2 ^ k := by
  induction f generalizing k x with
  | zero =>
    have hx : x = 0 := by simpa using h
    subst hx
    simp [Lib.bitLenAux, Nat.two_pow_pos]
  | succ f ih =>
    unfold Lib.bitLenAux
    by_cases hx : x = 0
    · subst hx; simp [Nat.two_pow_pos]
    · rw [if_neg hx]
      have h2 : x / 2 < 2 ^ f := by rw [Nat.pow_succ] at h; omega
      cases k with
      | zero => simp; omega
      | succ k =>
        have := ih k (x / 2) h2
        rw [Nat.pow_succ]
        omega
theorem bitLen_le (k x : Nat) (h : x < 2 ^ 64) : Lib.bitLen x ≤ k ↔ x < 2 ^ k := bitLenAux_le 64 k x h

/-- A number's bytes, the first one with them, as numbers. -/
def numL (x : Int) : List Int :=
  if x = 0 then [0] else if x < 256 then [1, x] else if x < 65536 then [2, x / 256, x % 256] else
  if x < 16777216 then [3, x / 65536, x / 256 % 256, x % 256] else [4, x / 16777216, x / 65536 % 256, x / 256 % 256, x % 256]
def bytesOf (l : List Int) : List UInt8 := l.map fun n => UInt8.ofNat n.toNat
def numB (x : Int) : ByteArray := ⟨(bytesOf (numL x)).toArray⟩
def okNum (x : Int) : Bool := decide (0 ≤ x) && decide (x ≤ 1073741823)
/-- What Num answers. -/
def numS (x : Int) : ByteArray := if okNum x then numB x else ⟨#[]⟩
def numE (x : Int) : Int := if okNum x then 0 else 100
theorem okNum_iff (x : Int) : okNum x = true ↔ 0 ≤ x ∧ x ≤ 1073741823 := by simp [okNum]
theorem numS_ok {x : Int} (h0 : 0 ≤ x) (h1 : x ≤ 1073741823) : numS x = numB x := by rw [numS, if_pos ((okNum_iff x).2 ⟨h0, h1⟩)]
theorem numE_ok {x : Int} (h0 : 0 ≤ x) (h1 : x ≤ 1073741823) : numE x = 0 := by rw [numE, if_pos ((okNum_iff x).2 ⟨h0, h1⟩)]
theorem numS_bad {x : Int} (h : x < 0 ∨ 1073741823 < x) : numS x = ⟨#[]⟩ := by rw [numS, if_neg (by rw [okNum_iff]; omega)]
theorem numE_bad {x : Int} (h : x < 0 ∨ 1073741823 < x) : numE x = 100 := by rw [numE, if_neg (by rw [okNum_iff]; omega)]

theorem bitLen_cases (x : Int) (h0 : 0 ≤ x) (h1 : x ≤ 1073741823) : (Lib.bitLen x.toNat : Int) ≤ 30 ∧
    (x = 0 → ((Lib.bitLen x.toNat : Int) + 7) / 8 = 0) ∧ (0 < x → x < 256 → ((Lib.bitLen x.toNat : Int) + 7) / 8 = 1) ∧ (256 ≤ x → x < 65536 → ((Lib.bitLen x.toNat : Int) + 7) / 8 = 2) ∧
    (65536 ≤ x → x < 16777216 → ((Lib.bitLen x.toNat : Int) + 7) / 8 = 3) ∧ (16777216 ≤ x → ((Lib.bitLen x.toNat : Int) + 7) / 8 = 4) := by
  have e0 := bitLen_le 0 x.toNat (by omega)
  have e8 := bitLen_le 8 x.toNat (by omega)
  have e16 := bitLen_le 16 x.toNat (by omega)
  have e24 := bitLen_le 24 x.toNat (by omega)
  have e30 := bitLen_le 30 x.toNat (by omega)
  simp at e0 e8 e16 e24 e30
  refine ⟨by omega, ?_, ?_, ?_, ?_, ?_⟩ <;> intros <;> omega

theorem numL_len (x : Int) : 1 ≤ (numL x).length ∧ (numL x).length ≤ 5 := by unfold numL; (repeat' split) <;> simp
theorem numB_data (x : Int) : (numB x).data.toList = bytesOf (numL x) := rfl
theorem numB_toList (x : Int) : (numB x).toList = bytesOf (numL x) := by rw [numB, ByteArray.toList_mk]
end Go.Proofs.Ytjkcimeeagmmeaa
