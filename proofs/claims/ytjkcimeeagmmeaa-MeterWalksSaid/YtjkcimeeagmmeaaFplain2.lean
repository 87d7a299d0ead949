/- Plain mathematics of reading numbers and texts: no program is named. -/
import Derived.Test.YtjkcimeeagmmeaaFplain
namespace Go.Proofs.Ytjkcimeeagmmeaa

/-- The value of bytes, the highest first. -/
def valL (l : List UInt8) : Int := l.foldl (fun a b => a * 256 + (b.toNat : Int)) 0
theorem valL_snoc (l : List UInt8) (c : UInt8) : valL (l ++ [c]) = valL l * 256 + c.toNat := by simp [valL, List.foldl_append]
theorem fold_bd (l : List UInt8) : ∀ a : Int, 0 ≤ a → 0 ≤ l.foldl (fun a b => a * 256 + (b.toNat : Int)) a ∧ l.foldl (fun a b => a * 256 + (b.toNat : Int)) a + 1 ≤ (a + 1) * 256 ^ l.length := by
  induction l with
  | nil => intro a h; simp; omega
  | cons c l ih =>
    intro a h
    have hc := c.toNat_lt
    obtain ⟨h0, h1⟩ := ih (a * 256 + (c.toNat : Int)) (by omega)
    refine ⟨h0, Int.le_trans h1 ?_⟩
    rw [List.length_cons, Int.pow_succ, Int.mul_comm (256 ^ l.length) 256, ← Int.mul_assoc]
    exact Int.mul_le_mul_of_nonneg_right (by omega) (Int.pow_nonneg (by omega))
theorem valL_bd (l : List UInt8) : 0 ≤ valL l ∧ valL l < 256 ^ l.length := by
  obtain ⟨h0, h1⟩ := fold_bd l 0 (Int.le_refl _)
  exact ⟨h0, by unfold valL; omega⟩
theorem valL_bd4 (l : List UInt8) (h : l.length ≤ 4) : 0 ≤ valL l ∧ valL l ≤ 4294967295 := by
  obtain ⟨h0, h1⟩ := valL_bd l
  refine ⟨h0, ?_⟩
  match hl : l.length, h with
  | 0, _ => rw [hl] at h1; simp at h1; omega
  | 1, _ => rw [hl] at h1; simp at h1; omega
  | 2, _ => rw [hl] at h1; simp at h1; omega
  | 3, _ => rw [hl] at h1; simp at h1; omega
  | 4, _ => rw [hl] at h1; simp at h1; omega

/-- The byte of s at k. -/
def gb (s : ByteArray) (k : Nat) : Nat := (s.data.toList.getD k 0).toNat
theorem gb_lt (s : ByteArray) (k : Nat) : gb s k ≤ 255 := by have := (s.data.toList.getD k 0).toNat_lt; unfold gb; omega
theorem gb_get (s : ByteArray) (k : Nat) (h : k < s.size) : (s[k]'h).toNat = gb s k := by
  unfold gb
  have h2 : k < s.data.toList.length := by rw [← Lib.size_eq]; exact h
  rw [List.getD_eq_getElem?_getD, List.getElem?_eq_getElem h2]
  rfl
/-- The bytes of s from a to b. -/
def piece (s : ByteArray) (a b : Nat) : List UInt8 := (s.data.toList.drop a).take (b - a)
theorem piece_len (s : ByteArray) (a b : Nat) (h : b ≤ s.size) : (piece s a b).length = b - a := by
  unfold piece; rw [List.length_take, List.length_drop, ← Lib.size_eq]; omega
theorem piece_snoc (s : ByteArray) (a b : Nat) (h0 : a ≤ b) (h1 : b < s.size) : piece s a (b + 1) = piece s a b ++ [s[b]'h1] := by
  unfold piece
  have h2 : b - a < (s.data.toList.drop a).length := by rw [List.length_drop, ← Lib.size_eq]; omega
  rw [show b + 1 - a = (b - a) + 1 by omega, List.take_succ_eq_append_getElem h2]
  congr 2
  rw [List.getElem_drop]
  have : a + (b - a) = b := by omega
  simp [this]
  rfl
theorem val_piece (s : ByteArray) (a b : Nat) (h0 : a ≤ b) (h1 : b < s.size) : valL (piece s a (b + 1)) = valL (piece s a b) * 256 + gb s b := by
  rw [piece_snoc s a b h0 h1, valL_snoc, gb_get]
theorem val_piece_self (s : ByteArray) (a : Nat) : valL (piece s a a) = 0 := by simp [piece, valL]
theorem extract_piece (s : ByteArray) (a b : Nat) : s.extract a b = ⟨(piece s a b).toArray⟩ := Lib.extract_eq s a b

/-- What reading a number at a place answers: its error. -/
def getE (s : ByteArray) (a : Int) : Int :=
  if a < 0 ∨ (s.size : Int) < a then 100 else if a = s.size then 101 else if 4 < gb s a.toNat then 100 else
  if s.size < a.toNat + 1 + gb s a.toNat then 101 else
  if (0 < gb s a.toNat ∧ gb s (a.toNat + 1) = 0) ∨ 1073741823 < valL (piece s (a.toNat + 1) (a.toNat + 1 + gb s a.toNat)) then 100 else 0
def getX (s : ByteArray) (a : Int) : Int := if getE s a = 0 then valL (piece s (a.toNat + 1) (a.toNat + 1 + gb s a.toNat)) else 0
def getTo (s : ByteArray) (a : Int) : Int := if getE s a = 0 then ((a.toNat + 1 + gb s a.toNat : Nat) : Int) else 0
theorem getE_neg {s : ByteArray} {a : Int} (h : a < 0) : getE s a = 100 := by unfold getE; rw [if_pos (.inl h)]
theorem getE_far {s : ByteArray} {a : Int} (h : (s.size : Int) < a) : getE s a = 100 := by unfold getE; rw [if_pos (.inr h)]
theorem getE_end {s : ByteArray} {a : Int} (h : a = s.size) : getE s a = 101 := by unfold getE; rw [if_neg (by omega), if_pos h]
theorem getE_big {s : ByteArray} {k : Nat} (h : k < s.size) (h4 : 4 < gb s k) : getE s k = 100 := by
  unfold getE; rw [if_neg (by omega), if_neg (by omega), Int.toNat_natCast, if_pos h4]
theorem getE_cut {s : ByteArray} {k : Nat} (h : k < s.size) (h4 : gb s k ≤ 4) (hc : s.size < k + 1 + gb s k) : getE s k = 101 := by
  unfold getE; rw [if_neg (by omega), if_neg (by omega), Int.toNat_natCast, if_neg (by omega), if_pos hc]
theorem getE_bad {s : ByteArray} {k : Nat} (h : k < s.size) (h4 : gb s k ≤ 4) (hc : k + 1 + gb s k ≤ s.size)
    (hb : (0 < gb s k ∧ gb s (k + 1) = 0) ∨ 1073741823 < valL (piece s (k + 1) (k + 1 + gb s k))) : getE s k = 100 := by
  unfold getE; rw [if_neg (by omega), if_neg (by omega), Int.toNat_natCast, if_neg (by omega), if_neg (by omega), if_pos hb]
theorem getE_ok {s : ByteArray} {k : Nat} (h : k < s.size) (h4 : gb s k ≤ 4) (hc : k + 1 + gb s k ≤ s.size)
    (hb : ¬ ((0 < gb s k ∧ gb s (k + 1) = 0) ∨ 1073741823 < valL (piece s (k + 1) (k + 1 + gb s k)))) : getE s k = 0 := by
  unfold getE; rw [if_neg (by omega), if_neg (by omega), Int.toNat_natCast, if_neg (by omega), if_neg (by omega), if_neg hb]
theorem getX_ne {s : ByteArray} {a : Int} (h : getE s a ≠ 0) : getX s a = 0 := by rw [getX, if_neg h]
theorem getTo_ne {s : ByteArray} {a : Int} (h : getE s a ≠ 0) : getTo s a = 0 := by rw [getTo, if_neg h]
theorem getX_ok {s : ByteArray} {k : Nat} (h : getE s k = 0) : getX s k = valL (piece s (k + 1) (k + 1 + gb s k)) := by rw [getX, if_pos h, Int.toNat_natCast]
theorem getTo_ok {s : ByteArray} {k : Nat} (h : getE s k = 0) : getTo s k = ((k + 1 + gb s k : Nat) : Int) := by rw [getTo, if_pos h, Int.toNat_natCast]
theorem get_ok {s : ByteArray} {a : Int} (h : getE s a = 0) : ∃ k : Nat, a = k ∧ k < s.size ∧ gb s k ≤ 4 ∧ k + 1 + gb s k ≤ s.size ∧ ¬ (0 < gb s k ∧ gb s (k + 1) = 0) ∧ valL (piece s (k + 1) (k + 1 + gb s k)) ≤ 1073741823 := by
  by_cases h0 : a < 0
  · rw [getE_neg h0] at h; omega
  by_cases h1 : (s.size : Int) < a
  · rw [getE_far h1] at h; omega
  by_cases h2 : a = s.size
  · rw [getE_end h2] at h; omega
  obtain ⟨k, rfl⟩ : ∃ k : Nat, a = k := ⟨a.toNat, by omega⟩
  have hk : k < s.size := by omega
  by_cases h4 : 4 < gb s k
  · rw [getE_big hk h4] at h; omega
  by_cases hc : s.size < k + 1 + gb s k
  · rw [getE_cut hk (by omega) hc] at h; omega
  by_cases hb : (0 < gb s k ∧ gb s (k + 1) = 0) ∨ 1073741823 < valL (piece s (k + 1) (k + 1 + gb s k))
  · rw [getE_bad hk (by omega) (by omega) hb] at h; omega
  · exact ⟨k, rfl, hk, by omega, by omega, fun e => hb (.inl e), by omega⟩
theorem get_bd {s : ByteArray} {a : Int} (h : getE s a = 0) : 0 ≤ getX s a ∧ getX s a ≤ 1073741823 ∧ 0 ≤ a ∧ a < getTo s a ∧ getTo s a ≤ s.size := by
  obtain ⟨k, rfl, hk, h4, hc, hz, hm⟩ := get_ok h
  rw [getX_ok h, getTo_ok h]
  have := valL_bd (piece s (k + 1) (k + 1 + gb s k))
  omega

/-- What Text answers. -/
def textS (s : ByteArray) : ByteArray := if s.size ≤ 65536 then numB s.size ++ s else ⟨#[]⟩
def textE (s : ByteArray) : Int := if s.size ≤ 65536 then 0 else 100
/-- What reading a text at a place answers. -/
def txtE (s : ByteArray) (a : Int) : Int :=
  if getE s a ≠ 0 then getE s a else if 65536 < getX s a then 100 else if (s.size : Int) - getTo s a < getX s a then 101 else 0
def txtS (s : ByteArray) (a : Int) : ByteArray := if txtE s a = 0 then s.extract (getTo s a).toNat (getTo s a + getX s a).toNat else ⟨#[]⟩
def txtTo (s : ByteArray) (a : Int) : Int := if txtE s a = 0 then getTo s a + getX s a else 0
theorem txtE_get {s : ByteArray} {a : Int} (h : getE s a ≠ 0) : txtE s a = getE s a := by unfold txtE; rw [if_pos h]
theorem txtE_big {s : ByteArray} {a : Int} (h : getE s a = 0) (h1 : 65536 < getX s a) : txtE s a = 100 := by unfold txtE; rw [if_neg (by omega), if_pos h1]
theorem txtE_cut {s : ByteArray} {a : Int} (h : getE s a = 0) (h1 : ¬ 65536 < getX s a) (h2 : (s.size : Int) - getTo s a < getX s a) : txtE s a = 101 := by unfold txtE; rw [if_neg (by omega), if_neg h1, if_pos h2]
theorem txtE_ok {s : ByteArray} {a : Int} (h : getE s a = 0) (h1 : ¬ 65536 < getX s a) (h2 : ¬ (s.size : Int) - getTo s a < getX s a) : txtE s a = 0 := by unfold txtE; rw [if_neg (by omega), if_neg h1, if_neg h2]
theorem txtS_ne {s : ByteArray} {a : Int} (h : txtE s a ≠ 0) : txtS s a = ⟨#[]⟩ := by rw [txtS, if_neg h]
theorem txtTo_ne {s : ByteArray} {a : Int} (h : txtE s a ≠ 0) : txtTo s a = 0 := by rw [txtTo, if_neg h]
theorem txtS_ok {s : ByteArray} {a : Int} (h : txtE s a = 0) : txtS s a = s.extract (getTo s a).toNat (getTo s a + getX s a).toNat := by rw [txtS, if_pos h]
theorem txtTo_ok {s : ByteArray} {a : Int} (h : txtE s a = 0) : txtTo s a = getTo s a + getX s a := by rw [txtTo, if_pos h]
end Go.Proofs.Ytjkcimeeagmmeaa
