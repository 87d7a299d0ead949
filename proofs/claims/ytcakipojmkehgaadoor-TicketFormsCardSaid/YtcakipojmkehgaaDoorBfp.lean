/- Put together: Fplain, Fplain2, Fplain3. Conditions: each theorem's own. -/
import Derived.Lib.BitFns
import Derived.Lib.Strings
import Derived.Laws.BitsAllLaws
import Derived.IntWalk
namespace Go.Proofs.YtcakipojmkehgaaDoor

theorem bitLenAux_le (f k x : Nat) (h : x < 2 ^ f) : Lib.bitLenAux f x ≤ k ↔ x < 2 ^ k := by
  induction f generalizing k x with
  | zero =>
    have hx : x = 0 := by simpa using h
    subst hx
    simp [Lib.bitLenAux, Nat.two_pow_pos]
  | succ f ih =>
    unfold Lib.bitLenAux
    by_cases hx : x = 0
    · subst hx; simp [Nat.two_pow_pos]
    · rw [if_neg hx]
      have h2 : x / 2 < 2 ^ f := by rw [Nat.pow_succ] at h; omega
      cases k with
      | zero => simp; omega
      | succ k =>
        have := ih k (x / 2) h2
        rw [Nat.pow_succ]
        omega
theorem bitLen_le (k x : Nat) (h : x < 2 ^ 64) : Lib.bitLen x ≤ k ↔ x < 2 ^ k := bitLenAux_le 64 k x h

/-- A number's bytes, the first one with them, as numbers. -/
def numL (x : Int) : List Int :=
  if x = 0 then [0] else if x < 256 then [1, x] else if x < 65536 then [2, x / 256, x % 256] else
  if x < 16777216 then [3, x / 65536, x / 256 % 256, x % 256] else [4, x / 16777216, x / 65536 % 256, x / 256 % 256, x % 256]
def bytesOf (l : List Int) : List UInt8 := l.map fun n => UInt8.ofNat n.toNat
def numB (x : Int) : ByteArray := ⟨(bytesOf (numL x)).toArray⟩
def okNum (x : Int) : Bool := decide (0 ≤ x) && decide (x ≤ 1073741823)
/-- What Num answers. -/
def numS (x : Int) : ByteArray := if okNum x then numB x else ⟨#[]⟩
def numE (x : Int) : Int := if okNum x then 0 else 100
theorem okNum_iff (x : Int) : okNum x = true ↔ 0 ≤ x ∧ x ≤ 1073741823 := by simp [okNum]
theorem numS_ok {x : Int} (h0 : 0 ≤ x) (h1 : x ≤ 1073741823) : numS x = numB x := by rw [numS, if_pos ((okNum_iff x).2 ⟨h0, h1⟩)]
theorem numE_ok {x : Int} (h0 : 0 ≤ x) (h1 : x ≤ 1073741823) : numE x = 0 := by rw [numE, if_pos ((okNum_iff x).2 ⟨h0, h1⟩)]
theorem numS_bad {x : Int} (h : x < 0 ∨ 1073741823 < x) : numS x = ⟨#[]⟩ := by rw [numS, if_neg (by rw [okNum_iff]; omega)]
theorem numE_bad {x : Int} (h : x < 0 ∨ 1073741823 < x) : numE x = 100 := by rw [numE, if_neg (by rw [okNum_iff]; omega)]

theorem bitLen_cases (x : Int) (h0 : 0 ≤ x) (h1 : x ≤ 1073741823) : (Lib.bitLen x.toNat : Int) ≤ 30 ∧
    (x = 0 → ((Lib.bitLen x.toNat : Int) + 7) / 8 = 0) ∧ (0 < x → x < 256 → ((Lib.bitLen x.toNat : Int) + 7) / 8 = 1) ∧ (256 ≤ x → x < 65536 → ((Lib.bitLen x.toNat : Int) + 7) / 8 = 2) ∧
    (65536 ≤ x → x < 16777216 → ((Lib.bitLen x.toNat : Int) + 7) / 8 = 3) ∧ (16777216 ≤ x → ((Lib.bitLen x.toNat : Int) + 7) / 8 = 4) := by
  have e0 := bitLen_le 0 x.toNat (by omega)
  have e8 := bitLen_le 8 x.toNat (by omega)
  have e16 := bitLen_le 16 x.toNat (by omega)
  have e24 := bitLen_le 24 x.toNat (by omega)
  have e30 := bitLen_le 30 x.toNat (by omega)
  simp at e0 e8 e16 e24 e30
  refine ⟨by omega, ?_, ?_, ?_, ?_, ?_⟩ <;> intros <;> omega

theorem numL_len (x : Int) : 1 ≤ (numL x).length ∧ (numL x).length ≤ 5 := by unfold numL; (repeat' split) <;> simp
theorem numB_data (x : Int) : (numB x).data.toList = bytesOf (numL x) := rfl
theorem numB_toList (x : Int) : (numB x).toList = bytesOf (numL x) := by rw [numB, ByteArray.toList_mk]
end Go.Proofs.YtcakipojmkehgaaDoor

namespace Go.Proofs.YtcakipojmkehgaaDoor

/-- The value of bytes, the highest first. -/
def valL (l : List UInt8) : Int := l.foldl (fun a b => a * 256 + (b.toNat : Int)) 0
theorem valL_snoc (l : List UInt8) (c : UInt8) : valL (l ++ [c]) = valL l * 256 + c.toNat := by simp [valL, List.foldl_append]
theorem fold_bd (l : List UInt8) : ∀ a : Int, 0 ≤ a → 0 ≤ l.foldl (fun a b => a * 256 + (b.toNat : Int)) a ∧ l.foldl (fun a b => a * 256 + (b.toNat : Int)) a + 1 ≤ (a + 1) * 256 ^ l.length := by
  induction l with
  | nil => intro a h; simp; omega
  | cons c l ih =>
    intro a h
    have hc := c.toNat_lt
    obtain ⟨h0, h1⟩ := ih (a * 256 + (c.toNat : Int)) (by omega)
    refine ⟨h0, Int.le_trans h1 ?_⟩
    rw [List.length_cons, Int.pow_succ, Int.mul_comm (256 ^ l.length) 256, ← Int.mul_assoc]
    exact Int.mul_le_mul_of_nonneg_right (by omega) (Int.pow_nonneg (by omega))
theorem valL_bd (l : List UInt8) : 0 ≤ valL l ∧ valL l < 256 ^ l.length := by
  obtain ⟨h0, h1⟩ := fold_bd l 0 (Int.le_refl _)
  exact ⟨h0, by unfold valL; omega⟩
theorem valL_bd4 (l : List UInt8) (h : l.length ≤ 4) : 0 ≤ valL l ∧ valL l ≤ 4294967295 := by
  obtain ⟨h0, h1⟩ := valL_bd l
  refine ⟨h0, ?_⟩
  match hl : l.length, h with
  | 0, _ => rw [hl] at h1; simp at h1; omega
  | 1, _ => rw [hl] at h1; simp at h1; omega
  | 2, _ => rw [hl] at h1; simp at h1; omega
  | 3, _ => rw [hl] at h1; simp at h1; omega
  | 4, _ => rw [hl] at h1; simp at h1; omega

/-- The byte of s at k. -/
def gb (s : ByteArray) (k : Nat) : Nat := (s.data.toList.getD k 0).toNat
theorem gb_lt (s : ByteArray) (k : Nat) : gb s k ≤ 255 := by have := (s.data.toList.getD k 0).toNat_lt; unfold gb; omega
theorem gb_get (s : ByteArray) (k : Nat) (h : k < s.size) : (s[k]'h).toNat = gb s k := by
  unfold gb
  have h2 : k < s.data.toList.length := by rw [← Lib.size_eq]; exact h
  rw [List.getD_eq_getElem?_getD, List.getElem?_eq_getElem h2]
  rfl
/-- The bytes of s from a to b. -/
def piece (s : ByteArray) (a b : Nat) : List UInt8 := (s.data.toList.drop a).take (b - a)
theorem piece_len (s : ByteArray) (a b : Nat) (h : b ≤ s.size) : (piece s a b).length = b - a := by
  unfold piece; rw [List.length_take, List.length_drop, ← Lib.size_eq]; omega
theorem piece_snoc (s : ByteArray) (a b : Nat) (h0 : a ≤ b) (h1 : b < s.size) : piece s a (b + 1) = piece s a b ++ [s[b]'h1] := by
  unfold piece
  have h2 : b - a < (s.data.toList.drop a).length := by rw [List.length_drop, ← Lib.size_eq]; omega
  rw [show b + 1 - a = (b - a) + 1 by omega, List.take_succ_eq_append_getElem h2]
  congr 2
  rw [List.getElem_drop]
  have : a + (b - a) = b := by omega
  simp [this]
  rfl
theorem val_piece (s : ByteArray) (a b : Nat) (h0 : a ≤ b) (h1 : b < s.size) : valL (piece s a (b + 1)) = valL (piece s a b) * 256 + gb s b := by
  rw [piece_snoc s a b h0 h1, valL_snoc, gb_get]
theorem val_piece_self (s : ByteArray) (a : Nat) : valL (piece s a a) = 0 := by simp [piece, valL]
theorem extract_piece (s : ByteArray) (a b : Nat) : s.extract a b = ⟨(piece s a b).toArray⟩ := Lib.extract_eq s a b

/-- What reading a number at a place answers: its error. -/
def getE (s : ByteArray) (a : Int) : Int :=
  if a < 0 ∨ (s.size : Int) < a then 100 else if a = s.size then 101 else if 4 < gb s a.toNat then 100 else
  if s.size < a.toNat + 1 + gb s a.toNat then 101 else
  if (0 < gb s a.toNat ∧ gb s (a.toNat + 1) = 0) ∨ 1073741823 < valL (piece s (a.toNat + 1) (a.toNat + 1 + gb s a.toNat)) then 100 else 0
def getX (s : ByteArray) (a : Int) : Int := if getE s a = 0 then valL (piece s (a.toNat + 1) (a.toNat + 1 + gb s a.toNat)) else 0
def getTo (s : ByteArray) (a : Int) : Int := if getE s a = 0 then ((a.toNat + 1 + gb s a.toNat : Nat) : Int) else 0
theorem getE_neg {s : ByteArray} {a : Int} (h : a < 0) : getE s a = 100 := by unfold getE; rw [if_pos (.inl h)]
theorem getE_far {s : ByteArray} {a : Int} (h : (s.size : Int) < a) : getE s a = 100 := by unfold getE; rw [if_pos (.inr h)]
theorem getE_end {s : ByteArray} {a : Int} (h : a = s.size) : getE s a = 101 := by unfold getE; rw [if_neg (by omega), if_pos h]
theorem getE_big {s : ByteArray} {k : Nat} (h : k < s.size) (h4 : 4 < gb s k) : getE s k = 100 := by
  unfold getE; rw [if_neg (by omega), if_neg (by omega), Int.toNat_natCast, if_pos h4]
theorem getE_cut {s : ByteArray} {k : Nat} (h : k < s.size) (h4 : gb s k ≤ 4) (hc : s.size < k + 1 + gb s k) : getE s k = 101 := by
  unfold getE; rw [if_neg (by omega), if_neg (by omega), Int.toNat_natCast, if_neg (by omega), if_pos hc]
theorem getE_bad {s : ByteArray} {k : Nat} (h : k < s.size) (h4 : gb s k ≤ 4) (hc : k + 1 + gb s k ≤ s.size)
    (hb : (0 < gb s k ∧ gb s (k + 1) = 0) ∨ 1073741823 < valL (piece s (k + 1) (k + 1 + gb s k))) : getE s k = 100 := by
  unfold getE; rw [if_neg (by omega), if_neg (by omega), Int.toNat_natCast, if_neg (by omega), if_neg (by omega), if_pos hb]
theorem getE_ok {s : ByteArray} {k : Nat} (h : k < s.size) (h4 : gb s k ≤ 4) (hc : k + 1 + gb s k ≤ s.size)
    (hb : ¬ ((0 < gb s k ∧ gb s (k + 1) = 0) ∨ 1073741823 < valL (piece s (k + 1) (k + 1 + gb s k)))) : getE s k = 0 := by
  unfold getE; rw [if_neg (by omega), if_neg (by omega), Int.toNat_natCast, if_neg (by omega), if_neg (by omega), if_neg hb]
theorem getX_ne {s : ByteArray} {a : Int} (h : getE s a ≠ 0) : getX s a = 0 := by rw [getX, if_neg h]
theorem getTo_ne {s : ByteArray} {a : Int} (h : getE s a ≠ 0) : getTo s a = 0 := by rw [getTo, if_neg h]
theorem getX_ok {s : ByteArray} {k : Nat} (h : getE s k = 0) : getX s k = valL (piece s (k + 1) (k + 1 + gb s k)) := by rw [getX, if_pos h, Int.toNat_natCast]
theorem getTo_ok {s : ByteArray} {k : Nat} (h : getE s k = 0) : getTo s k = ((k + 1 + gb s k : Nat) : Int) := by rw [getTo, if_pos h, Int.toNat_natCast]
theorem get_ok {s : ByteArray} {a : Int} (h : getE s a = 0) : ∃ k : Nat, a = k ∧ k < s.size ∧ gb s k ≤ 4 ∧ k + 1 + gb s k ≤ s.size ∧ ¬ (0 < gb s k ∧ gb s (k + 1) = 0) ∧ valL (piece s (k + 1) (k + 1 + gb s k)) ≤ 1073741823 := by
  by_cases h0 : a < 0
  · rw [getE_neg h0] at h; omega
  by_cases h1 : (s.size : Int) < a
  · rw [getE_far h1] at h; omega
  by_cases h2 : a = s.size
  · rw [getE_end h2] at h; omega
  obtain ⟨k, rfl⟩ : ∃ k : Nat, a = k := ⟨a.toNat, by omega⟩
  have hk : k < s.size := by omega
  by_cases h4 : 4 < gb s k
  · rw [getE_big hk h4] at h; omega
  by_cases hc : s.size < k + 1 + gb s k
  · rw [getE_cut hk (by omega) hc] at h; omega
  by_cases hb : (0 < gb s k ∧ gb s (k + 1) = 0) ∨ 1073741823 < valL (piece s (k + 1) (k + 1 + gb s k))
  · rw [getE_bad hk (by omega) (by omega) hb] at h; omega
  · exact ⟨k, rfl, hk, by omega, by omega, fun e => hb (.inl e), by omega⟩
theorem get_bd {s : ByteArray} {a : Int} (h : getE s a = 0) : 0 ≤ getX s a ∧ getX s a ≤ 1073741823 ∧ 0 ≤ a ∧ a < getTo s a ∧ getTo s a ≤ s.size := by
  obtain ⟨k, rfl, hk, h4, hc, hz, hm⟩ := get_ok h
  rw [getX_ok h, getTo_ok h]
  have := valL_bd (piece s (k + 1) (k + 1 + gb s k))
  omega

/-- What Text answers. -/
def textS (s : ByteArray) : ByteArray := if s.size ≤ 65536 then numB s.size ++ s else ⟨#[]⟩
def textE (s : ByteArray) : Int := if s.size ≤ 65536 then 0 else 100
/-- What reading a text at a place answers. -/
def txtE (s : ByteArray) (a : Int) : Int :=
  if getE s a ≠ 0 then getE s a else if 65536 < getX s a then 100 else if (s.size : Int) - getTo s a < getX s a then 101 else 0
def txtS (s : ByteArray) (a : Int) : ByteArray := if txtE s a = 0 then s.extract (getTo s a).toNat (getTo s a + getX s a).toNat else ⟨#[]⟩
def txtTo (s : ByteArray) (a : Int) : Int := if txtE s a = 0 then getTo s a + getX s a else 0
theorem txtE_get {s : ByteArray} {a : Int} (h : getE s a ≠ 0) : txtE s a = getE s a := by unfold txtE; rw [if_pos h]
theorem txtE_big {s : ByteArray} {a : Int} (h : getE s a = 0) (h1 : 65536 < getX s a) : txtE s a = 100 := by unfold txtE; rw [if_neg (by omega), if_pos h1]
theorem txtE_cut {s : ByteArray} {a : Int} (h : getE s a = 0) (h1 : ¬ 65536 < getX s a) (h2 : (s.size : Int) - getTo s a < getX s a) : txtE s a = 101 := by unfold txtE; rw [if_neg (by omega), if_neg h1, if_pos h2]
theorem txtE_ok {s : ByteArray} {a : Int} (h : getE s a = 0) (h1 : ¬ 65536 < getX s a) (h2 : ¬ (s.size : Int) - getTo s a < getX s a) : txtE s a = 0 := by unfold txtE; rw [if_neg (by omega), if_neg h1, if_neg h2]
theorem txtS_ne {s : ByteArray} {a : Int} (h : txtE s a ≠ 0) : txtS s a = ⟨#[]⟩ := by rw [txtS, if_neg h]
theorem txtTo_ne {s : ByteArray} {a : Int} (h : txtE s a ≠ 0) : txtTo s a = 0 := by rw [txtTo, if_neg h]
theorem txtS_ok {s : ByteArray} {a : Int} (h : txtE s a = 0) : txtS s a = s.extract (getTo s a).toNat (getTo s a + getX s a).toNat := by rw [txtS, if_pos h]
theorem txtTo_ok {s : ByteArray} {a : Int} (h : txtE s a = 0) : txtTo s a = getTo s a + getX s a := by rw [txtTo, if_pos h]
end Go.Proofs.YtcakipojmkehgaaDoor

namespace Go.Proofs.YtcakipojmkehgaaDoor

theorem valL_bd3 (l : List UInt8) (h : l.length ≤ 3) : 0 ≤ valL l ∧ valL l ≤ 16777215 := by
  obtain ⟨h0, h1⟩ := valL_bd l
  refine ⟨h0, ?_⟩
  match hl : l.length, h with
  | 0, _ => rw [hl] at h1; simp at h1; omega
  | 1, _ => rw [hl] at h1; simp at h1; omega
  | 2, _ => rw [hl] at h1; simp at h1; omega
  | 3, _ => rw [hl] at h1; simp at h1; omega
theorem i64_or_nat (a b : Nat) (ha : a < 9223372036854775808) (hb : b < 9223372036854775808) : bits .or .i64 (a : Int) (b : Int) = ((a ||| b : Nat) : Int) := by
  have hx : a ||| b < 2 ^ 63 := Nat.or_lt_two_pow (by omega) (by omega)
  show IntKind.i64.wrap ((BitVec.ofInt 64 (a : Int) ||| BitVec.ofInt 64 (b : Int)).toNat : Int) = _
  rw [BitVec.toNat_or, ofInt_u64 a (by omega), ofInt_u64 b (by omega), IntKind.wrap_i64]
  omega
theorem i64_or8 (a b : Int) (h0 : 0 ≤ a) (h1 : a ≤ 16777215) (h2 : 0 ≤ b) (h3 : b ≤ 255) : bits .or .i64 (a * 256) b = a * 256 + b := by
  obtain ⟨A, rfl⟩ := Int.eq_ofNat_of_zero_le h0
  obtain ⟨B, rfl⟩ := Int.eq_ofNat_of_zero_le h2
  have := i64_or_nat (A * 256) B (by omega) (by omega)
  rw [nat_join 8 (A * 256) B (by omega) (by omega)] at this
  simpa using this
theorem i64_mask (n : Int) (k : Nat) (hk : k ≤ 62) : bits .and .i64 n ((2 ^ k - 1 : Nat) : Int) = n % (2 ^ k : Nat) := by
  have hp : (2 : Nat) ^ k ≤ 2 ^ 62 := Nat.pow_le_pow_right (by omega) hk
  have hp0 : 0 < (2 : Nat) ^ k := Nat.two_pow_pos k
  have key : (BitVec.ofInt 64 n &&& BitVec.ofInt 64 ((2 ^ k - 1 : Nat) : Int)).toNat = (n % (2 ^ k : Nat)).toNat := by
    rw [BitVec.toNat_and, ofInt_u64 _ (by omega), Nat.and_two_pow_sub_one_eq_mod, BitVec.toNat_ofInt]
    have hdvd : ((2 ^ k : Nat) : Int) ∣ ((2 ^ 64 : Nat) : Int) := by
      refine ⟨((2 ^ (64 - k) : Nat) : Int), ?_⟩
      rw [← Int.natCast_mul, ← Nat.pow_add, show k + (64 - k) = 64 by omega]
    have h1 : n % ((2 ^ 64 : Nat) : Int) % ((2 ^ k : Nat) : Int) = n % ((2 ^ k : Nat) : Int) := Int.emod_emod_of_dvd n hdvd
    have h2 : 0 ≤ n % ((2 ^ 64 : Nat) : Int) := Int.emod_nonneg _ (by decide)
    have h3 : 0 ≤ n % ((2 ^ k : Nat) : Int) := Int.emod_nonneg _ (by omega)
    have h4 : (((n % ((2 ^ 64 : Nat) : Int)).toNat % 2 ^ k : Nat) : Int) = ((n % ((2 ^ k : Nat) : Int)).toNat : Int) := by
      rw [Int.natCast_emod, Int.toNat_of_nonneg h2, Int.toNat_of_nonneg h3, h1]
    exact Int.ofNat.inj h4
  show IntKind.i64.wrap ((BitVec.ofInt 64 n &&& BitVec.ofInt 64 ((2 ^ k - 1 : Nat) : Int)).toNat : Nat) = _
  rw [key, IntKind.wrap_i64]
  have h3 : 0 ≤ n % ((2 ^ k : Nat) : Int) := Int.emod_nonneg _ (by omega)
  have h5 : n % ((2 ^ k : Nat) : Int) < ((2 ^ k : Nat) : Int) := Int.emod_lt_of_pos _ (by omega)
  omega
end Go.Proofs.YtcakipojmkehgaaDoor

