/- Put together: Fplain, Fplain2, Fplain3, Evb, Pa, Lk, St. Conditions: each theorem's own. -/
import Derived.Lib.BitFns
import Derived.Lib.Strings
import Derived.Laws.BitsAllLaws
import Derived.IntWalk
import Derived.WalkKit
namespace Go.Proofs.YtopkcaflmpjhgaaGreat

theorem bitLenAux_le (f k x : Nat) (h : x < 2 ^ f) : Lib.bitLenAux f x ≤ k ↔ x < 2 ^ k := by
  induction f generalizing k x with
  | zero =>
    have hx : x = 0 := by simpa using h
    subst hx
    simp [Lib.bitLenAux, Nat.two_pow_pos]
  | succ f ih =>
    unfold Lib.bitLenAux
    by_cases hx : x = 0
    · subst hx; simp [Nat.two_pow_pos]
    · rw [if_neg hx]
      have h2 : x / 2 < 2 ^ f := by rw [Nat.pow_succ] at h; omega
      cases k with
      | zero => simp; omega
      | succ k =>
        have := ih k (x / 2) h2
        rw [Nat.pow_succ]
        omega
theorem bitLen_le (k x : Nat) (h : x < 2 ^ 64) : Lib.bitLen x ≤ k ↔ x < 2 ^ k := bitLenAux_le 64 k x h

/-- A number's bytes, the first one with them, as numbers. -/
def numL (x : Int) : List Int :=
  if x = 0 then [0] else if x < 256 then [1, x] else if x < 65536 then [2, x / 256, x % 256] else
  if x < 16777216 then [3, x / 65536, x / 256 % 256, x % 256] else [4, x / 16777216, x / 65536 % 256, x / 256 % 256, x % 256]
def bytesOf (l : List Int) : List UInt8 := l.map fun n => UInt8.ofNat n.toNat
def numB (x : Int) : ByteArray := ⟨(bytesOf (numL x)).toArray⟩
def okNum (x : Int) : Bool := decide (0 ≤ x) && decide (x ≤ 1073741823)
/-- What Num answers. -/
def numS (x : Int) : ByteArray := if okNum x then numB x else ⟨#[]⟩
def numE (x : Int) : Int := if okNum x then 0 else 100
theorem okNum_iff (x : Int) : okNum x = true ↔ 0 ≤ x ∧ x ≤ 1073741823 := by simp [okNum]
theorem numS_ok {x : Int} (h0 : 0 ≤ x) (h1 : x ≤ 1073741823) : numS x = numB x := by rw [numS, if_pos ((okNum_iff x).2 ⟨h0, h1⟩)]
theorem numE_ok {x : Int} (h0 : 0 ≤ x) (h1 : x ≤ 1073741823) : numE x = 0 := by rw [numE, if_pos ((okNum_iff x).2 ⟨h0, h1⟩)]
theorem numS_bad {x : Int} (h : x < 0 ∨ 1073741823 < x) : numS x = ⟨#[]⟩ := by rw [numS, if_neg (by rw [okNum_iff]; omega)]
theorem numE_bad {x : Int} (h : x < 0 ∨ 1073741823 < x) : numE x = 100 := by rw [numE, if_neg (by rw [okNum_iff]; omega)]

theorem bitLen_cases (x : Int) (h0 : 0 ≤ x) (h1 : x ≤ 1073741823) : (Lib.bitLen x.toNat : Int) ≤ 30 ∧
    (x = 0 → ((Lib.bitLen x.toNat : Int) + 7) / 8 = 0) ∧ (0 < x → x < 256 → ((Lib.bitLen x.toNat : Int) + 7) / 8 = 1) ∧ (256 ≤ x → x < 65536 → ((Lib.bitLen x.toNat : Int) + 7) / 8 = 2) ∧
    (65536 ≤ x → x < 16777216 → ((Lib.bitLen x.toNat : Int) + 7) / 8 = 3) ∧ (16777216 ≤ x → ((Lib.bitLen x.toNat : Int) + 7) / 8 = 4) := by
  have e0 := bitLen_le 0 x.toNat (by omega)
  have e8 := bitLen_le 8 x.toNat (by omega)
  have e16 := bitLen_le 16 x.toNat (by omega)
  have e24 := bitLen_le 24 x.toNat (by omega)
  have e30 := bitLen_le 30 x.toNat (by omega)
  simp at e0 e8 e16 e24 e30
  refine ⟨by omega, ?_, ?_, ?_, ?_, ?_⟩ <;> intros <;> omega

theorem numL_len (x : Int) : 1 ≤ (numL x).length ∧ (numL x).length ≤ 5 := by unfold numL; (repeat' split) <;> simp
theorem numB_data (x : Int) : (numB x).data.toList = bytesOf (numL x) := rfl
theorem numB_toList (x : Int) : (numB x).toList = bytesOf (numL x) := by rw [numB, ByteArray.toList_mk]
end Go.Proofs.YtopkcaflmpjhgaaGreat

namespace Go.Proofs.YtopkcaflmpjhgaaGreat

/-- The value of bytes, the highest first. -/
def valL (l : List UInt8) : Int := l.foldl (fun a b => a * 256 + (b.toNat : Int)) 0
theorem valL_snoc (l : List UInt8) (c : UInt8) : valL (l ++ [c]) = valL l * 256 + c.toNat := by simp [valL, List.foldl_append]
theorem fold_bd (l : List UInt8) : ∀ a : Int, 0 ≤ a → 0 ≤ l.foldl (fun a b => a * 256 + (b.toNat : Int)) a ∧ l.foldl (fun a b => a * 256 + (b.toNat : Int)) a + 1 ≤ (a + 1) * 256 ^ l.length := by
  induction l with
  | nil => intro a h; simp; omega
  | cons c l ih =>
    intro a h
    have hc := c.toNat_lt
    obtain ⟨h0, h1⟩ := ih (a * 256 + (c.toNat : Int)) (by omega)
    refine ⟨h0, Int.le_trans h1 ?_⟩
    rw [List.length_cons, Int.pow_succ, Int.mul_comm (256 ^ l.length) 256, ← Int.mul_assoc]
    exact Int.mul_le_mul_of_nonneg_right (by omega) (Int.pow_nonneg (by omega))
theorem valL_bd (l : List UInt8) : 0 ≤ valL l ∧ valL l < 256 ^ l.length := by
  obtain ⟨h0, h1⟩ := fold_bd l 0 (Int.le_refl _)
  exact ⟨h0, by unfold valL; omega⟩
theorem valL_bd4 (l : List UInt8) (h : l.length ≤ 4) : 0 ≤ valL l ∧ valL l ≤ 4294967295 := by
  obtain ⟨h0, h1⟩ := valL_bd l
  refine ⟨h0, ?_⟩
  match hl : l.length, h with
  | 0, _ => rw [hl] at h1; simp at h1; omega
  | 1, _ => rw [hl] at h1; simp at h1; omega
  | 2, _ => rw [hl] at h1; simp at h1; omega
  | 3, _ => rw [hl] at h1; simp at h1; omega
  | 4, _ => rw [hl] at h1; simp at h1; omega

/-- The byte of s at k. -/
def gb (s : ByteArray) (k : Nat) : Nat := (s.data.toList.getD k 0).toNat
theorem gb_lt (s : ByteArray) (k : Nat) : gb s k ≤ 255 := by have := (s.data.toList.getD k 0).toNat_lt; unfold gb; omega
theorem gb_get (s : ByteArray) (k : Nat) (h : k < s.size) : (s[k]'h).toNat = gb s k := by
  unfold gb
  have h2 : k < s.data.toList.length := by rw [← Lib.size_eq]; exact h
  rw [List.getD_eq_getElem?_getD, List.getElem?_eq_getElem h2]
  rfl
/-- The bytes of s from a to b. -/
def piece (s : ByteArray) (a b : Nat) : List UInt8 := (s.data.toList.drop a).take (b - a)
theorem piece_len (s : ByteArray) (a b : Nat) (h : b ≤ s.size) : (piece s a b).length = b - a := by
  unfold piece; rw [List.length_take, List.length_drop, ← Lib.size_eq]; omega
theorem piece_snoc (s : ByteArray) (a b : Nat) (h0 : a ≤ b) (h1 : b < s.size) : piece s a (b + 1) = piece s a b ++ [s[b]'h1] := by
  unfold piece
  have h2 : b - a < (s.data.toList.drop a).length := by rw [List.length_drop, ← Lib.size_eq]; omega
  rw [show b + 1 - a = (b - a) + 1 by omega, List.take_succ_eq_append_getElem h2]
  congr 2
  rw [List.getElem_drop]
  have : a + (b - a) = b := by omega
  simp [this]
  rfl
theorem val_piece (s : ByteArray) (a b : Nat) (h0 : a ≤ b) (h1 : b < s.size) : valL (piece s a (b + 1)) = valL (piece s a b) * 256 + gb s b := by
  rw [piece_snoc s a b h0 h1, valL_snoc, gb_get]
theorem val_piece_self (s : ByteArray) (a : Nat) : valL (piece s a a) = 0 := by simp [piece, valL]
theorem extract_piece (s : ByteArray) (a b : Nat) : s.extract a b = ⟨(piece s a b).toArray⟩ := Lib.extract_eq s a b

/-- What reading a number at a place answers: its error. -/
def getE (s : ByteArray) (a : Int) : Int :=
  if a < 0 ∨ (s.size : Int) < a then 100 else if a = s.size then 101 else if 4 < gb s a.toNat then 100 else
  if s.size < a.toNat + 1 + gb s a.toNat then 101 else
  if (0 < gb s a.toNat ∧ gb s (a.toNat + 1) = 0) ∨ 1073741823 < valL (piece s (a.toNat + 1) (a.toNat + 1 + gb s a.toNat)) then 100 else 0
def getX (s : ByteArray) (a : Int) : Int := if getE s a = 0 then valL (piece s (a.toNat + 1) (a.toNat + 1 + gb s a.toNat)) else 0
def getTo (s : ByteArray) (a : Int) : Int := if getE s a = 0 then ((a.toNat + 1 + gb s a.toNat : Nat) : Int) else 0
theorem getE_neg {s : ByteArray} {a : Int} (h : a < 0) : getE s a = 100 := by unfold getE; rw [if_pos (.inl h)]
theorem getE_far {s : ByteArray} {a : Int} (h : (s.size : Int) < a) : getE s a = 100 := by unfold getE; rw [if_pos (.inr h)]
theorem getE_end {s : ByteArray} {a : Int} (h : a = s.size) : getE s a = 101 := by unfold getE; rw [if_neg (by omega), if_pos h]
theorem getE_big {s : ByteArray} {k : Nat} (h : k < s.size) (h4 : 4 < gb s k) : getE s k = 100 := by
  unfold getE; rw [if_neg (by omega), if_neg (by omega), Int.toNat_natCast, if_pos h4]
theorem getE_cut {s : ByteArray} {k : Nat} (h : k < s.size) (h4 : gb s k ≤ 4) (hc : s.size < k + 1 + gb s k) : getE s k = 101 := by
  unfold getE; rw [if_neg (by omega), if_neg (by omega), Int.toNat_natCast, if_neg (by omega), if_pos hc]
theorem getE_bad {s : ByteArray} {k : Nat} (h : k < s.size) (h4 : gb s k ≤ 4) (hc : k + 1 + gb s k ≤ s.size)
    (hb : (0 < gb s k ∧ gb s (k + 1) = 0) ∨ 1073741823 < valL (piece s (k + 1) (k + 1 + gb s k))) : getE s k = 100 := by
  unfold getE; rw [if_neg (by omega), if_neg (by omega), Int.toNat_natCast, if_neg (by omega), if_neg (by omega), if_pos hb]
theorem getE_ok {s : ByteArray} {k : Nat} (h : k < s.size) (h4 : gb s k ≤ 4) (hc : k + 1 + gb s k ≤ s.size)
    (hb : ¬ ((0 < gb s k ∧ gb s (k + 1) = 0) ∨ 1073741823 < valL (piece s (k + 1) (k + 1 + gb s k)))) : getE s k = 0 := by
  unfold getE; rw [if_neg (by omega), if_neg (by omega), Int.toNat_natCast, if_neg (by omega), if_neg (by omega), if_neg hb]
theorem getX_ne {s : ByteArray} {a : Int} (h : getE s a ≠ 0) : getX s a = 0 := by rw [getX, if_neg h]
theorem getTo_ne {s : ByteArray} {a : Int} (h : getE s a ≠ 0) : getTo s a = 0 := by rw [getTo, if_neg h]
theorem getX_ok {s : ByteArray} {k : Nat} (h : getE s k = 0) : getX s k = valL (piece s (k + 1) (k + 1 + gb s k)) := by rw [getX, if_pos h, Int.toNat_natCast]
theorem getTo_ok {s : ByteArray} {k : Nat} (h : getE s k = 0) : getTo s k = ((k + 1 + gb s k : Nat) : Int) := by rw [getTo, if_pos h, Int.toNat_natCast]
theorem get_ok {s : ByteArray} {a : Int} (h : getE s a = 0) : ∃ k : Nat, a = k ∧ k < s.size ∧ gb s k ≤ 4 ∧ k + 1 + gb s k ≤ s.size ∧ ¬ (0 < gb s k ∧ gb s (k + 1) = 0) ∧ valL (piece s (k + 1) (k + 1 + gb s k)) ≤ 1073741823 := by
  by_cases h0 : a < 0
  · rw [getE_neg h0] at h; omega
  by_cases h1 : (s.size : Int) < a
  · rw [getE_far h1] at h; omega
  by_cases h2 : a = s.size
  · rw [getE_end h2] at h; omega
  obtain ⟨k, rfl⟩ : ∃ k : Nat, a = k := ⟨a.toNat, by omega⟩
  have hk : k < s.size := by omega
  by_cases h4 : 4 < gb s k
  · rw [getE_big hk h4] at h; omega
  by_cases hc : s.size < k + 1 + gb s k
  · rw [getE_cut hk (by omega) hc] at h; omega
  by_cases hb : (0 < gb s k ∧ gb s (k + 1) = 0) ∨ 1073741823 < valL (piece s (k + 1) (k + 1 + gb s k))
  · rw [getE_bad hk (by omega) (by omega) hb] at h; omega
  · exact ⟨k, rfl, hk, by omega, by omega, fun e => hb (.inl e), by omega⟩
theorem get_bd {s : ByteArray} {a : Int} (h : getE s a = 0) : 0 ≤ getX s a ∧ getX s a ≤ 1073741823 ∧ 0 ≤ a ∧ a < getTo s a ∧ getTo s a ≤ s.size := by
  obtain ⟨k, rfl, hk, h4, hc, hz, hm⟩ := get_ok h
  rw [getX_ok h, getTo_ok h]
  have := valL_bd (piece s (k + 1) (k + 1 + gb s k))
  omega

/-- What Text answers. -/
def textS (s : ByteArray) : ByteArray := if s.size ≤ 65536 then numB s.size ++ s else ⟨#[]⟩
def textE (s : ByteArray) : Int := if s.size ≤ 65536 then 0 else 100
/-- What reading a text at a place answers. -/
def txtE (s : ByteArray) (a : Int) : Int :=
  if getE s a ≠ 0 then getE s a else if 65536 < getX s a then 100 else if (s.size : Int) - getTo s a < getX s a then 101 else 0
def txtS (s : ByteArray) (a : Int) : ByteArray := if txtE s a = 0 then s.extract (getTo s a).toNat (getTo s a + getX s a).toNat else ⟨#[]⟩
def txtTo (s : ByteArray) (a : Int) : Int := if txtE s a = 0 then getTo s a + getX s a else 0
theorem txtE_get {s : ByteArray} {a : Int} (h : getE s a ≠ 0) : txtE s a = getE s a := by unfold txtE; rw [if_pos h]
theorem txtE_big {s : ByteArray} {a : Int} (h : getE s a = 0) (h1 : 65536 < getX s a) : txtE s a = 100 := by unfold txtE; rw [if_neg (by omega), if_pos h1]
theorem txtE_cut {s : ByteArray} {a : Int} (h : getE s a = 0) (h1 : ¬ 65536 < getX s a) (h2 : (s.size : Int) - getTo s a < getX s a) : txtE s a = 101 := by unfold txtE; rw [if_neg (by omega), if_neg h1, if_pos h2]
theorem txtE_ok {s : ByteArray} {a : Int} (h : getE s a = 0) (h1 : ¬ 65536 < getX s a) (h2 : ¬ (s.size : Int) - getTo s a < getX s a) : txtE s a = 0 := by unfold txtE; rw [if_neg (by omega), if_neg h1, if_neg h2]
theorem txtS_ne {s : ByteArray} {a : Int} (h : txtE s a ≠ 0) : txtS s a = ⟨#[]⟩ := by rw [txtS, if_neg h]
theorem txtTo_ne {s : ByteArray} {a : Int} (h : txtE s a ≠ 0) : txtTo s a = 0 := by rw [txtTo, if_neg h]
theorem txtS_ok {s : ByteArray} {a : Int} (h : txtE s a = 0) : txtS s a = s.extract (getTo s a).toNat (getTo s a + getX s a).toNat := by rw [txtS, if_pos h]
theorem txtTo_ok {s : ByteArray} {a : Int} (h : txtE s a = 0) : txtTo s a = getTo s a + getX s a := by rw [txtTo, if_pos h]
end Go.Proofs.YtopkcaflmpjhgaaGreat

namespace Go.Proofs.YtopkcaflmpjhgaaGreat

theorem valL_bd3 (l : List UInt8) (h : l.length ≤ 3) : 0 ≤ valL l ∧ valL l ≤ 16777215 := by
  obtain ⟨h0, h1⟩ := valL_bd l
  refine ⟨h0, ?_⟩
  match hl : l.length, h with
  | 0, _ => rw [hl] at h1; simp at h1; omega
  | 1, _ => rw [hl] at h1; simp at h1; omega
  | 2, _ => rw [hl] at h1; simp at h1; omega
  | 3, _ => rw [hl] at h1; simp at h1; omega
theorem i64_or_nat (a b : Nat) (ha : a < 9223372036854775808) (hb : b < 9223372036854775808) : bits .or .i64 (a : Int) (b : Int) = ((a ||| b : Nat) : Int) := by
  have hx : a ||| b < 2 ^ 63 := Nat.or_lt_two_pow (by omega) (by omega)
  show IntKind.i64.wrap ((BitVec.ofInt 64 (a : Int) ||| BitVec.ofInt 64 (b : Int)).toNat : Int) = _
  rw [BitVec.toNat_or, ofInt_u64 a (by omega), ofInt_u64 b (by omega), IntKind.wrap_i64]
  omega
theorem i64_or8 (a b : Int) (h0 : 0 ≤ a) (h1 : a ≤ 16777215) (h2 : 0 ≤ b) (h3 : b ≤ 255) : bits .or .i64 (a * 256) b = a * 256 + b := by
  obtain ⟨A, rfl⟩ := Int.eq_ofNat_of_zero_le h0
  obtain ⟨B, rfl⟩ := Int.eq_ofNat_of_zero_le h2
  have := i64_or_nat (A * 256) B (by omega) (by omega)
  rw [nat_join 8 (A * 256) B (by omega) (by omega)] at this
  simpa using this
theorem i64_mask (n : Int) (k : Nat) (hk : k ≤ 62) : bits .and .i64 n ((2 ^ k - 1 : Nat) : Int) = n % (2 ^ k : Nat) := by
  have hp : (2 : Nat) ^ k ≤ 2 ^ 62 := Nat.pow_le_pow_right (by omega) hk
  have hp0 : 0 < (2 : Nat) ^ k := Nat.two_pow_pos k
  have key : (BitVec.ofInt 64 n &&& BitVec.ofInt 64 ((2 ^ k - 1 : Nat) : Int)).toNat = (n % (2 ^ k : Nat)).toNat := by
    rw [BitVec.toNat_and, ofInt_u64 _ (by omega), Nat.and_two_pow_sub_one_eq_mod, BitVec.toNat_ofInt]
    have hdvd : ((2 ^ k : Nat) : Int) ∣ ((2 ^ 64 : Nat) : Int) := by
      refine ⟨((2 ^ (64 - k) : Nat) : Int), ?_⟩
      rw [← Int.natCast_mul, ← Nat.pow_add, show k + (64 - k) = 64 by omega]
    have h1 : n % ((2 ^ 64 : Nat) : Int) % ((2 ^ k : Nat) : Int) = n % ((2 ^ k : Nat) : Int) := Int.emod_emod_of_dvd n hdvd
    have h2 : 0 ≤ n % ((2 ^ 64 : Nat) : Int) := Int.emod_nonneg _ (by decide)
    have h3 : 0 ≤ n % ((2 ^ k : Nat) : Int) := Int.emod_nonneg _ (by omega)
    have h4 : (((n % ((2 ^ 64 : Nat) : Int)).toNat % 2 ^ k : Nat) : Int) = ((n % ((2 ^ k : Nat) : Int)).toNat : Int) := by
      rw [Int.natCast_emod, Int.toNat_of_nonneg h2, Int.toNat_of_nonneg h3, h1]
    exact Int.ofNat.inj h4
  show IntKind.i64.wrap ((BitVec.ofInt 64 n &&& BitVec.ofInt 64 ((2 ^ k - 1 : Nat) : Int)).toNat : Nat) = _
  rw [key, IntKind.wrap_i64]
  have h3 : 0 ≤ n % ((2 ^ k : Nat) : Int) := Int.emod_nonneg _ (by omega)
  have h5 : n % ((2 ^ k : Nat) : Int) < ((2 ^ k : Nat) : Int) := Int.emod_lt_of_pos _ (by omega)
  omega
end Go.Proofs.YtopkcaflmpjhgaaGreat

namespace Go.Proofs.YtopkcaflmpjhgaaGreat
open Go

structure Ev where
  kind : Int
  user : Int
  session : Int
  address : Int
  a : Int
  b : Int
  c : Int
  tick : Int
deriving DecidableEq
def Ev.val (p : Ev) : Value := .agg #[.int .i64 p.kind, .int .i64 p.user, .int .i64 p.session, .int .i64 p.address, .int .i64 p.a, .int .i64 p.b, .int .i64 p.c, .int .i64 p.tick]
def Ev.zero : Ev := ⟨0, 0, 0, 0, 0, 0, 0, 0⟩
/-- The parts of its kind alone. -/
def Ev.part (p : Ev) : Option Ev :=
  if p.kind = 0 then some ⟨0, 0, 0, 0, 0, 0, 0, p.tick⟩
  else if p.kind = 1 then some ⟨1, p.user, 0, 0, p.a, p.b, p.c, 0⟩
  else if p.kind = 2 then some ⟨2, p.user, 0, 0, 0, 0, 0, p.tick⟩
  else if p.kind = 3 then some ⟨3, p.user, 0, 0, p.a, 0, 0, 0⟩
  else if p.kind = 4 then some ⟨4, p.user, 0, 0, 0, 0, 0, 0⟩
  else if p.kind = 5 then some ⟨5, p.user, p.session, p.address, 0, 0, 0, p.tick⟩
  else if p.kind = 6 then some ⟨6, 0, p.session, 0, p.a, p.b, 0, p.tick⟩
  else if p.kind = 7 then some ⟨7, p.user, 0, 0, 0, 0, 0, 0⟩
  else if p.kind = 8 then some ⟨8, 0, 0, 0, 0, 0, 0, 0⟩
  else if p.kind = 9 then some ⟨9, 0, p.session, 0, 0, 0, 0, 0⟩
  else none
def Ev.rng (p : Ev) : Bool := decide (0 ≤ p.user) && decide (p.user ≤ 7) && decide (0 ≤ p.address) && decide (p.address ≤ 15) && decide (0 ≤ p.tick) && decide (p.tick ≤ 1048575) && decide (0 ≤ p.c) && decide (p.c ≤ 1048576) && okNum p.session && okNum p.a && okNum p.b
def Ev.lim (p : Ev) : Bool := (!decide (p.kind = 6) || decide (p.b ≤ 4))
def Ev.may (p : Ev) : Bool := p.rng && decide (p.part = some p) && p.lim
theorem Ev.rng_iff (p : Ev) : p.rng = true ↔ 0 ≤ p.user ∧ p.user ≤ 7 ∧ 0 ≤ p.address ∧ p.address ≤ 15 ∧ 0 ≤ p.tick ∧ p.tick ≤ 1048575 ∧ 0 ≤ p.c ∧ p.c ≤ 1048576 ∧ okNum p.session = true ∧ okNum p.a = true ∧ okNum p.b = true := by
  unfold Ev.rng; simp only [Bool.and_eq_true, decide_eq_true_eq, and_assoc]
theorem Ev.may_iff (p : Ev) : p.may = true ↔ p.rng = true ∧ p.part = some p ∧ p.lim = true := by unfold Ev.may; simp [and_assoc]
theorem Ev.kinds {p : Ev} (h : p.part = some p) : p.kind = 0 ∨ p.kind = 1 ∨ p.kind = 2 ∨ p.kind = 3 ∨ p.kind = 4 ∨ p.kind = 5 ∨ p.kind = 6 ∨ p.kind = 7 ∨ p.kind = 8 ∨ p.kind = 9 := by
  unfold Ev.part at h
  by_cases h0 : p.kind = 0
  · exact .inl h0
  by_cases h1 : p.kind = 1
  · exact .inr (.inl h1)
  by_cases h2 : p.kind = 2
  · exact .inr (.inr (.inl h2))
  by_cases h3 : p.kind = 3
  · exact .inr (.inr (.inr (.inl h3)))
  by_cases h4 : p.kind = 4
  · exact .inr (.inr (.inr (.inr (.inl h4))))
  by_cases h5 : p.kind = 5
  · exact .inr (.inr (.inr (.inr (.inr (.inl h5)))))
  by_cases h6 : p.kind = 6
  · exact .inr (.inr (.inr (.inr (.inr (.inr (.inl h6))))))
  by_cases h7 : p.kind = 7
  · exact .inr (.inr (.inr (.inr (.inr (.inr (.inr (.inl h7)))))))
  by_cases h8 : p.kind = 8
  · exact .inr (.inr (.inr (.inr (.inr (.inr (.inr (.inr (.inl h8))))))))
  by_cases h9 : p.kind = 9
  · exact .inr (.inr (.inr (.inr (.inr (.inr (.inr (.inr (.inr h9))))))))
  rw [if_neg h0, if_neg h1, if_neg h2, if_neg h3, if_neg h4, if_neg h5, if_neg h6, if_neg h7, if_neg h8, if_neg h9] at h; cases h
end Go.Proofs.YtopkcaflmpjhgaaGreat

namespace Go.Proofs.YtopkcaflmpjhgaaGreat
open Go

/-- An address: is it busy, whose was it last, until when does it rest. -/
structure Pa where
  b : Bool
  l : Int
  u : Int
deriving DecidableEq
def Pa.none : Pa := ⟨false, 0, 0⟩
def Pa.val (a : Pa) : Value := .agg #[.bool a.b, .int .i64 a.l, .int .i64 a.u]
/-- May it be? -/
def Pa.may (a : Pa) : Bool := decide (-1 ≤ a.l) && decide (a.l < 8) && decide (0 ≤ a.u)
theorem Pa.may_iff (a : Pa) : a.may = true ↔ -1 ≤ a.l ∧ a.l < 8 ∧ 0 ≤ a.u := by simp [Pa.may, and_assoc]
def poMay (as : List Pa) : Bool := decide (1 ≤ as.length) && decide (as.length ≤ 16) && as.all Pa.may
def poUser (x : Int) : Bool := decide (0 ≤ x) && decide (x < 8)
theorem poMay_iff (as : List Pa) : poMay as = true ↔ 1 ≤ as.length ∧ as.length ≤ 16 ∧ ∀ a ∈ as, a.may = true := by simp [poMay, and_assoc]
theorem poUser_iff (x : Int) : poUser x = true ↔ 0 ≤ x ∧ x < 8 := by simp [poUser]
def Pa.free (a : Pa) (t : Int) : Bool := !a.b && decide (a.u ≤ t)
/-- How it ranks for a user. -/
def Pa.rank (a : Pa) (x : Int) : Int := if a.l = x then 0 else if a.l = -1 then 1 else 2
/-- The reference's walk: the best so far, its rank, the place. -/
def poStep (x t : Int) (s : Int × Int × Int) (a : Pa) : Int × Int × Int := if a.free t = true ∧ a.rank x < s.2.1 then (s.2.2, a.rank x, s.2.2 + 1) else (s.1, s.2.1, s.2.2 + 1)
def poWalk (x t : Int) (as : List Pa) : Int × Int × Int := as.foldl (poStep x t) (-1, 3, 0)
theorem poWalk_snoc (x t : Int) (as : List Pa) (a : Pa) : poWalk x t (as ++ [a]) = poStep x t (poWalk x t as) a := by simp [poWalk]
theorem poWalk_at (x t : Int) (as : List Pa) : (poWalk x t as).2.2 = as.length := by
  have h : ∀ (l : List Pa) (s : Int × Int × Int), (l.foldl (poStep x t) s).2.2 = s.2.2 + l.length := by
    intro l
    induction l with
    | nil => intro s; simp
    | cons a r ih =>
      intro s
      rw [List.foldl_cons, ih, List.length_cons]
      unfold poStep
      split <;> simp <;> omega
  simpa [poWalk] using h as (-1, 3, 0)
/-- The first place, from i on, where p holds. -/
def fstP (p : Pa → Bool) : List Pa → Int → Option Int
  | [], _ => Option.none
  | a :: r, i => if p a then some i else fstP p r (i + 1)
theorem fstP_snoc (p : Pa → Bool) (l : List Pa) (a : Pa) (i : Int) : fstP p (l ++ [a]) i = match fstP p l i with | some k => some k | Option.none => if p a then some (i + l.length) else Option.none := by
  induction l generalizing i with
  | nil => simp [fstP]
  | cons c r ih =>
    simp only [List.cons_append, fstP]
    split
    · rfl
    · rw [ih, List.length_cons]
      have e : i + 1 + (r.length : Int) = i + ((r.length + 1 : Nat) : Int) := by omega
      rw [e]
def poOwn (x t : Int) (a : Pa) : Bool := a.free t && decide (a.l = x)
/-- One's own first; without one the first that was nobody's; without one the first. -/
def poBest (x t : Int) (as : List Pa) : Option Int := (fstP (poOwn x t) as 0).or ((fstP (poOwn (-1) t) as 0).or (fstP (fun a => a.free t) as 0))
/-- The walk tells it, for a user that is one. -/
theorem poWalk_best (x t : Int) (hx : 0 ≤ x) (as : List Pa) : poWalk x t as = (match poBest x t as with | some k => k | Option.none => -1, if (fstP (poOwn x t) as 0).isSome then 0 else if (fstP (poOwn (-1) t) as 0).isSome then 1 else if (fstP (fun a => a.free t) as 0).isSome then 2 else 3, (as.length : Int)) := by
  have hs : ∀ l : List Pa, poWalk x t l = (match poBest x t l with | some k => k | Option.none => -1, if (fstP (poOwn x t) l 0).isSome then 0 else if (fstP (poOwn (-1) t) l 0).isSome then 1 else if (fstP (fun a => a.free t) l 0).isSome then 2 else 3, (l.length : Int)) → ∀ a : Pa, poWalk x t (l ++ [a]) = (match poBest x t (l ++ [a]) with | some k => k | Option.none => -1, if (fstP (poOwn x t) (l ++ [a]) 0).isSome then 0 else if (fstP (poOwn (-1) t) (l ++ [a]) 0).isSome then 1 else if (fstP (fun a => a.free t) (l ++ [a]) 0).isSome then 2 else 3, ((l ++ [a]).length : Int)) := by
    intro l ih a
    rw [poWalk_snoc, ih]
    unfold poBest
    rw [fstP_snoc, fstP_snoc, fstP_snoc]
    unfold poStep Pa.rank poOwn
    have hne : ¬ x = -1 := by omega
    cases hF : a.free t with
    | false => cases h1 : fstP (fun a => a.free t && decide (a.l = x)) l 0 <;> cases h2 : fstP (fun a => a.free t && decide (a.l = -1)) l 0 <;> cases h3 : fstP (fun a => a.free t) l 0 <;> simp
    | true =>
      by_cases e1 : a.l = x
      · cases h1 : fstP (fun a => a.free t && decide (a.l = x)) l 0 <;> cases h2 : fstP (fun a => a.free t && decide (a.l = -1)) l 0 <;> cases h3 : fstP (fun a => a.free t) l 0 <;> simp [e1, hne]
      · by_cases e2 : a.l = -1
        · have e3 : ¬ (-1 : Int) = x := fun c => e1 (e2.trans c)
          cases h1 : fstP (fun a => a.free t && decide (a.l = x)) l 0 <;> cases h2 : fstP (fun a => a.free t && decide (a.l = -1)) l 0 <;> cases h3 : fstP (fun a => a.free t) l 0 <;> simp [e2, e3]
        · cases h1 : fstP (fun a => a.free t && decide (a.l = x)) l 0 <;> cases h2 : fstP (fun a => a.free t && decide (a.l = -1)) l 0 <;> cases h3 : fstP (fun a => a.free t) l 0 <;> simp [e1, e2]
  have hrev : ∀ r : List Pa, poWalk x t r.reverse = (match poBest x t r.reverse with | some k => k | Option.none => -1, if (fstP (poOwn x t) r.reverse 0).isSome then 0 else if (fstP (poOwn (-1) t) r.reverse 0).isSome then 1 else if (fstP (fun a => a.free t) r.reverse 0).isSome then 2 else 3, (r.reverse.length : Int)) := by
    intro r
    induction r with
    | nil => rfl
    | cons a r ih => rw [List.reverse_cons]; exact hs _ ih a
  have := hrev as.reverse
  rwa [List.reverse_reverse] at this
theorem fstP_pos {p : Pa → Bool} {l : List Pa} {i j : Int} (h : fstP p l i = some j) : i ≤ j ∧ j < i + l.length := by
  induction l generalizing i with
  | nil => simp [fstP] at h
  | cons c r ih =>
    rw [List.length_cons]
    simp only [fstP] at h
    split at h
    · cases h; omega
    · have := ih h; omega
theorem poBest_pos {x t : Int} {as : List Pa} {j : Int} (h : poBest x t as = some j) : 0 ≤ j ∧ j < as.length := by
  unfold poBest at h
  cases h1 : fstP (poOwn x t) as 0 with
  | some k => rw [h1] at h; simp at h; subst h; have := fstP_pos h1; omega
  | none =>
    rw [h1] at h
    cases h2 : fstP (poOwn (-1) t) as 0 with
    | some k => rw [h2] at h; simp at h; subst h; have := fstP_pos h2; omega
    | none => rw [h2] at h; simp at h; have := fstP_pos h; omega
/- What each call answers. -/
def plOk (as : List Pa) (x t : Int) : Bool := poMay as && poUser x && decide (0 ≤ t) && decide (t ≤ 1048575)
def plX (as : List Pa) (x t : Int) : Int := if plOk as x t then (poBest x t as).getD 0 else 0
def plE (as : List Pa) (x t : Int) : Int := if plOk as x t then (if (poBest x t as).isSome then 0 else 1601) else 1600
def ptOk (as : List Pa) (k x : Int) : Bool := poMay as && poUser x && decide (0 ≤ k) && decide (k < as.length) && !(as.getD k.toNat .none).b
def ptL (as : List Pa) (k x : Int) : List Pa := if ptOk as k x then as.set k.toNat ⟨true, x, 0⟩ else []
def ptE (as : List Pa) (k x : Int) : Int := if ptOk as k x then 0 else 1600
def pfOk (as : List Pa) (k n : Int) : Bool := poMay as && decide (0 ≤ k) && decide (k < as.length) && (as.getD k.toNat .none).b && decide (0 ≤ n)
def pfL (as : List Pa) (k n : Int) : List Pa := if pfOk as k n then as.set k.toNat ⟨false, (as.getD k.toNat .none).l, n⟩ else []
def pfE (as : List Pa) (k n : Int) : Int := if pfOk as k n then 0 else 1600
def pnOk (n : Int) : Bool := decide (1 ≤ n) && decide (n ≤ 16)
def pnL (n : Int) : List Pa := if pnOk n then List.replicate n.toNat ⟨false, -1, 0⟩ else []
def pnE (n : Int) : Int := if pnOk n then 0 else 1600
end Go.Proofs.YtopkcaflmpjhgaaGreat

namespace Go.Proofs.YtopkcaflmpjhgaaGreat
open Go Go.RowKit

/-- May a failure be counted: the lock, the tick, the most, the lockout are some, and the lock is open. -/
def lkOk (f u t m o : Int) : Prop := (0 ≤ f ∧ f ≤ 8) ∧ (0 ≤ u ∧ u ≤ 1114111) ∧ (0 ≤ t ∧ t ≤ 1048575) ∧ (1 ≤ m ∧ m ≤ 8) ∧ (1 ≤ o ∧ o ≤ 65536) ∧ u ≤ t
instance (f u t m o : Int) : Decidable (lkOk f u t m o) := by unfold lkOk; exact inferInstance
/-- One failure more. -/
def lkC (f m : Int) : Int := if m ≤ f then 1 else f + 1
def lkE (f u t m o : Int) : Int := if lkOk f u t m o then 0 else 1300
def lkF (f u t m o : Int) : Int := if lkOk f u t m o then lkC f m else 0
def lkU (f u t m o : Int) : Int := if lkOk f u t m o then (if lkC f m = m then t + o else u) else 0
theorem lk_no {f u t m o : Int} (h : ¬ lkOk f u t m o) : lkE f u t m o = 1300 ∧ lkF f u t m o = 0 ∧ lkU f u t m o = 0 := by
  simp [lkE, lkF, lkU, h]
theorem lk_yes {f u t m o : Int} (h : lkOk f u t m o) : lkE f u t m o = 0 ∧ lkF f u t m o = lkC f m ∧ lkU f u t m o = if lkC f m = m then t + o else u := by
  simp [lkE, lkF, lkU, h]
theorem lkC_bd {f m : Int} (h0 : 0 ≤ f) (m1 : 1 ≤ m) : 1 ≤ lkC f m ∧ lkC f m ≤ m := by
  unfold lkC; split <;> omega
end Go.Proofs.YtopkcaflmpjhgaaGreat

namespace Go.Proofs.YtopkcaflmpjhgaaGreat
open Go

structure Us where
  u : Int
  k : Int
  s : Int
  q : Int
  used : Int
  lf : Int
  lu : Int
  st : Int
  g : Int
deriving DecidableEq
def Us.none : Us := ⟨0, 0, 0, 0, 0, 0, 0, 0, 0⟩
structure Se where
  s : Int
  u : Int
  a : Int
  t : Int
deriving DecidableEq
def Se.none : Se := ⟨0, 0, 0, 0⟩
structure St where
  b : Int
  e : Int
  n : Int
  us : List Us
  ss : List Se
  ad : List Pa
  sp : List Int
deriving DecidableEq
def St.none : St := ⟨0, 0, 0, [], [], [], []⟩
/-- A config. -/
structure Cf where
  sec : Int
  hal : Int
  ses : Int
  adr : Int
  fai : Int
  loc : Int
  hlf : Int
  idl : Int
  abs : Int
  qua : Int
  tlf : Int
  kee : Int
deriving DecidableEq
def cfLife (x : Int) : Bool := decide (1 ≤ x) && decide (x ≤ 65536)
def Cf.may (c : Cf) : Bool := decide (3 ≤ c.sec) && decide (c.sec ≤ 256) && decide (1 ≤ c.hal) && decide (c.hal ≤ 8) && decide (1 ≤ c.ses) && decide (c.ses ≤ 8) && decide (1 ≤ c.adr) && decide (c.adr ≤ 16) && decide (1 ≤ c.fai) && decide (c.fai ≤ 8) && cfLife c.loc && cfLife c.hlf && cfLife c.idl && cfLife c.abs && cfLife c.qua && cfLife c.tlf && decide (0 ≤ c.kee) && decide (c.kee ≤ 4)
/-- The first that is so. -/
def ixP {α : Type} (p : α → Bool) : List α → Nat → Option Nat
  | [], _ => Option.none
  | a :: r, i => if p a then some i else ixP p r (i + 1)
def usAt (us : List Us) (u : Int) : Option Nat := ixP (fun x => decide (x.u = u)) us 0
def seAt (ss : List Se) (s : Int) : Option Nat := ixP (fun x => decide (x.s = s)) ss 0
/-- A place as the calls tell it; none: -1. -/
def ixN : Option Nat → Int
  | some i => (i : Int)
  | Option.none => -1
def stSum (x y : Int) : Int := if 1073741823 - y < x then 1073741823 else x + y
/-- A boot frees what each session had. -/
def stFreeAll (t : Int) : List Se → List Pa → Option (List Pa)
  | [], ad => some ad
  | x :: r, ad => if pfOk ad x.a t then stFreeAll t r (ad.set x.a.toNat ⟨false, (ad.getD x.a.toNat .none).l, t⟩) else Option.none
/-- A user stands ahead of the first with a greater number. -/
def stAdd (u : Us) : List Us → List Us
  | [] => [u]
  | x :: r => if u.u < x.u then u :: x :: r else x :: stAdd u r
/-- An event of a user who is there. -/
def stTurn (c : Cf) (x : Us) (e : Ev) : Option Us :=
  if e.kind = 2 then (if lkOk x.lf x.lu e.tick c.fai c.loc then some { x with lf := lkF x.lf x.lu e.tick c.fai c.loc, lu := lkU x.lf x.lu e.tick c.fai c.loc } else Option.none)
  else if e.kind = 3 then (if x.st < e.a then some { x with st := e.a, lf := 0, lu := 0 } else Option.none)
  else if e.kind = 4 then some { x with lf := 0, lu := 0 }
  else if e.kind = 7 then (if 0 ≤ x.g ∧ x.g < 1073741823 then some { x with g := x.g + 1 } else Option.none)
  else some x
/-- What an event does; none: it may not come here. -/
def stEv (c : Cf) (s : St) (e : Ev) : Option St :=
  if e.kind = 0 then (if 0 ≤ s.b ∧ s.b < 1073741823 then (stFreeAll (e.tick + c.qua) s.ss s.ad).map fun ad => { s with b := s.b + 1, ss := [], ad := ad } else Option.none)
  else if e.kind = 5 then (if e.session = s.n ∧ (usAt s.us e.user).isSome ∧ (s.ss.length : Int) < c.ses ∧ ptOk s.ad e.address e.user then some { s with n := s.n + 1, ss := s.ss ++ [⟨e.session, e.user, e.address, e.tick⟩], ad := s.ad.set e.address.toNat ⟨true, e.user, 0⟩ } else Option.none)
  else if e.kind = 6 then (match seAt s.ss e.session with
    | Option.none => Option.none
    | some k => if pfOk s.ad (s.ss.getD k .none).a e.tick then some { s with
        ad := s.ad.set (s.ss.getD k .none).a.toNat ⟨false, (s.ad.getD (s.ss.getD k .none).a.toNat .none).l, e.tick⟩
        us := (match usAt s.us (s.ss.getD k .none).u with | some j => s.us.set j { s.us.getD j .none with used := stSum (s.us.getD j .none).used e.a } | Option.none => s.us)
        ss := s.ss.take k ++ s.ss.drop (k + 1) } else Option.none)
  else if e.kind = 8 then (if s.e < 1073741823 then some { s with e := s.e + 1 } else Option.none)
  else if e.kind = 9 then (if s.sp.contains e.session then Option.none else some { s with sp := s.sp ++ [e.session] })
  else if e.kind = 1 then (if (usAt s.us e.user).isSome then Option.none else some { s with us := stAdd ⟨e.user, e.a, e.b, e.c, 0, 0, 0, 0, 0⟩ s.us })
  else (match usAt s.us e.user with
    | Option.none => Option.none
    | some k => (stTurn c (s.us.getD k .none) e).map fun x => { s with us := s.us.set k x })
/-- Apply. -/
def stOk (c : Cf) (s : St) (e : Ev) : Bool := c.may && e.may && decide ((s.ad.length : Int) = c.adr)
def stAE (c : Cf) (s : St) (e : Ev) : Int := if stOk c s e then (if (stEv c s e).isSome then 0 else 2001) else 2000
def stAS (c : Cf) (s : St) (e : Ev) : St := if stOk c s e then (stEv c s e).getD .none else .none
/-- New. -/
def snE (n : Int) : Int := if pnOk n then 0 else 2000
def snS (n : Int) : St := { St.none with ad := pnL n }
/-- All. -/
def stRun (c : Cf) : List Ev → St → Int × St
  | [], s => (0, s)
  | e :: r, s => if stAE c s e = 0 then stRun c r (stAS c s e) else (stAE c s e, .none)
def saE (c : Cf) (es : List Ev) : Int := if pnOk c.adr then (stRun c es (snS c.adr)).1 else 2000
def saS (c : Cf) (es : List Ev) : St := if pnOk c.adr then (stRun c es (snS c.adr)).2 else .none
theorem ixP_pos {α : Type} {p : α → Bool} {l : List α} {i j : Nat} (h : ixP p l i = some j) : i ≤ j ∧ j - i < l.length := by
  induction l generalizing i with
  | nil => cases h
  | cons a r ih =>
    simp only [ixP] at h
    by_cases c : p a = true
    · rw [if_pos c] at h
      obtain rfl : i = j := by simpa using h
      simp
    · rw [if_neg c] at h
      obtain ⟨h1, h2⟩ := ih h
      simp only [List.length_cons]
      omega
theorem ixP_snoc {α : Type} (p : α → Bool) (l : List α) (a : α) (i : Nat) : ixP p (l ++ [a]) i = match ixP p l i with | some k => some k | Option.none => if p a then some (i + l.length) else Option.none := by
  induction l generalizing i with
  | nil => simp [ixP]
  | cons b r ih =>
    simp only [List.cons_append, ixP]
    by_cases c : p b = true
    · rw [if_pos c, if_pos c]
    · rw [if_neg c, if_neg c, ih]
      cases ixP p r (i + 1) with
      | some k => rfl
      | none => simp only [List.length_cons]; rw [show i + 1 + r.length = i + (r.length + 1) by omega]
/-- None among the first k: with the next one. -/
theorem ixP_take {α : Type} {p : α → Bool} {l : List α} {k : Nat} (hk : k < l.length) {z : α} (h : ixP p (l.take k) 0 = Option.none) : ixP p (l.take (k + 1)) 0 = if p (l.getD k z) then some k else Option.none := by
  have e : l.getD k z = l[k] := by simp [List.getD, hk]
  rw [List.take_succ_eq_append_getElem hk, ixP_snoc, h, e, List.length_take, Nat.min_eq_left (by omega), Nat.zero_add]
theorem ixP_hit {α : Type} {p : α → Bool} {l : List α} {k : Nat} (hk : k < l.length) {z : α} (h : ixP p (l.take k) 0 = Option.none) (hp : p (l.getD k z) = true) : ixP p l 0 = some k := by
  have key : ∀ (m : List α), ixP p (l.take (k + 1) ++ m) 0 = some k := by
    intro m
    have h1 := ixP_take hk (z := z) h
    rw [if_pos hp] at h1
    generalize l.take (k + 1) = q at h1
    have : ∀ (q : List α) (i : Nat), ixP p q i = some k → ixP p (q ++ m) i = some k := by
      intro q
      induction q with
      | nil => intro i hi; cases hi
      | cons b r ih =>
        intro i hi
        simp only [List.cons_append, ixP] at hi ⊢
        by_cases c : p b = true
        · rwa [if_pos c] at hi ⊢
        · rw [if_neg c] at hi ⊢; exact ih _ hi
    exact this q 0 h1
  have := key (l.drop (k + 1))
  rwa [List.take_append_drop] at this
theorem stAdd_len (u : Us) (l : List Us) : (stAdd u l).length = l.length + 1 := by
  induction l with
  | nil => rfl
  | cons x r ih =>
    simp only [stAdd]
    split
    · rfl
    · simp [ih]
end Go.Proofs.YtopkcaflmpjhgaaGreat

