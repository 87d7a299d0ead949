/- Plain mathematics: a text that lies within bytes is read back there; what is read is written as it stood. No program is named. -/
import Derived.Test.YtodngcpphnmphaaDoorFback
namespace Go.Proofs.YtodngcpphnmphaaDoor
open Go

theorem textS_ok {t : ByteArray} (h : t.size ≤ 65536) : textS t = numS t.size ++ t := by rw [textS, if_pos h, numS_ok (by omega) (by omega)]
theorem extract_mid (A t R : ByteArray) : ((A ++ t) ++ R).extract A.size (A.size + t.size) = t := by
  rw [extract_piece]
  have h : ((A ++ t) ++ R).data.toList = A.data.toList ++ (t.data.toList ++ R.data.toList) := by rw [data_app, data_app, List.append_assoc]
  have := piece_at _ A.data.toList _ h 0 t.size
  rw [sz, Nat.add_zero] at this
  rw [this, List.drop_zero, List.take_append_of_le_length (by rw [sz]; omega), List.take_of_length_le (by rw [sz]; omega)]
theorem txt_at (P R t : ByteArray) (h : t.size ≤ 65536) :
    txtE ((P ++ textS t) ++ R) P.size = 0 ∧ txtS ((P ++ textS t) ++ R) P.size = t ∧ txtTo ((P ++ textS t) ++ R) P.size = ((P.size + (textS t).size : Nat) : Int) := by
  have e : (P ++ textS t) ++ R = (P ++ numS t.size) ++ (t ++ R) := by rw [textS_ok h, ba_assoc, ba_assoc, ba_assoc]
  obtain ⟨g1, g2, g3⟩ := get_at P (t ++ R) t.size (by omega) (by omega)
  have hs : (textS t).size = (numS t.size).size + t.size := by rw [textS_ok h, ByteArray.size_append]
  have hS : ((P ++ numS t.size) ++ (t ++ R)).size = P.size + (numS t.size).size + (t.size + R.size) := by rw [ByteArray.size_append, ByteArray.size_append, ByteArray.size_append]
  rw [e]
  have hE := txtE_ok g1 (by rw [g2]; omega) (by rw [g2, g3]; omega)
  refine ⟨hE, ?_, ?_⟩
  · rw [txtS_ok hE, g2, g3]
    have := extract_mid (P ++ numS t.size) t R
    rw [ba_assoc, ByteArray.size_append] at this
    have e1 : (((P.size + (numS t.size).size : Nat) : Int)).toNat = P.size + (numS t.size).size := Int.toNat_natCast _
    have e2 : (((P.size + (numS t.size).size : Nat) : Int) + (t.size : Int)).toNat = P.size + (numS t.size).size + t.size := by omega
    rw [e1, e2]
    exact this
  · rw [txtTo_ok hE, g2, g3, hs]; omega
theorem extract_all (a : ByteArray) (n : Nat) (h : a.size ≤ n) : a.extract 0 n = a := by
  rw [extract_piece]
  apply ByteArray.ext
  unfold piece
  rw [List.drop_zero, List.take_of_length_le (by rw [sz]; omega)]
theorem extract_app (a b : ByteArray) (n : Nat) (h : a.size ≤ n) : (a ++ b).extract 0 n = a ++ b.extract 0 (n - a.size) := by
  rw [extract_piece, extract_piece]
  apply ByteArray.ext
  rw [ByteArray.data_append]
  simp only [piece, data_app, List.drop_zero, Nat.sub_zero]
  rw [List.take_append, List.take_of_length_le (by rw [sz]; omega), sz]
  simp

theorem numL_val : ∀ l : List UInt8, l.length ≤ 4 → (0 < l.length → l.headD 0 ≠ 0) → valL l ≤ 1073741823 → numL (valL l) = (l.length : Int) :: l.map fun b => (b.toNat : Int) := by
  intro l h4 h0 hv
  match l, h4 with
  | [], _ => rfl
  | [a], _ =>
    have ha := a.toNat_lt
    have h1 : a.toNat ≠ 0 := fun e => h0 (by simp) (UInt8.toNat_inj.1 (by simpa using e))
    have e : valL [a] = a.toNat := by simp [valL]
    rw [e]; unfold numL
    rw [if_neg (by omega), if_pos (by omega)]; rfl
  | [a, b], _ =>
    have ha := a.toNat_lt
    have hb := b.toNat_lt
    have h1 : a.toNat ≠ 0 := fun e => h0 (by simp) (UInt8.toNat_inj.1 (by simpa using e))
    have e : valL [a, b] = a.toNat * 256 + b.toNat := by simp [valL]
    rw [e]; unfold numL
    rw [if_neg (by omega), if_neg (by omega), if_pos (by omega)]
    simp; omega
  | [a, b, c], _ =>
    have ha := a.toNat_lt
    have hb := b.toNat_lt
    have hc := c.toNat_lt
    have h1 : a.toNat ≠ 0 := fun e => h0 (by simp) (UInt8.toNat_inj.1 (by simpa using e))
    have e : valL [a, b, c] = (a.toNat * 256 + b.toNat) * 256 + c.toNat := by simp [valL]
    rw [e]; unfold numL
    rw [if_neg (by omega), if_neg (by omega), if_neg (by omega), if_pos (by omega)]
    simp; omega
  | [a, b, c, d], _ =>
    have ha := a.toNat_lt
    have hb := b.toNat_lt
    have hc := c.toNat_lt
    have hd := d.toNat_lt
    have h1 : a.toNat ≠ 0 := fun e => h0 (by simp) (UInt8.toNat_inj.1 (by simpa using e))
    have e : valL [a, b, c, d] = ((a.toNat * 256 + b.toNat) * 256 + c.toNat) * 256 + d.toNat := by simp [valL]
    rw [e]; unfold numL
    rw [if_neg (by omega), if_neg (by omega), if_neg (by omega), if_neg (by omega)]
    simp; omega
theorem bytes_back (l : List UInt8) : bytesOf (l.map fun b => (b.toNat : Int)) = l := by
  induction l with
  | nil => rfl
  | cons a l ih =>
    simp only [List.map_cons, bytesOf] at ih ⊢
    rw [ih]; congr 1
    rw [Int.toNat_natCast]; exact UInt8.ofNat_toNat
theorem num_back {s : ByteArray} {a : Int} (h : getE s a = 0) : s.extract a.toNat (getTo s a).toNat = numS (getX s a) := by
  obtain ⟨k, rfl, hk, h4, hc, hz, hm⟩ := get_ok h
  have hX := getX_ok h
  have hT := getTo_ok h
  have hpl := piece_len s (k + 1) (k + 1 + gb s k) hc
  have hpl' : (piece s (k + 1) (k + 1 + gb s k)).length = gb s k := by omega
  have hhead : 0 < (piece s (k + 1) (k + 1 + gb s k)).length → (piece s (k + 1) (k + 1 + gb s k)).headD 0 ≠ 0 := by
    intro h0 e
    refine hz ⟨by omega, ?_⟩
    unfold gb
    have h1 : (piece s (k + 1) (k + 1 + gb s k)).headD 0 = s.data.toList.getD (k + 1) 0 := by
      unfold piece
      have h2 : k + 1 < s.data.toList.length := by rw [← Lib.size_eq]; omega
      rw [List.drop_eq_getElem_cons h2]
      obtain ⟨g, hg⟩ : ∃ g, k + 1 + gb s k - (k + 1) = g + 1 := ⟨gb s k - 1, by omega⟩
      rw [hg, List.take_succ_cons]
      simp [List.getD, List.getElem?_eq_getElem h2]
    rw [← h1, e]; rfl
  have hnum := numL_val _ (by omega) hhead hm
  have hp : piece s k (k + 1 + gb s k) = UInt8.ofNat (gb s k) :: piece s (k + 1) (k + 1 + gb s k) := by
    unfold piece
    have h2 : k < s.data.toList.length := by rw [← Lib.size_eq]; omega
    rw [List.drop_eq_getElem_cons h2, show k + 1 + gb s k - k = gb s k + 1 by omega, List.take_succ_cons, show k + 1 + gb s k - (k + 1) = gb s k by omega]
    congr 1
    unfold gb
    rw [UInt8.ofNat_toNat]
    simp [List.getD, List.getElem?_eq_getElem h2]
  rw [hX, hT, numS_ok (valL_bd _).1 hm, numB, hnum, hpl', extract_piece, Int.toNat_natCast, Int.toNat_natCast, hp]
  congr 2
  show _ = UInt8.ofNat ((gb s k : Int).toNat) :: bytesOf _
  rw [bytes_back, Int.toNat_natCast]
theorem txt_back {s : ByteArray} {a : Nat} (h : txtE s a = 0) : ∃ m : Nat, txtTo s a = m ∧ a ≤ m ∧ m ≤ s.size ∧ (txtS s a).size ≤ 65536 ∧ s.extract a m = textS (txtS s a) := by
  have hE : getE s a = 0 := by
    by_cases c : getE s a = 0
    · exact c
    · rw [txtE_get c] at h; exact absurd h c
  obtain ⟨b0, b1, b2, b3, b4⟩ := get_bd hE
  have h1 : ¬ 65536 < getX s a := fun c => by rw [txtE_big hE c] at h; omega
  have h2 : ¬ (s.size : Int) - getTo s a < getX s a := fun c => by rw [txtE_cut hE h1 c] at h; omega
  have hnb := num_back hE
  have hS := txtS_ok h
  have hT := txtTo_ok h
  obtain ⟨x, hx⟩ : ∃ x : Nat, getX s a = x := ⟨(getX s a).toNat, by omega⟩
  obtain ⟨t, ht⟩ : ∃ t : Nat, getTo s a = t := ⟨(getTo s a).toNat, by omega⟩
  rw [hx, ht] at hS hT
  rw [ht, hx] at hnb
  rw [hx] at h1 h2
  rw [ht] at h2 b3 b4
  have e1 : ((t : Int) + (x : Int)).toNat = t + x := by omega
  rw [Int.toNat_natCast, e1] at hS
  rw [Int.toNat_natCast, Int.toNat_natCast] at hnb
  have hsz : (txtS s a).size = x := by rw [hS, ByteArray.size_extract]; omega
  refine ⟨t + x, by rw [hT]; omega, by omega, by omega, by omega, ?_⟩
  rw [textS_ok (by omega), hsz, ← hnb, hS]
  apply ByteArray.ext
  apply Array.toList_inj.1
  rw [data_app, Lib.extract_eq, Lib.extract_eq, Lib.extract_eq]
  show (s.data.toList.drop a).take (t + x - a) = (s.data.toList.drop a).take (t - a) ++ (s.data.toList.drop t).take (t + x - t)
  rw [show t + x - a = (t - a) + x by omega, show t + x - t = x by omega, List.take_add, List.drop_drop, show a + (t - a) = t by omega]
end Go.Proofs.YtodngcpphnmphaaDoor
