/- Plain mathematics: a number or a text that lies within bytes is read back there; one that is cut is not. -/
import Derived.Test.YtmllcbhoioajgaaDoorFreftext
namespace Go.Proofs.YtmllcbhoioajgaaDoor

theorem numL_shape (z : Int) (h0 : 0 ≤ z) (h1 : z ≤ 1073741823) : ∃ (n : Nat) (bs : List Int), numL z = (n : Int) :: bs ∧ bs.length = n ∧ n ≤ 4 ∧ valL (bytesOf bs) = z ∧ (0 < n → ((bytesOf bs).headD 0).toNat ≠ 0) := by
  unfold numL
  by_cases a : z = 0
  · rw [if_pos a]; exact ⟨0, [], rfl, rfl, by omega, by simp [bytesOf, valL, a], fun h => absurd h (by omega)⟩
  rw [if_neg a]
  by_cases b : z < 256
  · rw [if_pos b]; refine ⟨1, [z], rfl, rfl, by omega, ?_, fun _ => ?_⟩ <;> simp [bytesOf, valL] <;> omega
  rw [if_neg b]
  by_cases c : z < 65536
  · rw [if_pos c]; refine ⟨2, [z / 256, z % 256], rfl, rfl, by omega, ?_, fun _ => ?_⟩ <;> simp [bytesOf, valL] <;> omega
  rw [if_neg c]
  by_cases d : z < 16777216
  · rw [if_pos d]; refine ⟨3, [z / 65536, z / 256 % 256, z % 256], rfl, rfl, by omega, ?_, fun _ => ?_⟩ <;> simp [bytesOf, valL] <;> omega
  rw [if_neg d]
  refine ⟨4, [z / 16777216, z / 65536 % 256, z / 256 % 256, z % 256], rfl, rfl, by omega, ?_, fun _ => ?_⟩ <;> simp [bytesOf, valL] <;> omega

theorem data_app (a b : ByteArray) : (a ++ b).data.toList = a.data.toList ++ b.data.toList := by rw [ByteArray.data_append, Array.toList_append]
theorem sz (a : ByteArray) : a.data.toList.length = a.size := (Lib.size_eq a).symm
theorem gb_at (s : ByteArray) (P L : List UInt8) (h : s.data.toList = P ++ L) (j : Nat) : gb s (P.length + j) = (L.getD j 0).toNat := by
  unfold gb; rw [h, List.getD_eq_getElem?_getD, List.getElem?_append_right (by omega), List.getD_eq_getElem?_getD]
  congr 3; omega
theorem piece_at (s : ByteArray) (P L : List UInt8) (h : s.data.toList = P ++ L) (j n : Nat) : piece s (P.length + j) (P.length + j + n) = (L.drop j).take n := by
  unfold piece; rw [h, show P.length + j + n - (P.length + j) = n by omega]
  congr 1
  rw [List.drop_append, List.drop_of_length_le (by omega), List.nil_append]
  congr 1; omega

theorem get_at (P R : ByteArray) (z : Int) (h0 : 0 ≤ z) (h1 : z ≤ 1073741823) :
    getE ((P ++ numS z) ++ R) P.size = 0 ∧ getX ((P ++ numS z) ++ R) P.size = z ∧ getTo ((P ++ numS z) ++ R) P.size = ((P.size + (numS z).size : Nat) : Int) := by
  obtain ⟨n, bs, e1, e2, e3, e4, e5⟩ := numL_shape z h0 h1
  have hL : ((P ++ numS z) ++ R).data.toList = P.data.toList ++ (UInt8.ofNat n :: (bytesOf bs ++ R.data.toList)) := by
    rw [data_app, data_app, numS_ok h0 h1, numB_data, e1]
    simp [bytesOf]
  have hsz : (numS z).size = n + 1 := by rw [numS_ok h0 h1, numB_size, e1, List.length_cons, e2]
  have hbl : (bytesOf bs).length = n := by rw [bytesOf, List.length_map, e2]
  have hS : ((P ++ numS z) ++ R).size = P.size + (n + 1) + R.size := by rw [ByteArray.size_append, ByteArray.size_append, hsz]
  generalize (P ++ numS z) ++ R = s at *
  have hg0 : gb s P.size = n := by
    have := gb_at s P.data.toList _ hL 0
    rw [sz, Nat.add_zero] at this
    rw [this]; simp; omega
  have hp : piece s (P.size + 1) (P.size + 1 + gb s P.size) = bytesOf bs := by
    have := piece_at s P.data.toList _ hL 1 n
    rw [sz] at this
    rw [hg0, this, List.drop_succ_cons, List.drop_zero, List.take_append_of_le_length (by omega), List.take_of_length_le (by omega)]
  have hE : getE s (P.size : Int) = 0 := by
    refine getE_ok (k := P.size) (by omega) (by omega) (by omega) ?_
    rw [hp, e4]
    rintro (⟨ha, hb⟩ | hb)
    · rw [hg0] at ha
      have := gb_at s P.data.toList _ hL 1
      rw [sz] at this
      rw [this] at hb
      have h5 := e5 ha
      cases hbs : bytesOf bs with
      | nil => rw [hbs] at hbl; simp at hbl; omega
      | cons c r =>
        rw [hbs] at hb h5
        simp at hb h5
        omega
    · omega
  exact ⟨hE, by rw [getX_ok hE, hp, e4], by rw [getTo_ok hE, hg0, hsz]; congr 1; omega⟩

theorem textS_ok {t : ByteArray} (h : t.size ≤ 65536) : textS t = numS t.size ++ t := by rw [textS, if_pos h, numS_ok (by omega) (by omega)]
theorem extract_mid (A t R : ByteArray) : ((A ++ t) ++ R).extract A.size (A.size + t.size) = t := by
  rw [extract_piece]
  have h : ((A ++ t) ++ R).data.toList = A.data.toList ++ (t.data.toList ++ R.data.toList) := by rw [data_app, data_app, List.append_assoc]
  have := piece_at _ A.data.toList _ h 0 t.size
  rw [sz, Nat.add_zero] at this
  rw [this, List.drop_zero, List.take_append_of_le_length (by rw [sz]; omega), List.take_of_length_le (by rw [sz]; omega)]
theorem txt_at (P R t : ByteArray) (h : t.size ≤ 65536) :
    txtE ((P ++ textS t) ++ R) P.size = 0 ∧ txtS ((P ++ textS t) ++ R) P.size = t ∧ txtTo ((P ++ textS t) ++ R) P.size = ((P.size + (textS t).size : Nat) : Int) := by
  have e : (P ++ textS t) ++ R = (P ++ numS t.size) ++ (t ++ R) := by rw [textS_ok h, ba_assoc, ba_assoc, ba_assoc]
  obtain ⟨g1, g2, g3⟩ := get_at P (t ++ R) t.size (by omega) (by omega)
  have hs : (textS t).size = (numS t.size).size + t.size := by rw [textS_ok h, ByteArray.size_append]
  have hS : ((P ++ numS t.size) ++ (t ++ R)).size = P.size + (numS t.size).size + (t.size + R.size) := by rw [ByteArray.size_append, ByteArray.size_append, ByteArray.size_append]
  rw [e]
  have hE := txtE_ok g1 (by rw [g2]; omega) (by rw [g2, g3]; omega)
  refine ⟨hE, ?_, ?_⟩
  · rw [txtS_ok hE, g2, g3]
    have := extract_mid (P ++ numS t.size) t R
    rw [ba_assoc, ByteArray.size_append] at this
    have e1 : (((P.size + (numS t.size).size : Nat) : Int)).toNat = P.size + (numS t.size).size := Int.toNat_natCast _
    have e2 : (((P.size + (numS t.size).size : Nat) : Int) + (t.size : Int)).toNat = P.size + (numS t.size).size + t.size := by omega
    rw [e1, e2]
    exact this
  · rw [txtTo_ok hE, g2, g3, hs]; omega
theorem extract_all (a : ByteArray) (n : Nat) (h : a.size ≤ n) : a.extract 0 n = a := by
  rw [extract_piece]
  apply ByteArray.ext
  unfold piece
  rw [List.drop_zero, List.take_of_length_le (by rw [sz]; omega)]
theorem extract_app (a b : ByteArray) (n : Nat) (h : a.size ≤ n) : (a ++ b).extract 0 n = a ++ b.extract 0 (n - a.size) := by
  rw [extract_piece, extract_piece]
  apply ByteArray.ext
  rw [ByteArray.data_append]
  simp only [piece, data_app, List.drop_zero, Nat.sub_zero]
  rw [List.take_append, List.take_of_length_le (by rw [sz]; omega), sz]
  simp
theorem num0 : numS ((0 : Nat) : Int) ++ (⟨#[]⟩ : ByteArray) = ⟨#[0]⟩ := by kernel_rfl
theorem ex00 : (⟨#[0]⟩ : ByteArray).extract 0 0 = ⟨#[]⟩ := by kernel_rfl
theorem txt_cut (P t : ByteArray) (h : t.size ≤ 65536) : txtE ((P ++ textS t).extract 0 ((P ++ textS t).size - 1)) P.size = 101 := by
  have hs : (textS t).size = (numS t.size).size + t.size := by rw [textS_ok h, ByteArray.size_append]
  have hn : 1 ≤ (numS t.size).size := by rw [numS_ok (by omega) (by omega), numB_size]; exact (numL_len _).1
  rw [ByteArray.size_append]
  by_cases h0 : t.size = 0
  · have ht : textS t = ⟨#[0]⟩ := by
      rw [textS_ok h, h0]
      have : t = ⟨#[]⟩ := by
        apply ByteArray.ext
        exact Array.eq_empty_of_size_eq_zero h0
      rw [this]
      exact num0
    have hz : (⟨#[0]⟩ : ByteArray).size = 1 := rfl
    rw [ht, hz, extract_app _ _ _ (by omega), show P.size + 1 - 1 - P.size = 0 by omega]
    rw [ex00, ba_nil]
    have hE : getE P P.size = 101 := getE_end rfl
    rw [txtE_get (by rw [hE]; decide), hE]
  · have e : (P ++ textS t).extract 0 (P.size + (textS t).size - 1) = (P ++ numS t.size) ++ t.extract 0 (t.size - 1) := by
      rw [textS_ok h, ← ba_assoc, extract_app _ _ _ (by rw [ByteArray.size_append, ByteArray.size_append]; omega)]
      congr 1
      rw [ByteArray.size_append, ByteArray.size_append]
      congr 1; omega
    rw [e]
    obtain ⟨g1, g2, g3⟩ := get_at P (t.extract 0 (t.size - 1)) t.size (by omega) (by omega)
    have hS : ((P ++ numS t.size) ++ t.extract 0 (t.size - 1)).size = P.size + (numS t.size).size + (t.size - 1) := by
      rw [ByteArray.size_append, ByteArray.size_append, ByteArray.size_extract]; omega
    exact txtE_cut g1 (by rw [g2]; omega) (by rw [g2, g3, hS]; omega)

/-- Numbers and texts in turn, the first k of them. -/
def zAt (zs : List Int) (i : Nat) : Int := zs.getD i 0 % 1073741824
def encB (zs : List Int) (ts : List ByteArray) : Nat → ByteArray
  | 0 => ⟨#[]⟩
  | k + 1 => (encB zs ts k ++ numS (zAt zs k)) ++ textS (ts.getD k ByteArray.empty)
theorem encB_pre (zs : List Int) (ts : List ByteArray) (m k : Nat) (h : m ≤ k) : ∃ R, encB zs ts k = encB zs ts m ++ R := by
  induction k with
  | zero => obtain rfl : m = 0 := by omega
            exact ⟨⟨#[]⟩, (ba_nil _).symm⟩
  | succ k ih =>
    by_cases hm : m = k + 1
    · subst hm; exact ⟨⟨#[]⟩, (ba_nil _).symm⟩
    · obtain ⟨R, e⟩ := ih (by omega)
      exact ⟨R ++ numS (zAt zs k) ++ textS (ts.getD k ByteArray.empty), by rw [encB, e]; simp only [ba_assoc]⟩
theorem zAt_bd (zs : List Int) (i : Nat) : 0 ≤ zAt zs i ∧ zAt zs i ≤ 1073741823 := by unfold zAt; omega
end Go.Proofs.YtmllcbhoioajgaaDoor
