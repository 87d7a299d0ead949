/- Plain mathematics: a number that lies within bytes is read back there. -/
import Derived.Test.YtcfibjfhmfdmkaaFplain2
import Derived.Test.YtcfibjfhmfdmkaaRnums
namespace Go.Proofs.Ytcfibjfhmfdmkaa

theorem numL_shape (z : Int) (h0 : 0 ≤ z) (h1 : z ≤ 1073741823) : ∃ (n : Nat) (bs : List Int), numL z = (n : Int) :: bs ∧ bs.length = n ∧ n ≤ 4 ∧ valL (bytesOf bs) = z ∧ (0 < n → ((bytesOf bs).headD 0).toNat ≠ 0) := by
  unfold numL
  by_cases a : z = 0
  · rw [if_pos a]; exact ⟨0, [], rfl, rfl, by omega, by simp [bytesOf, valL, a], fun h => absurd h (by omega)⟩
  rw [if_neg a]
  by_cases b : z < 256
  · rw [if_pos b]; refine ⟨1, [z], rfl, rfl, by omega, ?_, fun _ => ?_⟩ <;> simp [bytesOf, valL] <;> omega
  rw [if_neg b]
  by_cases c : z < 65536
  · rw [if_pos c]; refine ⟨2, [z / 256, z % 256], rfl, rfl, by omega, ?_, fun _ => ?_⟩ <;> simp [bytesOf, valL] <;> omega
  rw [if_neg c]
  by_cases d : z < 16777216
  · rw [if_pos d]; refine ⟨3, [z / 65536, z / 256 % 256, z % 256], rfl, rfl, by omega, ?_, fun _ => ?_⟩ <;> simp [bytesOf, valL] <;> omega
  rw [if_neg d]
  refine ⟨4, [z / 16777216, z / 65536 % 256, z / 256 % 256, z % 256], rfl, rfl, by omega, ?_, fun _ => ?_⟩ <;> simp [bytesOf, valL] <;> omega

theorem data_app (a b : ByteArray) : (a ++ b).data.toList = a.data.toList ++ b.data.toList := by rw [ByteArray.data_append, Array.toList_append]
theorem sz (a : ByteArray) : a.data.toList.length = a.size := (Lib.size_eq a).symm
theorem gb_at (s : ByteArray) (P L : List UInt8) (h : s.data.toList = P ++ L) (j : Nat) : gb s (P.length + j) = (L.getD j 0).toNat := by
  unfold gb; rw [h, List.getD_eq_getElem?_getD, List.getElem?_append_right (by omega), List.getD_eq_getElem?_getD]
  congr 3; omega
theorem piece_at (s : ByteArray) (P L : List UInt8) (h : s.data.toList = P ++ L) (j n : Nat) : piece s (P.length + j) (P.length + j + n) = (L.drop j).take n := by
  unfold piece; rw [h, show P.length + j + n - (P.length + j) = n by omega]
  congr 1
  rw [List.drop_append, List.drop_of_length_le (by omega), List.nil_append]
  congr 1; omega

theorem get_at (P R : ByteArray) (z : Int) (h0 : 0 ≤ z) (h1 : z ≤ 1073741823) :
    getE ((P ++ numS z) ++ R) P.size = 0 ∧ getX ((P ++ numS z) ++ R) P.size = z ∧ getTo ((P ++ numS z) ++ R) P.size = ((P.size + (numS z).size : Nat) : Int) := by
  obtain ⟨n, bs, e1, e2, e3, e4, e5⟩ := numL_shape z h0 h1
  have hL : ((P ++ numS z) ++ R).data.toList = P.data.toList ++ (UInt8.ofNat n :: (bytesOf bs ++ R.data.toList)) := by
    rw [data_app, data_app, numS_ok h0 h1, numB_data, e1]
    simp [bytesOf]
  have hsz : (numS z).size = n + 1 := by rw [numS_ok h0 h1, numB_size, e1, List.length_cons, e2]
  have hbl : (bytesOf bs).length = n := by rw [bytesOf, List.length_map, e2]
  have hS : ((P ++ numS z) ++ R).size = P.size + (n + 1) + R.size := by rw [ByteArray.size_append, ByteArray.size_append, hsz]
  generalize (P ++ numS z) ++ R = s at *
  have hg0 : gb s P.size = n := by
    have := gb_at s P.data.toList _ hL 0
    rw [sz, Nat.add_zero] at this
    rw [this]; simp; omega
  have hp : piece s (P.size + 1) (P.size + 1 + gb s P.size) = bytesOf bs := by
    have := piece_at s P.data.toList _ hL 1 n
    rw [sz] at this
    rw [hg0, this, List.drop_succ_cons, List.drop_zero, List.take_append_of_le_length (by omega), List.take_of_length_le (by omega)]
  have hE : getE s (P.size : Int) = 0 := by
    refine getE_ok (k := P.size) (by omega) (by omega) (by omega) ?_
    rw [hp, e4]
    rintro (⟨ha, hb⟩ | hb)
    · rw [hg0] at ha
      have := gb_at s P.data.toList _ hL 1
      rw [sz] at this
      rw [this] at hb
      have h5 := e5 ha
      cases hbs : bytesOf bs with
      | nil => rw [hbs] at hbl; simp at hbl; omega
      | cons c r =>
        rw [hbs] at hb h5
        simp at hb h5
        omega
    · omega
  exact ⟨hE, by rw [getX_ok hE, hp, e4], by rw [getTo_ok hE, hg0, hsz]; congr 1; omega⟩

end Go.Proofs.Ytcfibjfhmfdmkaa
