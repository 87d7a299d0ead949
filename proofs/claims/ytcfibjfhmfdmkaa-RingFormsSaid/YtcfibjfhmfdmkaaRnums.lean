/- The reference's Nums answers its numbers' bytes, one behind the other. No condition. -/
import Derived.Test.YtcfibjfhmfdmkaaFrefnum
namespace Go.Proofs.Ytcfibjfhmfdmkaa
open Go.RowKit

/-- Numbers one behind the other. -/
def numsB : List Int → ByteArray
  | [] => ⟨#[]⟩
  | x :: r => numS x ++ numsB r
theorem ba_nil (a : ByteArray) : a ++ (⟨#[]⟩ : ByteArray) = a := by apply ByteArray.ext; simp [ByteArray.data_append]
theorem nil_ba (a : ByteArray) : (⟨#[]⟩ : ByteArray) ++ a = a := by apply ByteArray.ext; simp [ByteArray.data_append]
theorem ba_assoc (a b c : ByteArray) : (a ++ b) ++ c = a ++ (b ++ c) := by apply ByteArray.ext; simp [ByteArray.data_append]
theorem numsB_snoc (l : List Int) (x : Int) : numsB (l ++ [x]) = numsB l ++ numS x := by
  induction l with
  | nil => simp only [List.nil_append, numsB]; rw [nil_ba, ba_nil]
  | cons y l ih => simp only [List.cons_append, numsB]; rw [ih, ba_assoc]
theorem numB_size (x : Int) : (numB x).size = (numL x).length := by rw [numB, Lib.size_eq]; simp [bytesOf]
theorem numS_size (x : Int) : (numS x).size ≤ 5 := by
  unfold numS
  split
  · rw [numB_size]; exact (numL_len x).2
  · exact Nat.zero_le _
theorem numsB_size (l : List Int) : (numsB l).size ≤ 5 * l.length := by
  induction l with
  | nil => simp [numsB, ByteArray.size]
  | cons x l ih => have := numS_size x; rw [numsB, ByteArray.size_append, List.length_cons]; omega
theorem numsB_take (l : List Int) (k : Nat) (h : k < l.length) : numsB (l.take (k + 1)) = numsB (l.take k) ++ numS (l.getD k 0) := by
  rw [List.take_succ_eq_append_getElem h, numsB_snoc, List.getD_eq_getElem?_getD, List.getElem?_eq_getElem h]; rfl

theorem ret_str {a b : ByteArray} (h : a = b) : Ending.returned (.string a) = .returned (.string b) := by rw [h]
set_option maxRecDepth 100000 in
set_option maxHeartbeats 4000000 in
/-- The reference's Nums. -/
theorem rnums (zs : List Int) (b n : Nat) (w : World) (hn : zs.length = n) (hl : n ≤ 1000) (hc : ∀ j, j < n → w.cell? ⟨b, j, none⟩ = some (.int .i64 (zs.getD j 0)))
    (hz : ∀ j, j < n → -9223372036854775808 ≤ zs.getD j 0 ∧ zs.getD j 0 ≤ 9223372036854775807) (hb : b < w.heap.size) :
    Calls Try.prog 21 #[.slice (some ⟨b, 0, none⟩) n n] w fun e w' => e = .returned (.string (numsB zs)) ∧ Below w.heap.size w w' := by
  have HN := Lib.hid hn
  have HC := Lib.hid hc
  have HZ := Lib.hid hz
  clear hc hz hn
  go_enter Try.func21, Try.ntmps21
  go_wp2
  go_loopw [3, 4] (fun s i wr => ∃ k : Nat, k ≤ n ∧ i = .int .i64 k ∧ s = .string (numsB (zs.take k)) ∧ Below w.heap.size w wr) (fun _ i _ => n - (intOf i).toNat)
  case atStart => exact ⟨0, Nat.zero_le _, rfl, rfl, Below.refl _ _⟩
  case round =>
    obtain ⟨k, hk, rfl, rfl, hbel⟩ := hrel
    have hs1 := numsB_size (zs.take k)
    have hs2 := numS_size (zs.getD k 0)
    have hs3 : (numsB (zs.take k)).size ≤ 5000 := by rw [List.length_take, HN.out] at hs1; omega
    clear hs1
    by_cases hlt : k < n
    · have hcell := (hbel.cell (p := ⟨b, k, none⟩) hb).trans (HC.out k hlt)
      obtain ⟨hz0, hz1⟩ := HZ.out k hlt
      have HT := Lib.hid (numsB_take zs k (by rw [HN.out]; exact hlt))
      obtain ⟨x, hx⟩ : ∃ x, zs.getD k 0 = x := ⟨_, rfl⟩
      rw [hx] at hcell hz0 hz1 HT hs2
      clear hx
      go_wp2_with (go_at_call 30; refine (rnum x _ hz0 hz1).mono ?_; rintro e w2 ⟨rfl, hb2⟩)
      go_roundw
      case rel => exact ⟨k + 1, by omega, by go_num, by rw [HT.out], hbel.trans (hb2.mono hbel.size)⟩
      case measure => simp [intOf]; omega
    · obtain rfl : k = n := by omega
      have HT : Hid (numsB (zs.take k) = numsB zs) := by rw [List.take_of_length_le (by rw [HN.out]; omega)]; rfl
      go_wp2
      go_ret
      first | exact ⟨rfl, hbel⟩ | exact ⟨ret_str HT.out, hbel⟩

theorem numsB_one (x : Int) : numsB [x] = numS x := ba_nil _
end Go.Proofs.Ytcfibjfhmfdmkaa
