/- The reference's Nums, Text and GetText answer as field's do. No condition. -/
import Derived.Test.YtmllcbhoioajgaaDoorFrefnum
import Derived.Test.YtmllcbhoioajgaaDoorFrefget
import Derived.Test.YtmllcbhoioajgaaDoorFtext
namespace Go.Proofs.YtmllcbhoioajgaaDoor
open Go.RowKit

/-- Numbers one behind the other. -/
def numsB : List Int → ByteArray
  | [] => ⟨#[]⟩
  | x :: r => numS x ++ numsB r
theorem ba_nil (a : ByteArray) : a ++ (⟨#[]⟩ : ByteArray) = a := by apply ByteArray.ext; simp [ByteArray.data_append]
theorem nil_ba (a : ByteArray) : (⟨#[]⟩ : ByteArray) ++ a = a := by apply ByteArray.ext; simp [ByteArray.data_append]
theorem ba_assoc (a b c : ByteArray) : (a ++ b) ++ c = a ++ (b ++ c) := by apply ByteArray.ext; simp [ByteArray.data_append]
theorem numsB_snoc (l : List Int) (x : Int) : numsB (l ++ [x]) = numsB l ++ numS x := by
  induction l with
  | nil => simp only [List.nil_append, numsB]; rw [nil_ba, ba_nil]
  | cons y l ih => simp only [List.cons_append, numsB]; rw [ih, ba_assoc]
theorem numB_size (x : Int) : (numB x).size = (numL x).length := by rw [numB, Lib.size_eq]; simp [bytesOf]
theorem numS_size (x : Int) : (numS x).size ≤ 5 := by
  unfold numS
  split
  · rw [numB_size]; exact (numL_len x).2
  · exact Nat.zero_le _
theorem numsB_size (l : List Int) : (numsB l).size ≤ 5 * l.length := by
  induction l with
  | nil => simp [numsB, ByteArray.size]
  | cons x l ih => have := numS_size x; rw [numsB, ByteArray.size_append, List.length_cons]; omega
theorem numsB_take (l : List Int) (k : Nat) (h : k < l.length) : numsB (l.take (k + 1)) = numsB (l.take k) ++ numS (l.getD k 0) := by
  rw [List.take_succ_eq_append_getElem h, numsB_snoc, List.getD_eq_getElem?_getD, List.getElem?_eq_getElem h]; rfl

theorem ret_str {a b : ByteArray} (h : a = b) : Ending.returned (.string a) = .returned (.string b) := by rw [h]
set_option maxRecDepth 100000 in
set_option maxHeartbeats 4000000 in
/-- The reference's Nums. -/
theorem rnums (zs : List Int) (b n : Nat) (w : World) (hn : zs.length = n) (hl : n ≤ 1000) (hc : ∀ j, j < n → w.cell? ⟨b, j, none⟩ = some (.int .i64 (zs.getD j 0)))
    (hz : ∀ j, j < n → -9223372036854775808 ≤ zs.getD j 0 ∧ zs.getD j 0 ≤ 9223372036854775807) (hb : b < w.heap.size) :
    Calls Tryd.prog 22 #[.slice (some ⟨b, 0, none⟩) n n] w fun e w' => e = .returned (.string (numsB zs)) ∧ Below w.heap.size w w' := by
  have HN := Lib.hid hn
  have HC := Lib.hid hc
  have HZ := Lib.hid hz
  clear hc hz hn
  go_enter Tryd.func22, Tryd.ntmps22
  go_wp2
  go_loopw [3, 4] (fun s i wr => ∃ k : Nat, k ≤ n ∧ i = .int .i64 k ∧ s = .string (numsB (zs.take k)) ∧ Below w.heap.size w wr) (fun _ i _ => n - (intOf i).toNat)
  case atStart => exact ⟨0, Nat.zero_le _, rfl, rfl, Below.refl _ _⟩
  case round =>
    obtain ⟨k, hk, rfl, rfl, hbel⟩ := hrel
    have hs1 := numsB_size (zs.take k)
    have hs2 := numS_size (zs.getD k 0)
    have hs3 : (numsB (zs.take k)).size ≤ 5000 := by rw [List.length_take, HN.out] at hs1; omega
    clear hs1
    by_cases hlt : k < n
    · have hcell := (hbel.cell (p := ⟨b, k, none⟩) hb).trans (HC.out k hlt)
      obtain ⟨hz0, hz1⟩ := HZ.out k hlt
      have HT := Lib.hid (numsB_take zs k (by rw [HN.out]; exact hlt))
      obtain ⟨x, hx⟩ : ∃ x, zs.getD k 0 = x := ⟨_, rfl⟩
      rw [hx] at hcell hz0 hz1 HT hs2
      clear hx
      go_wp2_with (go_at_call 9; refine (rnum x _ hz0 hz1).mono ?_; rintro e w2 ⟨rfl, hb2⟩)
      go_roundw
      case rel => exact ⟨k + 1, by omega, by go_num, by rw [HT.out], hbel.trans (hb2.mono hbel.size)⟩
      case measure => simp [intOf]; omega
    · obtain rfl : k = n := by omega
      have HT : Hid (numsB (zs.take k) = numsB zs) := by rw [List.take_of_length_le (by rw [HN.out]; omega)]; rfl
      go_wp2
      go_ret
      first | exact ⟨rfl, hbel⟩ | exact ⟨ret_str HT.out, hbel⟩

theorem numsB_one (x : Int) : numsB [x] = numS x := ba_nil _

set_option maxRecDepth 100000 in
set_option maxHeartbeats 4000000 in
/-- The reference's Text. -/
theorem rtext (s : ByteArray) (w : World) (hs : s.size ≤ 9223372036854770000) :
    Calls Tryd.prog 14 #[.string s] w fun e w' => e = .returned (.tuple #[.string (textS s), .int .i64 (textE s)]) ∧ Below w.heap.size w w' := by
  by_cases h : s.size ≤ 65536
  · have e1 : textS s = numsB [(s.size : Int)] ++ s := by rw [numsB_one, numS_ok (by omega) (by omega), textS, if_pos h]
    have e2 : textE s = 0 := by rw [textE, if_pos h]
    rw [e1, e2]
    have hsz := numsB_size [(s.size : Int)]
    have hsz2 : (numsB [(s.size : Int)]).size ≤ 5 := by simpa using hsz
    clear e1 e2 hsz
    have hb1 : Below w.heap.size w (w.alloc (.cells #[.int .i64 (s.size : Int)] 3)) := (Below.refl _ _).alloc (Nat.le_refl _) _
    have hn := rnums [(s.size : Int)] w.heap.size 1 (w.alloc (.cells #[.int .i64 (s.size : Int)] 3)) rfl (by omega)
      (by intro j hj; obtain rfl : j = 0 := by omega
          simp)
      (by intro j hj; obtain rfl : j = 0 := by omega
          simp; omega) (by simp)
    have HN := Lib.hid hn
    clear hn
    go_enter Tryd.func14, Tryd.ntmps14
    go_wp2_with (go_at_call 22; refine HN.out.mono ?_; rintro e w2 ⟨rfl, hb2⟩)
    go_ret2
    exact ⟨rfl, hb1.trans (hb2.mono (by simp))⟩
  · have e1 : textS s = ⟨#[]⟩ := by rw [textS, if_neg h]
    have e2 : textE s = 100 := by rw [textE, if_neg h]
    have h' : 65536 < s.size := by omega
    rw [e1, e2]
    clear e1 e2 h
    go_enter Tryd.func14, Tryd.ntmps14
    go_wp2
    go_ret2
    exact ⟨rfl, Below.refl _ _⟩

set_option maxRecDepth 100000 in
set_option maxHeartbeats 4000000 in
/-- The reference's GetText. -/
theorem rgett (s : ByteArray) (a : Int) (w : World) (hs : s.size ≤ 9223372036854770000) (ha0 : -9223372036854775808 ≤ a) (ha1 : a ≤ 9223372036854775807) :
    Calls Tryd.prog 16 #[.string s, .int .i64 a] w fun e w' => e = .returned (.tuple #[.string (txtS s a), .int .i64 (txtTo s a), .int .i64 (txtE s a)]) ∧ w = w' := by
  have hr := rget s a w hs ha0 ha1
  have Hr := Lib.hid hr
  clear hr
  by_cases hE : getE s a = 0
  · obtain ⟨b0, b1, b2, b3, b4⟩ := get_bd hE
    have h0' : 0 ≤ getTo s a := by omega
    by_cases h1 : 65536 < getX s a
    · have h := txtE_big hE h1
      rw [txtS_ne (by rw [h]; decide), txtTo_ne (by rw [h]; decide), h]
      clear h b2 b3 ha0 ha1
      go_enter Tryd.func16, Tryd.ntmps16
      go_wp2_with (go_at_call 12; refine Hr.out.mono ?_; rintro e w' ⟨rfl, rfl⟩)
      go_ret3
      exact ⟨rfl, rfl⟩
    · have h1' : getX s a ≤ 65536 := by omega
      by_cases h2 : (s.size : Int) - getTo s a < getX s a
      · have h := txtE_cut hE h1 h2
        rw [txtS_ne (by rw [h]; decide), txtTo_ne (by rw [h]; decide), h]
        clear h b2 b3 ha0 ha1 h1
        go_enter Tryd.func16, Tryd.ntmps16
        go_wp2_with (go_at_call 12; refine Hr.out.mono ?_; rintro e w' ⟨rfl, rfl⟩)
        go_ret3
        exact ⟨rfl, rfl⟩
      · have h := txtE_ok hE h1 h2
        rw [txtS_ok h, txtTo_ok h, h]
        have h2' : getTo s a + getX s a ≤ s.size := by omega
        clear h b1 b2 b3 b4 ha0 ha1 h1 h2
        go_enter Tryd.func16, Tryd.ntmps16
        go_wp2_with (go_at_call 12; refine Hr.out.mono ?_; rintro e w' ⟨rfl, rfl⟩)
        go_ret3
        exact ⟨rfl, rfl⟩
  · have h := txtE_get hE
    have hne : txtE s a ≠ 0 := by rw [h]; exact hE
    rw [txtS_ne hne, txtTo_ne hne, h]
    have hb : (getE s a == 0) = false := by rw [beq_eq_false_iff_ne]; exact hE
    clear h hne
    go_enter Tryd.func16, Tryd.ntmps16
    go_wp2_with (go_at_call 12; refine Hr.out.mono ?_; rintro e w' ⟨rfl, rfl⟩)
    go_ret3
    exact ⟨rfl, rfl⟩
end Go.Proofs.YtmllcbhoioajgaaDoor
