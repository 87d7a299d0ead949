/- The reference's Text and GetText answer as field's do. No condition. -/
import Derived.Test.YthbnkejjipiaaaaDoorRget
namespace Go.Proofs.YthbnkejjipiaaaaDoor
open Go.RowKit


set_option maxRecDepth 100000 in
set_option maxHeartbeats 4000000 in
/-- The reference's Text. -/
theorem rtext (s : ByteArray) (w : World) (hs : s.size ≤ 9223372036854770000) :
    Calls Tryd.prog 32 #[.string s] w fun e w' => e = .returned (.tuple #[.string (textS s), .int .i64 (textE s)]) ∧ Below w.heap.size w w' := by
  by_cases h : s.size ≤ 65536
  · have e1 : textS s = numsB [(s.size : Int)] ++ s := by rw [numsB_one, numS_ok (by omega) (by omega), textS, if_pos h]
    have e2 : textE s = 0 := by rw [textE, if_pos h]
    rw [e1, e2]
    have hsz := numsB_size [(s.size : Int)]
    have hsz2 : (numsB [(s.size : Int)]).size ≤ 5 := by simpa using hsz
    clear e1 e2 hsz
    have hb1 : Below w.heap.size w (w.alloc (.cells #[.int .i64 (s.size : Int)] 3)) := (Below.refl _ _).alloc (Nat.le_refl _) _
    have hn := rnums [(s.size : Int)] w.heap.size 1 (w.alloc (.cells #[.int .i64 (s.size : Int)] 3)) rfl (by omega)
      (by intro j hj; obtain rfl : j = 0 := by omega
          simp)
      (by intro j hj; obtain rfl : j = 0 := by omega
          simp; omega) (by simp)
    have HN := Lib.hid hn
    clear hn
    go_enter Tryd.func32, Tryd.ntmps32
    go_wp2_with (go_at_call 31; refine HN.out.mono ?_; rintro e w2 ⟨rfl, hb2⟩)
    go_ret2
    exact ⟨rfl, hb1.trans (hb2.mono (by simp))⟩
  · have e1 : textS s = ⟨#[]⟩ := by rw [textS, if_neg h]
    have e2 : textE s = 100 := by rw [textE, if_neg h]
    have h' : 65536 < s.size := by omega
    rw [e1, e2]
    clear e1 e2 h
    go_enter Tryd.func32, Tryd.ntmps32
    go_wp2
    go_ret2
    exact ⟨rfl, Below.refl _ _⟩

set_option maxRecDepth 100000 in
set_option maxHeartbeats 4000000 in
/-- The reference's GetText. -/
theorem rgett (s : ByteArray) (a : Int) (w : World) (hs : s.size ≤ 9223372036854770000) (ha0 : -9223372036854775808 ≤ a) (ha1 : a ≤ 9223372036854775807) :
    Calls Tryd.prog 51 #[.string s, .int .i64 a] w fun e w' => e = .returned (.tuple #[.string (txtS s a), .int .i64 (txtTo s a), .int .i64 (txtE s a)]) ∧ w = w' := by
  have hr := rget s a w hs ha0 ha1
  have Hr := Lib.hid hr
  clear hr
  by_cases hE : getE s a = 0
  · obtain ⟨b0, b1, b2, b3, b4⟩ := get_bd hE
    have h0' : 0 ≤ getTo s a := by omega
    by_cases h1 : 65536 < getX s a
    · have h := txtE_big hE h1
      rw [txtS_ne (by rw [h]; decide), txtTo_ne (by rw [h]; decide), h]
      clear h b2 b3 ha0 ha1
      go_enter Tryd.func51, Tryd.ntmps51
      go_wp2_with (go_at_call 50; refine Hr.out.mono ?_; rintro e w' ⟨rfl, rfl⟩)
      go_ret3
      exact ⟨rfl, rfl⟩
    · have h1' : getX s a ≤ 65536 := by omega
      by_cases h2 : (s.size : Int) - getTo s a < getX s a
      · have h := txtE_cut hE h1 h2
        rw [txtS_ne (by rw [h]; decide), txtTo_ne (by rw [h]; decide), h]
        clear h b2 b3 ha0 ha1 h1
        go_enter Tryd.func51, Tryd.ntmps51
        go_wp2_with (go_at_call 50; refine Hr.out.mono ?_; rintro e w' ⟨rfl, rfl⟩)
        go_ret3
        exact ⟨rfl, rfl⟩
      · have h := txtE_ok hE h1 h2
        rw [txtS_ok h, txtTo_ok h, h]
        have h2' : getTo s a + getX s a ≤ s.size := by omega
        clear h b1 b2 b3 b4 ha0 ha1 h1 h2
        go_enter Tryd.func51, Tryd.ntmps51
        go_wp2_with (go_at_call 50; refine Hr.out.mono ?_; rintro e w' ⟨rfl, rfl⟩)
        go_ret3
        exact ⟨rfl, rfl⟩
  · have h := txtE_get hE
    have hne : txtE s a ≠ 0 := by rw [h]; exact hE
    rw [txtS_ne hne, txtTo_ne hne, h]
    have hb : (getE s a == 0) = false := by rw [beq_eq_false_iff_ne]; exact hE
    clear h hne
    go_enter Tryd.func51, Tryd.ntmps51
    go_wp2_with (go_at_call 50; refine Hr.out.mono ?_; rintro e w' ⟨rfl, rfl⟩)
    go_ret3
    exact ⟨rfl, rfl⟩
end Go.Proofs.YthbnkejjipiaaaaDoor
