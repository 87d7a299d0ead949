/- field.Text and field.GetText answer as the document says. Condition: errors.errorType holds the handle of the type error. -/
import Derived.Test.YtiebpjkppjollaaDoorFnum
import Derived.Test.YtiebpjkppjollaaDoorBfg
import Derived.Lib.AppendStr
namespace Go.Proofs.YtiebpjkppjollaaDoor
open Go.RowKit

/-- A text's bytes as numbers. -/
def intsOf (s : ByteArray) : List Int := s.data.toList.map fun b => (b.toNat : Int)
theorem strCells_ints (s : ByteArray) : Lib.strCells s = (intsOf s).map (Value.int .u8) := by simp [Lib.strCells, intsOf]
theorem bytesOf_ints (s : ByteArray) : bytesOf (intsOf s) = s.data.toList := by
  unfold bytesOf intsOf
  rw [List.map_map]
  conv => rhs; rw [← List.map_id s.data.toList]
  apply List.map_congr_left
  intro b _
  simp
theorem text_eq (s : ByteArray) (x : Int) : (⟨(bytesOf (numL x ++ intsOf s)).toArray⟩ : ByteArray) = numB x ++ s := by
  apply ByteArray.ext
  rw [numB, ByteArray.data_append]
  have e := bytesOf_ints s
  unfold bytesOf at e ⊢
  rw [List.map_append, e]
  simp

set_option maxRecDepth 100000 in
set_option maxHeartbeats 4000000 in
/-- field.Text. -/
theorem ftext (s : ByteArray) (w : World) (hs : s.size ≤ 9223372036854770000) :
    Calls Tryd.prog 73 #[.string s] w fun e w' => e = .returned (.tuple #[.string (textS s), .int .i64 (textE s)]) ∧ Below w.heap.size w w' := by
  by_cases h : s.size ≤ 65536
  · have e1 : textS s = ⟨(bytesOf (numL s.size ++ intsOf s)).toArray⟩ := by rw [text_eq, textS, if_pos h]
    have e2 : textE s = 0 := by rw [textE, if_pos h]
    rw [e1, e2]
    clear e1 e2
    obtain ⟨i, hi, hz0, hz1, hz2⟩ := info_parts info5
    have hn := numL_len s.size
    have hbel := Below.refl w.heap.size w
    go_enter Tryd.func73, Tryd.ntmps73
    go_wp2_with (first | (at_make; refine wpList_make_own _ rfl _ _ 45 rfl w.heap.size 5 i (.int .u8 0) 1 Tryd.underlying45 hi hz0 hz1 _ _ _ (5 + s.size) rfl rfl (by omega) (by rw [hz2]; omega) (by unfold maxLen; omega) (Nat.le_refl _) ?_; intro w1 hown hgrow) | (go_at_call 68; refine (app_num _ (s.size : Int) w.heap.size 0 [] w1 hown hgrow.size (by omega) (by omega) (by omega)).mono ?_; rintro e w2 ⟨v', rfl, hown2, hb2, hs2⟩) | (at_builtin; refine Lib.wpList_append_own_string _ rfl _ _ 45 9 rfl w.heap.size 5 i Tryd.underlying45 Tryd.underlying9 hi hz0 hz1 hz2 _ _ _ rfl hown2 s rfl (by unfold maxLen; omega) (by omega) hs2 ?_; intro v3 w3 hown3 hgrow3 _; rw [strCells_ints, List.nil_append, ← List.map_append] at hown3; have hcv := conv_own hown3; clear hown3))
    go_ret2
    exact ⟨rfl, (((hbel.grown hgrow (Nat.le_refl _) (fun k h => by cases h)).trans hb2).grown hgrow3 hs2 (fun k h => (hown2.lt k h).1))⟩
  · have e1 : textS s = ⟨#[]⟩ := by rw [textS, if_neg h]
    have e2 : textE s = 100 := by rw [textE, if_neg h]
    have h' : 65536 < s.size := by omega
    rw [e1, e2]
    clear e1 e2 h
    go_enter Tryd.func73, Tryd.ntmps73
    go_wp2
    go_ret2
    exact ⟨rfl, Below.refl _ _⟩

theorem fclonet (s : ByteArray) (w : World) (h : s.size ≤ 65536) :
    Calls Tryd.prog 67 #[.string s] w fun e w' => e = .returned (.string s) ∧ Below w.heap.size w w' := by
  go_enter Tryd.func67, Tryd.ntmps67
  go_wp2_with (go_at_call 81; refine (Tryd.stringslite_Clone s _ (by omega)).mono ?_; rintro e w' ⟨rfl, hb⟩)
  go_ret
  exact ⟨rfl, hb⟩

def TdBad (n : Int) (w : World) (e : Ending) (w' : World) : Prop := ∃ v, e = .returned (.tuple #[.string ⟨#[]⟩, .int .i64 0, v]) ∧ Wr w' v n ∧ Below w.heap.size w w'

theorem wr_two {w : World} {n : Int} {v : Value} {c1 c2 : Value} (h : W1 w v n) : Wr (w.alloc (.cells #[c1, c2, v] 160)) (.iface 158 (.pointer (some ⟨w.heap.size, 0, none⟩))) n := by
  obtain ⟨b, rfl, hb⟩ := h
  have hlt := World.block_lt_of_cell? w ⟨b, 2, none⟩ hb
  exact .inr ⟨w.heap.size, b, rfl, by simp, by rw [World.cell?_alloc_lt _ _ ⟨b, 2, none⟩ hlt]; exact hb⟩

set_option maxRecDepth 100000 in
set_option maxHeartbeats 4000000 in
theorem rtext_ok (s : ByteArray) (a : Int) (w : World) (hs : s.size ≤ 9223372036854770000) (h : txtE s a = 0) :
    Calls Tryd.prog 78 #[.string s, .int .i64 a] w fun e w' => e = .returned (.tuple #[.string (txtS s a), .int .i64 (txtTo s a), .nilIface]) ∧ Below w.heap.size w w' := by
  have hE : getE s a = 0 := by
    by_cases hE : getE s a = 0
    · exact hE
    · rw [txtE_get hE] at h; exact h
  have h1 : ¬ 65536 < getX s a := fun h1 => by rw [txtE_big hE h1] at h; omega
  have h2 : ¬ (s.size : Int) - getTo s a < getX s a := fun h2 => by rw [txtE_cut hE h1 h2] at h; omega
  obtain ⟨b0, _, b2, b3, b4⟩ := get_bd hE
  have hr := read_ok s a w hs hE
  rw [txtS_ok h, txtTo_ok h]
  have Hr := Lib.hid hr
  clear hr h hE
  have h1' : getX s a ≤ 65536 := by omega
  have h2' : getTo s a + getX s a ≤ s.size := by omega
  have h0' : 0 ≤ getTo s a := by omega
  clear h1 h2 b2 b3 b4
  go_enter Tryd.func78, Tryd.ntmps78
  go_wp2_with (first | (go_at_call 76; refine Hr.out.mono ?_; rintro e w' ⟨rfl, rfl⟩) | (go_at_call 67; ((with_reducible refine (fclonet _ _ (by rw [ByteArray.size_extract]; omega)).mono ?_); rintro e w' ⟨rfl, hb⟩)))
  go_ret3
  exact ⟨rfl, hb⟩

set_option maxRecDepth 100000 in
set_option maxHeartbeats 4000000 in
theorem rtext_bad (s : ByteArray) (a n : Int) (w : World) (hs : s.size ≤ 9223372036854770000) (ha0 : -9223372036854775808 ≤ a) (ha1 : a ≤ 9223372036854775807) (h : txtE s a = n) (hn : n ≠ 0) :
    Calls Tryd.prog 78 #[.string s, .int .i64 a] w (TdBad n w) := by
  by_cases hE : getE s a = 0
  · obtain ⟨b0, b1, b2, b3, b4⟩ := get_bd hE
    have hr := read_ok s a w hs hE
    have Hr := Lib.hid hr
    clear hr
    by_cases h1 : 65536 < getX s a
    · rw [txtE_big hE h1] at h
      subst h
      have h0' : 0 ≤ getTo s a := by omega
      clear hE hn b2 b3 ha0 ha1
      go_enter Tryd.func78, Tryd.ntmps78
      go_wp2_with (first | (go_at_call 76; refine Hr.out.mono ?_; rintro e w' ⟨rfl, rfl⟩) | (go_at_call 87; (with_reducible refine (fltnew _ _ _ _ _).mono ?_); rintro e w' ⟨rfl, rfl⟩))
      go_ret3
      exact ⟨_, rfl, .inl ⟨_, rfl, by simp⟩, (Below.refl _ _).alloc (Nat.le_refl _) _⟩
    · by_cases h2 : (s.size : Int) - getTo s a < getX s a
      · rw [txtE_cut hE h1 h2] at h
        subst h
        have h0' : 0 ≤ getTo s a := by omega
        have h1' : getX s a ≤ 65536 := by omega
        clear hE hn b2 b3 ha0 ha1 h1
        go_enter Tryd.func78, Tryd.ntmps78
        go_wp2_with (first | (go_at_call 76; refine Hr.out.mono ?_; rintro e w' ⟨rfl, rfl⟩) | (go_at_call 87; (with_reducible refine (fltnew _ _ _ _ _).mono ?_); rintro e w' ⟨rfl, rfl⟩))
        go_ret3
        exact ⟨_, rfl, .inl ⟨_, rfl, by simp⟩, (Below.refl _ _).alloc (Nat.le_refl _) _⟩
      · rw [txtE_ok hE h1 h2] at h
        exact absurd h.symm hn
  · rw [txtE_get hE] at h
    have hr := read_bad s a n w hs ha0 ha1 h hn
    have Hr := Lib.hid hr
    clear hr h hE hn
    go_enter Tryd.func78, Tryd.ntmps78
    go_wp2_with (first | (go_at_call 76; refine Hr.out.mono ?_; rintro e w' ⟨v, rfl, hw, hb⟩; obtain ⟨bb, rfl, hc⟩ := hw) | (go_at_call 87; (with_reducible refine (fltnew _ _ _ _ _).mono ?_); rintro e w' ⟨rfl, rfl⟩))
    go_ret3
    exact ⟨_, rfl, wr_two ⟨bb, rfl, hc⟩, hb.alloc hb.size _⟩

set_option maxHeartbeats 1000000 in
/-- field.GetText. -/
theorem fgett (s : ByteArray) (a : Int) (w : World) (hs : s.size ≤ 9223372036854770000) (ha0 : -9223372036854775808 ≤ a) (ha1 : a ≤ 9223372036854775807) (hg : Gd w) :
    Calls Tryd.prog 62 #[.string s, .int .i64 a] w fun e w' => e = .returned (.tuple #[.string (txtS s a), .int .i64 (txtTo s a), .int .i64 (txtE s a)]) ∧ Below w.heap.size w w' := by
  by_cases h : txtE s a = 0
  · have hr := rtext_ok s a w hs h
    rw [h]
    have Hr := Lib.hid hr
    clear hr h
    go_enter Tryd.func62, Tryd.ntmps62
    go_wp2_with (first | (go_at_call 78; refine Hr.out.mono ?_; rintro e w1 ⟨rfl, hb1⟩) | (go_at_call 77; refine (errno_nil _).mono ?_; rintro e w' ⟨rfl, hb⟩))
    go_ret3
    exact ⟨rfl, hb1.trans (hb.mono hb1.size)⟩
  · obtain ⟨n, hn⟩ : ∃ n, txtE s a = n := ⟨_, rfl⟩
    have hr := rtext_bad s a n w hs ha0 ha1 hn (by rw [← hn]; exact h)
    rw [txtS_ne h, txtTo_ne h, hn]
    have Hr := Lib.hid hr
    clear hr h hn
    have hp := hg.pos
    go_enter Tryd.func62, Tryd.ntmps62
    go_wp2_with (first | (go_at_call 78; refine Hr.out.mono ?_; rintro e w' ⟨v, rfl, hw, hb⟩) | (go_at_call 77; refine (errno_wr _ n _ (hg.below hb hp) hw).mono ?_; rintro e w2 ⟨rfl, hb2⟩))
    go_ret3
    exact ⟨rfl, hb.trans (hb2.mono hb.size)⟩
end Go.Proofs.YtiebpjkppjollaaDoor
