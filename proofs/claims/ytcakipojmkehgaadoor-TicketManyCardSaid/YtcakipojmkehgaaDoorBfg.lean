/- Put together: Fget, Fgete. Conditions: each theorem's own. -/
import Derived.Test.YtcakipojmkehgaaDoorBfp
import Derived.Test.YtcakipojmkehgaaDoorBfa
import Derived.Test.YtcakipojmkehgaaDoorFlt
import Derived.Test.YtcakipojmkehgaaDoorGr
namespace Go.Proofs.YtcakipojmkehgaaDoor
open Go.RowKit

theorem four {s : ByteArray} (h : s.size ≤ 4) : s = ⟨#[]⟩ ∨ (∃ a, s = ⟨#[a]⟩) ∨ (∃ a b, s = ⟨#[a, b]⟩) ∨ (∃ a b c, s = ⟨#[a, b, c]⟩) ∨ (∃ a b c d, s = ⟨#[a, b, c, d]⟩) := by
  obtain ⟨⟨l⟩⟩ := s
  have hl : l.length ≤ 4 := by simpa [ByteArray.size] using h
  match l, hl with
  | [], _ => exact .inl rfl
  | [a], _ => exact .inr (.inl ⟨a, rfl⟩)
  | [a, b], _ => exact .inr (.inr (.inl ⟨a, b, rfl⟩))
  | [a, b, c], _ => exact .inr (.inr (.inr (.inl ⟨a, b, c, rfl⟩)))
  | [a, b, c, d], _ => exact .inr (.inr (.inr (.inr ⟨a, b, c, d, rfl⟩)))

theorem ret_i {k : IntKind} {a b : Int} (h : a = b) : Ending.returned (.int k a) = .returned (.int k b) := by rw [h]

set_option maxRecDepth 100000 in
set_option maxHeartbeats 4000000 in
theorem fsum (s : ByteArray) (w : World) (h : s.size ≤ 4) : Calls Tryd.prog 76 #[.string s] w fun e w' => e = .returned (.int .u32 (valL s.data.toList)) ∧ w' = w := by
  rcases four h with rfl | ⟨a, rfl⟩ | ⟨a, b, rfl⟩ | ⟨a, b, c, rfl⟩ | ⟨a, b, c, d, rfl⟩
  · clear h
    go_enter Tryd.func76, Tryd.ntmps76
    go_wp2
    go_ret
    exact ⟨ret_i (by simp [valL]), rfl⟩
  · have ha := a.toNat_lt
    clear h
    go_enter Tryd.func76, Tryd.ntmps76
    go_wp2
    go_ret
    exact ⟨ret_i (by have e0 : (⟨#[a]⟩ : ByteArray)[0]'(by simp [ByteArray.size]) = a := rfl; simp [valL, e0]; omega), rfl⟩
  · have ha := a.toNat_lt
    have hb := b.toNat_lt
    clear h
    go_enter Tryd.func76, Tryd.ntmps76
    go_wp2
    go_ret
    exact ⟨ret_i (by have e0 : (⟨#[a, b]⟩ : ByteArray)[0]'(by simp [ByteArray.size]) = a := rfl; have e1 : (⟨#[a, b]⟩ : ByteArray)[1]'(by simp [ByteArray.size]) = b := rfl; simp [valL, e0, e1]; omega), rfl⟩
  · have ha := a.toNat_lt
    have hb := b.toNat_lt
    have hc := c.toNat_lt
    clear h
    go_enter Tryd.func76, Tryd.ntmps76
    go_wp2
    go_ret
    exact ⟨ret_i (by have e0 : (⟨#[a, b, c]⟩ : ByteArray)[0]'(by simp [ByteArray.size]) = a := rfl; have e1 : (⟨#[a, b, c]⟩ : ByteArray)[1]'(by simp [ByteArray.size]) = b := rfl; have e2 : (⟨#[a, b, c]⟩ : ByteArray)[2]'(by simp [ByteArray.size]) = c := rfl; simp [valL, e0, e1, e2]; omega), rfl⟩
  · have ha := a.toNat_lt
    have hb := b.toNat_lt
    have hc := c.toNat_lt
    have hd := d.toNat_lt
    clear h
    go_enter Tryd.func76, Tryd.ntmps76
    go_wp2
    go_ret
    exact ⟨ret_i (by have e0 : (⟨#[a, b, c, d]⟩ : ByteArray)[0]'(by simp [ByteArray.size]) = a := rfl; have e1 : (⟨#[a, b, c, d]⟩ : ByteArray)[1]'(by simp [ByteArray.size]) = b := rfl; have e2 : (⟨#[a, b, c, d]⟩ : ByteArray)[2]'(by simp [ByteArray.size]) = c := rfl; have e3 : (⟨#[a, b, c, d]⟩ : ByteArray)[3]'(by simp [ByteArray.size]) = d := rfl; simp [valL, e0, e1, e2, e3]; omega), rfl⟩

theorem fsum' (s : ByteArray) (a b : Nat) (w : World) (h1 : b ≤ s.size) (h2 : b ≤ a + 4) : Calls Tryd.prog 76 #[.string (s.extract a b)] w fun e w' => e = .returned (.int .u32 (valL (piece s a b))) ∧ w = w' := by
  have hs : (s.extract a b).size ≤ 4 := by rw [ByteArray.size_extract]; omega
  refine (fsum (s.extract a b) w hs).mono ?_
  rintro e w' ⟨rfl, rfl⟩
  exact ⟨ret_i (by rw [extract_piece]), rfl⟩

theorem ret_ni {x a b : Int} {v : Value} (h : a = b) : Ending.returned (.tuple #[.int .i64 x, .int .i64 a, v]) = .returned (.tuple #[.int .i64 x, .int .i64 b, v]) := by rw [h]
theorem fsum0 (w : World) : Calls Tryd.prog 76 #[.string ByteArray.empty] w fun e w' => e = .returned (.int .u32 0) ∧ w = w' := by
  refine (fsum ByteArray.empty w (by decide)).mono ?_
  rintro e w' ⟨rfl, rfl⟩
  exact ⟨rfl, rfl⟩
/-- The error v is a *fault round the number n. -/
def W1 (w : World) (v : Value) (n : Int) : Prop := ∃ b, v = .iface 97 (.pointer (some ⟨b, 0, none⟩)) ∧ w.cell? ⟨b, 2, none⟩ = some (.iface 30 (.int .i64 n))
def RdBad (n : Int) (z : Value) (w : World) (e : Ending) (w' : World) : Prop := ∃ v, e = .returned (.tuple #[z, .int .i64 0, v]) ∧ W1 w' v n ∧ Below w.heap.size w w'

set_option maxRecDepth 100000 in
set_option maxHeartbeats 4000000 in
theorem read_ok (s : ByteArray) (a : Int) (w : World) (hs : s.size ≤ 9223372036854770000) (h : getE s a = 0) :
    Calls Tryd.prog 71 #[.string s, .int .i64 a] w fun e w' => e = .returned (.tuple #[.int .i64 (getX s a), .int .i64 (getTo s a), .nilIface]) ∧ w = w' := by
  obtain ⟨k, rfl, hk, h4, hc, hz, hm⟩ := get_ok h
  rw [getX_ok h, getTo_ok h]
  have hl := valL_bd (piece s (k + 1) (k + 1 + gb s k))
  have hl0 : 0 ≤ valL (piece s (k + 1) (k + 1 + gb s k)) := hl.1
  have hv := gb_lt s k
  have hg0 : ∀ h : k < s.size, (s[k]'h).toNat = gb s k := gb_get s k
  have hg1 : ∀ h : k + 1 < s.size, (s[k + 1]'h).toNat = gb s (k + 1) := gb_get s (k + 1)
  clear h hl
  by_cases hn : gb s k = 0
  · have hx : valL (piece s (k + 1) (k + 1 + gb s k)) = 0 := by rw [hn]; exact val_piece_self s (k + 1)
    rw [hx]
    have Hx := Lib.hid hx
    clear hz hg1 hm hl0 hv h4 hx
    go_enter Tryd.func71, Tryd.ntmps71
    go_wp2_with (go_at_call 76; refine (fsum0 _).mono ?_; rintro e w' ⟨rfl, rfl⟩)
    go_ret3
    exact ⟨ret_ni (by omega), rfl⟩
  · have hn' : 0 < gb s k := by omega
    have hz1 : 0 < gb s (k + 1) := Nat.pos_of_ne_zero fun e => hz ⟨hn', e⟩
    have hz2 : (((gb s (k + 1) : Nat) : Int) == 0) = false := by rw [beq_eq_false_iff_ne]; omega
    clear hz hn
    go_enter Tryd.func71, Tryd.ntmps71
    go_wp2_with (go_at_call 76; ((with_reducible refine (fsum' s _ _ _ (by omega) (by omega)).mono ?_); rintro e w' ⟨rfl, rfl⟩))
    go_ret3
    exact ⟨ret_ni (by omega), rfl⟩

set_option maxRecDepth 100000 in
set_option maxHeartbeats 4000000 in
theorem read_bad (s : ByteArray) (a n : Int) (w : World) (hs : s.size ≤ 9223372036854770000) (ha0 : -9223372036854775808 ≤ a) (ha1 : a ≤ 9223372036854775807) (h : getE s a = n) (hn : n ≠ 0) :
    Calls Tryd.prog 71 #[.string s, .int .i64 a] w (RdBad n (.int .i64 0) w) := by
  by_cases h0 : a < 0
  · rw [getE_neg h0] at h
    subst h
    clear hn
    go_enter Tryd.func71, Tryd.ntmps71
    go_wp2_with (go_at_call 36; (with_reducible refine (fltnew _ _ _ _ _).mono ?_); rintro e w' ⟨rfl, rfl⟩)
    go_ret3
    exact ⟨_, rfl, ⟨_, rfl, by simp⟩, (Below.refl _ _).alloc (Nat.le_refl _) _⟩
  by_cases h1 : (s.size : Int) < a
  · rw [getE_far h1] at h
    subst h
    have h0' : 0 ≤ a := by omega
    clear hn h0
    go_enter Tryd.func71, Tryd.ntmps71
    go_wp2_with (go_at_call 36; (with_reducible refine (fltnew _ _ _ _ _).mono ?_); rintro e w' ⟨rfl, rfl⟩)
    go_ret3
    exact ⟨_, rfl, ⟨_, rfl, by simp⟩, (Below.refl _ _).alloc (Nat.le_refl _) _⟩
  by_cases h2 : a = s.size
  · rw [getE_end h2] at h
    subst h
    subst h2
    clear hn h0 h1
    go_enter Tryd.func71, Tryd.ntmps71
    go_wp2_with (go_at_call 36; (with_reducible refine (fltnew _ _ _ _ _).mono ?_); rintro e w' ⟨rfl, rfl⟩)
    go_ret3
    exact ⟨_, rfl, ⟨_, rfl, by simp⟩, (Below.refl _ _).alloc (Nat.le_refl _) _⟩
  obtain ⟨k, rfl⟩ : ∃ k : Nat, a = k := ⟨a.toNat, by omega⟩
  have hk : k < s.size := by omega
  have hg0 : ∀ h : k < s.size, (s[k]'h).toNat = gb s k := gb_get s k
  have hv := gb_lt s k
  clear h0 h1 h2 ha0 ha1
  by_cases h4 : 4 < gb s k
  · rw [getE_big hk h4] at h
    subst h
    clear hn
    go_enter Tryd.func71, Tryd.ntmps71
    go_wp2_with (go_at_call 36; (with_reducible refine (fltnew _ _ _ _ _).mono ?_); rintro e w' ⟨rfl, rfl⟩)
    go_ret3
    exact ⟨_, rfl, ⟨_, rfl, by simp⟩, (Below.refl _ _).alloc (Nat.le_refl _) _⟩
  have h4' : gb s k ≤ 4 := by omega
  by_cases hc : s.size < k + 1 + gb s k
  · rw [getE_cut hk h4' hc] at h
    subst h
    clear hn h4 hv
    go_enter Tryd.func71, Tryd.ntmps71
    go_wp2_with (go_at_call 36; (with_reducible refine (fltnew _ _ _ _ _).mono ?_); rintro e w' ⟨rfl, rfl⟩)
    go_ret3
    exact ⟨_, rfl, ⟨_, rfl, by simp⟩, (Below.refl _ _).alloc (Nat.le_refl _) _⟩
  have hc' : k + 1 + gb s k ≤ s.size := by omega
  have hg1 : ∀ h : k + 1 < s.size, (s[k + 1]'h).toNat = gb s (k + 1) := gb_get s (k + 1)
  by_cases hb : (0 < gb s k ∧ gb s (k + 1) = 0) ∨ 1073741823 < valL (piece s (k + 1) (k + 1 + gb s k))
  · rw [getE_bad hk h4' hc' hb] at h
    subst h
    clear hn h4 hc hv
    have hl := valL_bd4 (piece s (k + 1) (k + 1 + gb s k)) (by rw [piece_len _ _ _ hc']; omega)
    by_cases hz : 0 < gb s k ∧ gb s (k + 1) = 0
    · obtain ⟨hz0, hz1⟩ := hz
      clear hb
      go_enter Tryd.func71, Tryd.ntmps71
      go_wp2_with (first | (go_at_call 76; ((with_reducible refine (fsum' s _ _ _ (by omega) (by omega)).mono ?_); rintro e w' ⟨rfl, rfl⟩)) | (go_at_call 36; (with_reducible refine (fltnew _ _ _ _ _).mono ?_); rintro e w' ⟨rfl, rfl⟩))
      go_ret3
      exact ⟨_, rfl, ⟨_, rfl, by simp⟩, (Below.refl _ _).alloc (Nat.le_refl _) _⟩
    · have hm : 1073741823 < valL (piece s (k + 1) (k + 1 + gb s k)) := by
        rcases hb with hb | hb
        · exact absurd hb hz
        · exact hb
      have hn' : 0 < gb s k := by
        rcases Nat.eq_zero_or_pos (gb s k) with e | e
        · rw [e, Nat.add_zero, val_piece_self] at hm; omega
        · exact e
      have hz1 : 0 < gb s (k + 1) := Nat.pos_of_ne_zero fun e => hz ⟨hn', e⟩
      have hz2 : (((gb s (k + 1) : Nat) : Int) == 0) = false := by rw [beq_eq_false_iff_ne]; omega
      clear hz hb
      go_enter Tryd.func71, Tryd.ntmps71
      go_wp2_with (first | (go_at_call 76; ((with_reducible refine (fsum' s _ _ _ (by omega) (by omega)).mono ?_); rintro e w' ⟨rfl, rfl⟩)) | (go_at_call 36; (with_reducible refine (fltnew _ _ _ _ _).mono ?_); rintro e w' ⟨rfl, rfl⟩))
      go_ret3
      exact ⟨_, rfl, ⟨_, rfl, by simp⟩, (Below.refl _ _).alloc (Nat.le_refl _) _⟩
  · rw [getE_ok hk h4' hc' hb] at h
    exact absurd h.symm hn

theorem W1.below {w w' : World} {v : Value} {n : Int} (h : W1 w v n) (hb : Below w.heap.size w w') : W1 w' v n := by
  obtain ⟨b, e, h1⟩ := h
  exact ⟨b, e, (hb.cell (p := ⟨b, 2, none⟩) (World.block_lt_of_cell? w ⟨b, 2, none⟩ h1)).trans h1⟩
theorem W1.wr {w : World} {v : Value} {n : Int} (h : W1 w v n) : Wr w v n := .inl h

set_option maxHeartbeats 1000000 in
/-- field.GetNum. -/
theorem fget (s : ByteArray) (a : Int) (w : World) (hs : s.size ≤ 9223372036854770000) (ha0 : -9223372036854775808 ≤ a) (ha1 : a ≤ 9223372036854775807) (hg : Gd w) :
    Calls Tryd.prog 68 #[.string s, .int .i64 a] w fun e w' => e = .returned (.tuple #[.int .i64 (getX s a), .int .i64 (getTo s a), .int .i64 (getE s a)]) ∧ Below w.heap.size w w' := by
  by_cases h : getE s a = 0
  · have hr := read_ok s a w hs h
    rw [h]
    have Hr := Lib.hid hr
    clear hr h
    go_enter Tryd.func68, Tryd.ntmps68
    go_wp2_with (first | (go_at_call 71; refine Hr.out.mono ?_; rintro e w' ⟨rfl, rfl⟩) | (go_at_call 72; refine (errno_nil _).mono ?_; rintro e w' ⟨rfl, hb⟩))
    go_ret3
    exact ⟨rfl, hb⟩
  · obtain ⟨n, hn⟩ : ∃ n, getE s a = n := ⟨_, rfl⟩
    have hr := read_bad s a n w hs ha0 ha1 hn (by rw [← hn]; exact h)
    rw [getX_ne h, getTo_ne h, hn]
    have Hr := Lib.hid hr
    clear hr h hn
    have hp := hg.pos
    go_enter Tryd.func68, Tryd.ntmps68
    go_wp2_with (first | (go_at_call 71; refine Hr.out.mono ?_; rintro e w' ⟨v, rfl, hw, hb⟩) | (go_at_call 72; refine (errno_wr _ n _ (hg.below hb hp) hw.wr).mono ?_; rintro e w2 ⟨rfl, hb2⟩))
    go_ret3
    exact ⟨rfl, hb.trans (hb2.mono hb.size)⟩
end Go.Proofs.YtcakipojmkehgaaDoor

namespace Go.Proofs.YtcakipojmkehgaaDoor
open Go Go.RowKit
theorem fgetE {s : ByteArray} {a : Int} (e : getE s a = 0) (hs : s.size ≤ 9223372036854770000) (ha0 : -9223372036854775808 ≤ a) (ha1 : a ≤ 9223372036854775807) (w : World) (hg : Gd w) :
    Calls Tryd.prog 68 #[.string s, .int .i64 a] w fun e w' => e = .returned (.tuple #[.int .i64 (getX s a), .int .i64 (getTo s a), .int .i64 0]) ∧ Below w.heap.size w w' := by
  have := fget s a w hs ha0 ha1 hg
  rw [e] at this
  exact this
end Go.Proofs.YtcakipojmkehgaaDoor

