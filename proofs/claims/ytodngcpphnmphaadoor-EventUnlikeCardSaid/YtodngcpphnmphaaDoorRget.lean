/- The reference's GetNum answers as field.GetNum does. No condition. -/
import Derived.Test.YtodngcpphnmphaaDoorFplain3
import Derived.Test.YtodngcpphnmphaaDoorRnums
namespace Go.Proofs.YtodngcpphnmphaaDoor
open Go.RowKit

theorem ret_iii {x y a b c d : Int} (h : x = y) (h2 : a = b) (h3 : c = d) : Ending.returned (.tuple #[.int .i64 x, .int .i64 a, .int .i64 c]) = .returned (.tuple #[.int .i64 y, .int .i64 b, .int .i64 d]) := by rw [h, h2, h3]
set_option maxRecDepth 100000 in
set_option maxHeartbeats 4000000 in
theorem rget_in (s : ByteArray) (k : Nat) (w : World) (hs : s.size ≤ 9223372036854770000) (hk : k < s.size) (h4 : gb s k ≤ 4) (hc : k + 1 + gb s k ≤ s.size) :
    Calls Tryd.prog 31 #[.string s, .int .i64 k] w fun e w' => e = .returned (.tuple #[.int .i64 (getX s k), .int .i64 (getTo s k), .int .i64 (getE s k)]) ∧ w' = w := by
  have hg0 : ∀ h : k < s.size, (s[k]'h).toNat = gb s k := gb_get s k
  have hg1 : ∀ h : k + 1 < s.size, (s[k + 1]'h).toNat = gb s (k + 1) := gb_get s (k + 1)
  go_enter Tryd.func31, Tryd.ntmps31
  go_wp2
  go_loop [8, 9] (fun x i => ∃ m : Nat, m ≤ gb s k ∧ i = .int .i64 ((m : Int) + 1) ∧ x = .int .i64 (valL (piece s (k + 1) (k + 1 + m)))) (fun _ i => gb s k + 1 - (intOf i).toNat)
  case atStart => exact ⟨0, Nat.zero_le _, by go_num, by rw [Nat.add_zero, val_piece_self]⟩
  case round =>
    obtain ⟨m, hm, rfl, rfl⟩ := hrel
    by_cases hlt : m < gb s k
    · have hl := valL_bd3 (piece s (k + 1) (k + 1 + m)) (by rw [piece_len _ _ _ (by omega)]; omega)
      obtain ⟨hl0, hl1⟩ := hl
      have hv := gb_lt s (k + 1 + m)
      have hgm : ∀ h : k + 1 + m < s.size, (s[k + 1 + m]'h).toNat = gb s (k + 1 + m) := gb_get s (k + 1 + m)
      have hgm2 : ∀ h : k + (m + 1) < s.size, (s[k + (m + 1)]'h).toNat = gb s (k + 1 + m) := fun h => by rw [gb_get]; congr 1; omega
      have hgm3 : ∀ h : ((k : Int) + ((m : Int) + 1)).toNat < s.size, (s[((k : Int) + ((m : Int) + 1)).toNat]'h).toNat = gb s (k + 1 + m) := fun h => by rw [gb_get]; congr 1; omega
      have hor : bits .or .i64 (valL (piece s (k + 1) (k + 1 + m)) * 256) (gb s (k + 1 + m) : Int) = valL (piece s (k + 1) (k + 1 + m)) * 256 + (gb s (k + 1 + m) : Int) := i64_or8 _ _ hl0 hl1 (by omega) (by omega)
      have HX : Hid (valL (piece s (k + 1) (k + 1 + (m + 1))) = valL (piece s (k + 1) (k + 1 + m)) * 256 + (gb s (k + 1 + m) : Int)) := val_piece s (k + 1) (k + 1 + m) (by omega) (by omega)
      go_wp2
      go_round
      case rel => exact ⟨m + 1, by omega, by go_num, by rw [HX.out]⟩
      case measure => simp [intOf]; omega
    · obtain rfl : m = gb s k := by omega
      obtain ⟨hl0, hl1⟩ := valL_bd4 (piece s (k + 1) (k + 1 + gb s k)) (by rw [piece_len _ _ _ (by omega)]; omega)
      have hv := gb_lt s k
      by_cases hz : 0 < gb s k ∧ gb s (k + 1) = 0
      · have HE := Lib.hid (getE_bad hk h4 hc (.inl hz))
        obtain ⟨hz0, hz1⟩ := hz
        clear hlt hm
        go_wp2
        go_ret3
        exact ⟨ret_iii (getX_ne (by rw [HE.out]; decide)).symm (getTo_ne (by rw [HE.out]; decide)).symm HE.out.symm, rfl⟩
      · by_cases hx : 1073741823 < valL (piece s (k + 1) (k + 1 + gb s k))
        · have HE := Lib.hid (getE_bad hk h4 hc (.inr hx))
          have hn' : 0 < gb s k := by
            rcases Nat.eq_zero_or_pos (gb s k) with e | e
            · rw [e, Nat.add_zero, val_piece_self] at hx; omega
            · exact e
          have hz1 : 0 < gb s (k + 1) := Nat.pos_of_ne_zero fun e => hz ⟨hn', e⟩
          have hz2 : (((gb s (k + 1) : Nat) : Int) == 0) = false := by rw [beq_eq_false_iff_ne]; omega
          clear hz hlt hm
          go_wp2
          go_ret3
          exact ⟨ret_iii (getX_ne (by rw [HE.out]; decide)).symm (getTo_ne (by rw [HE.out]; decide)).symm HE.out.symm, rfl⟩
        · have he := getE_ok hk h4 hc (fun h => h.elim hz hx)
          have HE := Lib.hid he
          have hx' : valL (piece s (k + 1) (k + 1 + gb s k)) ≤ 1073741823 := by omega
          clear he hx
          by_cases hn : gb s k = 0
          · have hz3 : valL (piece s (k + 1) (k + 1 + gb s k)) = 0 := by rw [hn, Nat.add_zero]; exact val_piece_self _ _
            have HX0 := Lib.hid hz3
            rw [hz3]
            clear hz hlt hm hg1 hl0 hl1 hx' hz3
            go_wp2
            go_ret3
            exact ⟨ret_iii ((getX_ok HE.out).trans HX0.out).symm (by rw [getTo_ok HE.out]; omega) HE.out.symm, rfl⟩
          · have hn' : 0 < gb s k := by omega
            have hz1 : 0 < gb s (k + 1) := Nat.pos_of_ne_zero fun e => hz ⟨hn', e⟩
            have hz2 : (((gb s (k + 1) : Nat) : Int) == 0) = false := by rw [beq_eq_false_iff_ne]; omega
            clear hz hlt hm hn
            go_wp2
            go_ret3
            exact ⟨ret_iii (getX_ok HE.out).symm (by rw [getTo_ok HE.out]; omega) HE.out.symm, rfl⟩

set_option maxRecDepth 100000 in
set_option maxHeartbeats 4000000 in
/-- The reference's GetNum. -/
theorem rget (s : ByteArray) (a : Int) (w : World) (hs : s.size ≤ 9223372036854770000) (ha0 : -9223372036854775808 ≤ a) (ha1 : a ≤ 9223372036854775807) :
    Calls Tryd.prog 31 #[.string s, .int .i64 a] w fun e w' => e = .returned (.tuple #[.int .i64 (getX s a), .int .i64 (getTo s a), .int .i64 (getE s a)]) ∧ w' = w := by
  by_cases h0 : a < 0
  · have h := getE_neg (s := s) h0
    rw [getX_ne (by rw [h]; decide), getTo_ne (by rw [h]; decide), h]
    clear h
    go_enter Tryd.func31, Tryd.ntmps31
    go_wp2
    go_ret3
    exact ⟨rfl, rfl⟩
  by_cases h1 : (s.size : Int) < a
  · have h := getE_far h1
    rw [getX_ne (by rw [h]; decide), getTo_ne (by rw [h]; decide), h]
    have h0' : 0 ≤ a := by omega
    clear h h0
    go_enter Tryd.func31, Tryd.ntmps31
    go_wp2
    go_ret3
    exact ⟨rfl, rfl⟩
  by_cases h2 : a = s.size
  · have h := getE_end h2
    rw [getX_ne (by rw [h]; decide), getTo_ne (by rw [h]; decide), h]
    subst h2
    clear h h0 h1
    go_enter Tryd.func31, Tryd.ntmps31
    go_wp2
    go_ret3
    exact ⟨rfl, rfl⟩
  obtain ⟨k, rfl⟩ : ∃ k : Nat, a = k := ⟨a.toNat, by omega⟩
  have hk : k < s.size := by omega
  have hg0 : ∀ h : k < s.size, (s[k]'h).toNat = gb s k := gb_get s k
  have hv := gb_lt s k
  clear h0 h1 h2 ha0 ha1
  by_cases h4 : 4 < gb s k
  · have h := getE_big hk h4
    rw [getX_ne (by rw [h]; decide), getTo_ne (by rw [h]; decide), h]
    clear h
    go_enter Tryd.func31, Tryd.ntmps31
    go_wp2
    go_ret3
    exact ⟨rfl, rfl⟩
  have h4' : gb s k ≤ 4 := by omega
  by_cases hc : s.size < k + 1 + gb s k
  · have h := getE_cut hk h4' hc
    rw [getX_ne (by rw [h]; decide), getTo_ne (by rw [h]; decide), h]
    clear h h4 hv
    go_enter Tryd.func31, Tryd.ntmps31
    go_wp2
    go_ret3
    exact ⟨rfl, rfl⟩
  · exact rget_in s k w hs hk h4' (by omega)
end Go.Proofs.YtodngcpphnmphaaDoor
