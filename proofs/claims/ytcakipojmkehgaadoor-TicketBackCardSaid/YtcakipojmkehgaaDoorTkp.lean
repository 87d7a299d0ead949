/- Package ticket's helpers: what isUpTo, row, may, join, ask, errno answer. Condition: where ask is concerned, that the epoch is a number that may be. -/
import Derived.Test.YtcakipojmkehgaaDoorTk
import Derived.Test.YtcakipojmkehgaaDoorRgp
import Derived.Test.YtcakipojmkehgaaDoorFis
import Derived.Test.YtcakipojmkehgaaDoorBfg
import Derived.Test.YtcakipojmkehgaaDoorDoesG
import Derived.Test.YtcakipojmkehgaaDoorBlk
import Derived.LoopN
namespace Go.Proofs.YtcakipojmkehgaaDoor
open Go Go.RowKit

theorem tkup (x m : Int) (r : Bool) (h : r = (decide (0 ≤ x) && decide (x ≤ m))) (w : World) : Calls Tryd.prog 46 #[.int .i64 x, .int .i64 m] w fun e w' => e = .returned (.bool r) ∧ w = w' := by
  subst h
  go_enter Tryd.func46, Tryd.ntmps46
  go_wp2
  all_goals (go_ret; refine ⟨?_, rfl⟩; congr 2; simp [*] <;> omega)
theorem tkupN (x : Int) (r : Bool) (h : okNum x = r) (w : World) : Calls Tryd.prog 46 #[.int .i64 x, .int .i64 1073741823] w fun e w' => e = .returned (.bool r) ∧ w = w' :=
  tkup x 1073741823 r h.symm w
theorem tkrow (u g x s k : Int) (w : World) : Calls Tryd.prog 52 #[.agg #[.int .i64 u, .int .i64 g, .int .i64 x, .int .i64 s, .int .i64 k]] w fun e w' => ∃ b : Nat, e = .returned (.slice (some ⟨b, 0, none⟩) 5 5) ∧ Blk w' b #[.int .i64 u, .int .i64 g, .int .i64 x, .int .i64 s, .int .i64 k] ∧ Below w.heap.size w w' := by
  go_enter Tryd.func52, Tryd.ntmps52
  go_wp2
  go_ret
  exact ⟨w.heap.size + 1, rfl, Blk.new' _ _ (by simp) _ _, ((Below.refl _ _).alloc (Nat.le_refl _) _).alloc (by simp) _⟩
/-- field.Num, at any number. -/
theorem tknum (x : Int) (w : World) : Calls Tryd.prog 53 #[.int .i64 x] w fun e w' => e = .returned (.tuple #[.string (numS x), .int .i64 (numE x)]) ∧ Below w.heap.size w w' := by
  by_cases h : -9223372036854775808 ≤ x ∧ x ≤ 9223372036854775807
  · exact fnum x w h.1 h.2
  · by_cases h0 : x < 0
    · rw [numS_bad (.inl h0), numE_bad (.inl h0)]
      clear h
      go_enter Tryd.func53, Tryd.ntmps53
      go_wp2
      go_ret2
      exact ⟨rfl, Below.refl _ _⟩
    · have h1 : 1073741823 < x := by omega
      have h2 : 0 ≤ x := by omega
      rw [numS_bad (.inr h1), numE_bad (.inr h1)]
      clear h h0
      go_enter Tryd.func53, Tryd.ntmps53
      go_wp2
      go_ret2
      exact ⟨rfl, Below.refl _ _⟩
theorem five_at (u g x s k : Int) (i : Nat) (hi : i < 5) : (#[.int .i64 u, .int .i64 g, .int .i64 x, .int .i64 s, .int .i64 k] : Array Value)[i]? = some (.int .i64 ([u, g, x, s, k].getD i 0)) := by
  match i, hi with
  | 0, _ => rfl
  | 1, _ => rfl
  | 2, _ => rfl
  | 3, _ => rfl
  | 4, _ => rfl
theorem Bd.may_row (t : Bd) : t.may = true ↔ (∀ j, j < 5 → okNum (t.row.getD j 0) = true) ∧ t.u < 8 := by
  rw [Bd.may_iff]
  constructor
  · rintro ⟨h1, h2, h3, h4, h5, h6⟩
    refine ⟨fun j hj => ?_, h6⟩
    match j, hj with
    | 0, _ => exact h1
    | 1, _ => exact h2
    | 2, _ => exact h3
    | 3, _ => exact h4
    | 4, _ => exact h5
  · rintro ⟨h, h6⟩
    exact ⟨h 0 (by omega), h 1 (by omega), h 2 (by omega), h 3 (by omega), h 4 (by omega), h6⟩
set_option maxRecDepth 100000 in
set_option maxHeartbeats 4000000 in
theorem tkmay (t : Bd) (w : World) : Calls Tryd.prog 37 #[t.val] w fun e w' => e = .returned (.bool t.may) ∧ Below w.heap.size w w' := by
  have hM := t.may_row
  obtain ⟨u, g, x, s, k⟩ := t
  have hN : (Bd.mk u g x s k).may = false ∨ u < 8 ∨ ¬ u < 8 := .inr (Classical.em _)
  generalize hr : (Bd.mk u g x s k).may = R at *
  simp only [Bd.row] at hM
  unfold Bd.val
  have hc := five_at u g x s k
  have HM := Lib.hid hM
  have HC := Lib.hid hc
  have HR := Lib.hid (fun w => tkrow u g x s k w)
  clear hM hr hc hN
  go_enter Tryd.func37, Tryd.ntmps37
  have hb0 := Blk.new w #[.int .i64 u, .int .i64 g, .int .i64 x, .int .i64 s, .int .i64 k] 34
  have hl0 : Below w.heap.size w (w.alloc (.cells #[.int .i64 u, .int .i64 g, .int .i64 x, .int .i64 s, .int .i64 k] 34)) := (Below.refl _ _).alloc (Nat.le_refl _) _
  go_wp2_with (go_at_call 52; (with_reducible refine (HR.out _).mono ?_); rintro e w1 ⟨b, rfl, hb, hl⟩; replace hb0 := hb0.step hl; replace hl0 := hl0.trans (hl.mono hl0.size); clear hl)
  go_loopw [8] (fun i wr => ∃ n : Nat, n ≤ 5 ∧ i = .int .i64 n ∧ (∀ j, j < n → okNum ([u, g, x, s, k].getD j 0) = true) ∧ Blk wr w.heap.size #[.int .i64 u, .int .i64 g, .int .i64 x, .int .i64 s, .int .i64 k] ∧ Blk wr b #[.int .i64 u, .int .i64 g, .int .i64 x, .int .i64 s, .int .i64 k] ∧ Below w.heap.size w wr) (fun i _ => 5 - (intOf i).toNat)
  case atStart => exact ⟨0, by omega, rfl, fun j hj => absurd hj (by omega), hb0, hb, hl0⟩
  case round =>
    clear hb0 hb hl0
    obtain ⟨n, hn, rfl, hall, hb0, hb, hl0⟩ := hrel
    have HA := Lib.hid hall
    clear hall
    by_cases hlt : n < 5
    · have hcell := (hb.cell n).trans (HC.out n hlt)
      obtain ⟨z, hz⟩ : ∃ z, [u, g, x, s, k].getD n 0 = z := ⟨_, rfl⟩
      rw [hz] at hcell
      have Hz := Lib.hid hz
      clear hz
      cases ho : okNum z with
      | true =>
        have HO := Lib.hid ho
        clear ho
        go_wp2_with (go_at_call 46; (with_reducible refine (tkupN _ _ HO.out _).mono ?_); rintro e w2 ⟨rfl, rfl⟩)
        go_roundw
        case rel =>
          refine ⟨n + 1, by omega, by go_num, fun j hj => ?_, hb0, hb, hl0⟩
          by_cases e : j = n
          · subst e; rw [Hz.out]; exact HO.out
          · exact HA.out j (by omega)
        case measure => simp [intOf]; omega
      | false =>
        have HO := Lib.hid ho
        clear ho
        obtain rfl : R = false := by
          cases R with
          | false => rfl
          | true =>
            have := (HM.out.1 rfl).1 n hlt
            rw [Hz.out, HO.out] at this
            cases this
        go_wp2_with (go_at_call 46; (with_reducible refine (tkupN _ _ HO.out _).mono ?_); rintro e w2 ⟨rfl, rfl⟩)
        go_ret
        exact ⟨rfl, hl0⟩
    · obtain rfl : n = 5 := by omega
      have hR : R = decide (u < 8) := by
        cases R with
        | true => exact (decide_eq_true (HM.out.1 rfl).2).symm
        | false =>
          refine (decide_eq_false fun c => ?_).symm
          exact absurd (HM.out.2 ⟨HA.out, c⟩) (by simp)
      subst hR
      have e0 := hb0.cell
      clear HM HA HC
      go_wp2
      all_goals (go_ret; exact ⟨rfl, hl0⟩)
set_option maxRecDepth 100000 in
set_option maxHeartbeats 4000000 in
theorem tkjoin (t : Bd) (w : World) : Calls Tryd.prog 41 #[t.val] w fun e w' => e = .returned (.string t.enc) ∧ Below w.heap.size w w' := by
  obtain ⟨u, g, x, s, k⟩ := t
  unfold Bd.val Bd.enc Bd.row
  have HC := Lib.hid (five_at u g x s k)
  have HR := Lib.hid (fun w => tkrow u g x s k w)
  have HL : Hid (([u, g, x, s, k] : List Int).length = 5) := rfl
  dsimp only
  obtain ⟨l, hl⟩ : ∃ l, ([u, g, x, s, k] : List Int) = l := ⟨_, rfl⟩
  rw [hl] at HC HL ⊢
  clear hl
  go_enter Tryd.func41, Tryd.ntmps41
  have hl0 : Below w.heap.size w (w.alloc (.cells #[.int .i64 u, .int .i64 g, .int .i64 x, .int .i64 s, .int .i64 k] 34)) := (Below.refl _ _).alloc (Nat.le_refl _) _
  go_wp2_with (go_at_call 52; (with_reducible refine (HR.out _).mono ?_); rintro e w1 ⟨b, rfl, hb, hl⟩; replace hl0 := hl0.trans (hl.mono hl0.size); clear hl)
  go_loopw [3, 11] (fun o i wr => ∃ n : Nat, n ≤ 5 ∧ i = .int .i64 n ∧ o = .string (numsB (l.take n)) ∧ Blk wr b #[.int .i64 u, .int .i64 g, .int .i64 x, .int .i64 s, .int .i64 k] ∧ Below w.heap.size w wr) (fun _ i _ => 5 - (intOf i).toNat)
  case atStart => exact ⟨0, by omega, rfl, rfl, hb, hl0⟩
  case round =>
    clear hb hl0
    obtain ⟨n, hn, rfl, rfl, hb, hl0⟩ := hrel
    have hs3 : (numsB (l.take n)).size ≤ 25 := by
      have := numsB_size (l.take n)
      rw [List.length_take, HL.out] at this
      omega
    by_cases hlt : n < 5
    · have hcell := (hb.cell n).trans (HC.out n hlt)
      have HT := Lib.hid (numsB_take l n (by rw [HL.out]; exact hlt))
      have hs2 := numS_size (l.getD n 0)
      obtain ⟨z, hz⟩ : ∃ z, l.getD n 0 = z := ⟨_, rfl⟩
      rw [hz] at hcell HT hs2
      clear hz
      go_wp2_with (go_at_call 53; (with_reducible refine (tknum _ _).mono ?_); rintro e w2 ⟨rfl, hb2⟩)
      go_roundw
      case rel => exact ⟨n + 1, by omega, by go_num, by rw [HT.out], hb.step hb2, hl0.trans (hb2.mono hl0.size)⟩
      case measure => simp [intOf]; omega
    · obtain rfl : n = 5 := by omega
      have HT : Hid (numsB (l.take 5) = numsB l) := by rw [List.take_of_length_le (by rw [HL.out]; omega)]; rfl
      go_wp2
      go_ret
      first | exact ⟨rfl, hl0⟩ | exact ⟨ret_str HT.out, hl0⟩
end Go.Proofs.YtcakipojmkehgaaDoor
