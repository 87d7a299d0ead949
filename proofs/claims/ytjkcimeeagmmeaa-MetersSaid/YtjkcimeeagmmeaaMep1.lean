/- Package meter's helpers: what areNums and may answer. No condition. -/
import Derived.Test.YtjkcimeeagmmeaaMel
namespace Go.Proofs.Ytjkcimeeagmmeaa
open Go Go.RowKit

set_option maxRecDepth 100000 in
set_option maxHeartbeats 4000000 in
theorem pmenums (l : List Int) (R : Bool) (h : l.all meNum = R) (m : Nat) (hm : l.length = m) (hm4 : m ≤ 4) (W : World) (b : Nat) (hc : ∀ j, j < m → W.cell? ⟨b, j, none⟩ = some (.int .i64 (l.getD j 0))) : Calls Try.prog 14 #[.slice (some ⟨b, 0, none⟩) m m] W fun e w' => e = .returned (.bool R) ∧ W = w' := by
  have HM : R = true ↔ ∀ j, j < m → meNum (l.getD j 0) = true := by
    rw [← h, List.all_eq_true]
    constructor
    · intro h j hj
      rw [List.getD, List.getElem?_eq_getElem (by omega)]
      exact h _ (List.getElem_mem _)
    · intro h x hx
      obtain ⟨j, hj, rfl⟩ := List.mem_iff_getElem.1 hx
      have := h j (by omega)
      rw [List.getD, List.getElem?_eq_getElem hj] at this
      exact this
  replace HM := Lib.hid HM
  have HC := Lib.hid hc
  clear h hm hc
  go_enter Try.func14, Try.ntmps14
  go_wp2
  go_loopw [7] (fun i wr => ∃ n : Nat, n ≤ m ∧ i = .int .i64 n ∧ (∀ j, j < n → meNum (l.getD j 0) = true) ∧ W = wr) (fun i _ => m - (intOf i).toNat)
  case atStart => exact ⟨0, by omega, rfl, fun j hj => absurd hj (by omega), rfl⟩
  case round =>
    obtain ⟨n, hn, rfl, hall, rfl⟩ := hrel
    have HA := Lib.hid hall
    clear hall
    by_cases hlt : n < m
    · have hcell := HC.out n hlt
      obtain ⟨z, hz⟩ : ∃ z, l.getD n 0 = z := ⟨_, rfl⟩
      rw [hz] at hcell
      have Hz := Lib.hid hz
      clear hz
      cases ho : meNum z with
      | true =>
        have HO := Lib.hid ho
        obtain ⟨o1, o2⟩ := meNum_iff.1 ho
        clear ho
        have q1 : ¬ z < 0 := by omega
        have q2 : ¬ 1073741823 < z := by omega
        go_wp2
        go_roundw
        case rel =>
          refine ⟨n + 1, by omega, by go_num, fun j hj => ?_, trivial⟩
          by_cases e : j = n
          · subst e; rw [Hz.out]; exact HO.out
          · exact HA.out j (by omega)
        case measure => simp [intOf]; omega
      | false =>
        have HO := Lib.hid ho
        have ho' := meNum_no.1 ho
        clear ho
        obtain rfl : R = false := by
          cases R with
          | false => rfl
          | true =>
            have := HM.out.1 rfl n hlt
            rw [Hz.out, HO.out] at this
            cases this
        by_cases q1 : z < 0
        · clear ho'
          go_wp2
          all_goals (go_ret; exact ⟨rfl, rfl⟩)
        · have q2 : 1073741823 < z := by omega
          clear ho'
          go_wp2
          all_goals (go_ret; exact ⟨rfl, rfl⟩)
    · obtain rfl : n = m := by omega
      obtain rfl : R = true := HM.out.2 HA.out
      go_wp2
      go_ret
      exact ⟨rfl, rfl⟩
theorem pmenum3 (x y z : Int) (R : Bool) (h : (meNum x && meNum y && meNum z) = R) (W : World) (b : Nat) (hb : Blk W b #[.int .i64 x, .int .i64 y, .int .i64 z]) : Calls Try.prog 14 #[.slice (some ⟨b, 0, none⟩) 3 3] W fun e w' => e = .returned (.bool R) ∧ W = w' := by
  refine pmenums [x, y, z] R (by simp [← h, Bool.and_assoc]) 3 rfl (by omega) W b fun j hj => ?_
  rw [hb.cell]
  match j, hj with
  | 0, _ => rfl
  | 1, _ => rfl
  | 2, _ => rfl
theorem pmenum4 (x y z u : Int) (R : Bool) (h : (meNum x && meNum y && meNum z && meNum u) = R) (W : World) (b : Nat) (hb : Blk W b #[.int .i64 x, .int .i64 y, .int .i64 z, .int .i64 u]) : Calls Try.prog 14 #[.slice (some ⟨b, 0, none⟩) 4 4] W fun e w' => e = .returned (.bool R) ∧ W = w' := by
  refine pmenums [x, y, z, u] R (by simp [← h, Bool.and_assoc]) 4 rfl (by omega) W b fun j hj => ?_
  rw [hb.cell]
  match j, hj with
  | 0, _ => rfl
  | 1, _ => rfl
  | 2, _ => rfl
  | 3, _ => rfl
set_option maxRecDepth 100000 in
set_option maxHeartbeats 4000000 in
theorem pmemay (s l b : Int) (w : World) : Calls Try.prog 13 #[.agg (meA s l b)] w fun e w' => e = .returned (.bool (meMay s l b)) ∧ Below w.heap.size w w' := by
  have HB := Lib.hid (fun (O : Obj) => ((Below.refl w.heap.size w).alloc (Nat.le_refl _) (.cells (meA s l b) TMe)).alloc (by simp) O)
  unfold meMay
  have ka := Blk.new w (meA s l b) TMe
  have ea := ka.cell
  cases hn : (meNum s && meNum l && meNum b) with
  | false =>
    go_enter Try.func13, Try.ntmps13
    go_wp2_with (go_at_call 14; (with_reducible refine (pmenum3 s l b _ hn _ _ (Blk.new' _ _ (by simp) _ _)).mono ?_); rintro e w1 ⟨rfl, rfl⟩)
    go_ret
    exact ⟨rfl, HB.out _⟩
  | true =>
    go_enter Try.func13, Try.ntmps13
    go_wp2_with (go_at_call 14; (with_reducible refine (pmenum3 s l b _ hn _ _ (Blk.new' _ _ (by simp) _ _)).mono ?_); rintro e w1 ⟨rfl, rfl⟩)
    go_ret
    exact ⟨by simp, HB.out _⟩
end Go.Proofs.Ytjkcimeeagmmeaa
