/- The walk of LockSpans: a lock is open just outside of its time. No condition. -/
import Derived.Test.YtnlmmpmpjcimcaaLkaw
import Derived.Test.YtnlmmpmpjcimcaaFplain3
import Derived.Deep.RegionWith
import Derived.LoopN
namespace Go.Proofs.Ytnlmmpmpjcimcaa
open Go Go.RowKit

theorem Blk.two {W : World} {b : Nat} {x y : Value} (h : Blk W b #[x, y]) (x' y' : Value) : Blk ((W.setCell ⟨b, 0, none⟩ x').setCell ⟨b, 1, none⟩ y') b #[x', y'] := by
  have := (h.setIf 0 x' (by simp)).setIf 1 y' (by simp)
  simpa using this

set_option maxRecDepth 100000 in
set_option maxHeartbeats 16000000 in
theorem lspans_walk' (tick most lockout ask t m o q : Int) (w : World) (ht : bits .and .i64 tick 1023 = t) (t0 : 0 ≤ t) (t1 : t ≤ 1023) (hm : 1 + (IntKind.u64.wrap most).tmod 8 = m) (m0 : 1 ≤ m) (m1 : m ≤ 8)
    (ho : bits .and .i64 lockout 1023 = o - 1) (o0 : 1 ≤ o) (o1 : o ≤ 1024) (hq : bits .and .i64 ask 2047 = q) (q0 : 0 ≤ q) (q1 : q ≤ 2047) :
    Calls Try.prog 6 #[.int .i64 tick, .int .i64 most, .int .i64 lockout, .int .i64 ask] w fun e w' => e = .returned (.bool true) ∧ Below w.heap.size w w' := by
  obtain ⟨r, hr⟩ : ∃ r, (IntKind.u64.wrap most).tmod 8 = r := ⟨_, rfl⟩
  rw [hr] at hm
  have hro : 1 + (o - 1) = o := by omega
  have hB := Below.refl w.heap.size w
  go_enter Try.func6, Try.ntmps6
  go_wp2_with (first
    | (go_at_call 12; (with_reducible refine (awake13 _).mono ?_); rintro e w1 ⟨rfl, hb⟩; replace hB := hb; clear hb; have hs1 := hB.size))
  have kk := Blk.new w1 #[.int .i64 0, .int .i64 0] 23
  have hB2 := hB.alloc hB.size (.cells #[.int .i64 0, .int .i64 0] 23)
  go_loopw [13] (fun z wr => ∃ i : Nat, (i : Int) ≤ m ∧ z = .int .i64 (i : Int) ∧ Blk wr w1.heap.size #[.int .i64 (i : Int), .int .i64 (if (i : Int) = m then t + o else 0)] ∧ Below w.heap.size w wr) (fun z _ => (m - intOf z).toNat)
  case atStart => exact ⟨0, by omega, rfl, by rw [if_neg (by omega)]; exact kk, hB2⟩
  case round =>
    clear kk hB2 hB
    obtain ⟨i, hi, rfl, kk, hB⟩ := hrel
    by_cases c : (i : Int) = m
    · rw [if_pos c, c] at kk
      have hlt : decide ((i : Int) < m) = false := by simp; omega
      rw [c] at hlt ⊢
      have ek := kk.cell
      have gk := kk.froz
      have lk := kk.lt
      clear c hi
      by_cases ca : t + q < t + o
      · go_wp2_with (first
          | (go_at_call 7; (with_reducible refine (kfail_no _ _ _ _ _ (by unfold lkOk; omega) _).mono ?_); rintro e w2 ⟨rfl, hb⟩; replace kk := kk.step hb; replace hB := hB.trans (hb.mono hB.size); clear hb; have ek := kk.cell; have gk := kk.froz; have lk := kk.lt)
          | (go_at_call 10; (with_reducible refine (kopen _ _ _ false (by simp; omega) _).mono ?_); rintro e w3 ⟨rfl, hb⟩; have ka := (Blk.new _ _ _).step hb; replace hB := (hB.alloc hB.size _).trans (hb.mono (by simp; have := hB.size; omega)); clear hb; have ea := ka.cell; have ga := ka.froz; have la := ka.lt)
          | (go_at_call 9; (with_reducible refine (lnum _ _).mono ?_); rintro e w7 ⟨rfl, rfl⟩))
        go_ret
        exact ⟨rfl, hB⟩
      · by_cases cm : m = 1
        · have hF := Lib.hid (fun W => kfail_yes m (t + o) (t + q) m o 1 (t + q + o) (by unfold lkOk; omega) (by unfold lkC; rw [if_pos (by omega)]) (by rw [if_pos (by omega)]) W)
          have hm1 : (m == 1) = true := by simp [cm]
          clear cm
          go_wp2_with (first
            | (go_at_call 7; (with_reducible refine (hF.out _).mono ?_); rintro e w2 ⟨rfl, hb⟩; replace kk := kk.step hb; replace hB := hB.trans (hb.mono hB.size); clear hb; have ek := kk.cell; have gk := kk.froz; have lk := kk.lt)
            | (go_at_call 10; (with_reducible refine (kopen _ _ _ true (by simp; omega) _).mono ?_); rintro e w3 ⟨rfl, hb⟩; obtain ⟨ka, kb, hb2⟩ := lk_two hb; replace hB := hB.trans (hb2.mono hB.size); clear hb hb2; have ea := ka.cell; have ga := ka.froz; have la := ka.lt; have eb := kb.cell; have gb := kb.froz; have lb := kb.lt)
            | (go_at_call 9; (with_reducible refine (lnum _ _).mono ?_); rintro e w7 ⟨rfl, rfl⟩))
          go_ret
          exact ⟨rfl, hB⟩
        · have hF := Lib.hid (fun W => kfail_yes m (t + o) (t + q) m o 1 (t + o) (by unfold lkOk; omega) (by unfold lkC; rw [if_pos (by omega)]) (by rw [if_neg (by omega)]) W)
          have hm1 : (m == 1) = false := by simp [cm]
          clear cm
          go_wp2_with (first
            | (go_at_call 7; (with_reducible refine (hF.out _).mono ?_); rintro e w2 ⟨rfl, hb⟩; replace kk := kk.step hb; replace hB := hB.trans (hb.mono hB.size); clear hb; have ek := kk.cell; have gk := kk.froz; have lk := kk.lt)
            | (go_at_call 10; (with_reducible refine (kopen _ _ _ true (by simp; omega) _).mono ?_); rintro e w3 ⟨rfl, hb⟩; obtain ⟨ka, kb, hb2⟩ := lk_two hb; replace hB := hB.trans (hb2.mono hB.size); clear hb hb2; have ea := ka.cell; have ga := ka.froz; have la := ka.lt; have eb := kb.cell; have gb := kb.froz; have lb := kb.lt)
            | (go_at_call 9; (with_reducible refine (lnum _ _).mono ?_); rintro e w7 ⟨rfl, rfl⟩))
          go_ret
          exact ⟨rfl, hB⟩
    · rw [if_neg c] at kk
      have him : (i : Int) < m := by omega
      have ek := kk.cell
      have gk := kk.froz
      have lk := kk.lt
      have hF := Lib.hid (fun W => kfail_yes (i : Int) 0 t m o ((i : Int) + 1) (if (i : Int) + 1 = m then t + o else 0) (by unfold lkOk; omega) (by unfold lkC; rw [if_neg (by omega)]) rfl W)
      obtain ⟨V, hV⟩ : ∃ V, (if (i : Int) + 1 = m then t + o else 0) = V := ⟨_, rfl⟩
      rw [hV] at hF
      have hV' := Lib.hid hV
      clear hV c
      go_wp2_with (first
        | (go_at_call 10; (with_reducible refine (kopen _ _ _ true (by simp; omega) _).mono ?_); rintro e w2 ⟨rfl, hb⟩; replace kk := kk.step hb; replace hB := hB.trans (hb.mono hB.size); clear hb; have ek := kk.cell; have gk := kk.froz; have lk := kk.lt)
        | (go_at_call 7; (with_reducible refine (hF.out _).mono ?_); rintro e w3 ⟨rfl, hb⟩; replace kk := kk.step hb; replace hB := hB.trans (hb.mono hB.size); clear hb; have ek := kk.cell; have gk := kk.froz; have lk := kk.lt)
        | (go_at_call 9; (with_reducible refine (lnum _ _).mono ?_); rintro e w7 ⟨rfl, rfl⟩))
      go_roundw
      case rel => exact ⟨i + 1, by omega, by simp, by simp only [Int.natCast_add, Int.natCast_one, hV'.out]; exact (kk.two _ _).alloc _, ((hB.setCell hs1 _).setCell hs1 _).alloc (by simp; exact hB.size) _⟩
      case measure => simp [intOf]; omega
theorem lspans_walk (tick most lockout ask : Int) (w : World) :
    Calls Try.prog 6 #[.int .i64 tick, .int .i64 most, .int .i64 lockout, .int .i64 ask] w fun e w' => e = .returned (.bool true) ∧ Below w.heap.size w w' := by
  have hu0 : 0 ≤ IntKind.u64.wrap most := by rw [IntKind.wrap_u64]; omega
  have ht := i64_mask tick 10 (by omega)
  have ho := i64_mask lockout 10 (by omega)
  have hq := i64_mask ask 11 (by omega)
  rw [show ((2 ^ 10 - 1 : Nat) : Int) = 1023 from by decide, show ((2 ^ 10 : Nat) : Int) = 1024 from by decide] at ht ho
  rw [show ((2 ^ 11 - 1 : Nat) : Int) = 2047 from by decide, show ((2 ^ 11 : Nat) : Int) = 2048 from by decide] at hq
  have hm := Int.tmod_eq_emod_of_nonneg (b := 8) hu0
  exact lspans_walk' tick most lockout ask _ _ (1 + lockout % 1024) _ w ht (by omega) (by omega) rfl (by omega) (by omega) (by rw [ho]; omega) (by omega) (by omega) hq (by omega) (by omega)
end Go.Proofs.Ytnlmmpmpjcimcaa
