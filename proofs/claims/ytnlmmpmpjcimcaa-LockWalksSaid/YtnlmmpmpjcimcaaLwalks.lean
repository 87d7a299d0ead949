/- The walk of LockWalks: of failures at any ticks so many are taken, then none until the lock is over. No condition but the row's length. -/
import Derived.Test.YtnlmmpmpjcimcaaLspans
import Derived.Test.YtnlmmpmpjcimcaaIArg
namespace Go.Proofs.Ytnlmmpmpjcimcaa
open Go Go.RowKit

set_option maxRecDepth 100000 in
set_option maxHeartbeats 16000000 in
theorem lwalks_walk' (ao : Option Addr) (cap : Nat) (zs : List Int) (most lockout m o : Int) (w : World) (hZ : IArg w ao zs) (hm : 1 + (IntKind.u64.wrap most).tmod 8 = m) (m0 : 1 ≤ m) (m1 : m ≤ 8)
    (ho : bits .and .i64 lockout 63 = o - 1) (o0 : 1 ≤ o) (o1 : o ≤ 64) :
    Calls Try.prog 4 #[.slice ao zs.length cap, .int .i64 most, .int .i64 lockout] w fun e w' => e = .returned (.bool true) ∧ Below w.heap.size w w' := by
  obtain ⟨r8, hr⟩ : ∃ r, (IntKind.u64.wrap most).tmod 8 = r := ⟨_, rfl⟩
  rw [hr] at hm
  have hro : 1 + (o - 1) = o := by omega
  have hfew := hZ.few
  have HZ := Lib.hid hZ
  clear hZ
  have hB := Below.refl w.heap.size w
  go_enter Try.func4, Try.ntmps4
  go_wp2_with (first
    | (go_at_call 12; (with_reducible refine (awake13 _).mono ?_); rintro e w1 ⟨rfl, hb⟩; replace hB := hb; clear hb; have hs1 := hB.size))
  have kk := Blk.new w1 #[.int .i64 0, .int .i64 0] 23
  have hB2 := hB.alloc hB.size (.cells #[.int .i64 0, .int .i64 0] 23)
  go_loopw [10, 11, 12, 13] (fun x10 x11 x12 x13 wr => ∃ (i : Nat) (a r u kf : Int), i ≤ zs.length ∧ i ≤ 60 ∧ x10 = .int .i64 a ∧ x11 = .int .i64 r ∧ x12 = .int .i64 u ∧ x13 = .int .i64 (i : Int) ∧ (0 ≤ a ∧ a ≤ 15 * i) ∧ (0 ≤ r ∧ r < m) ∧ (0 ≤ u ∧ u ≤ 15 * i + 64) ∧ (kf = r ∨ r = 0 ∧ kf = m) ∧ Blk wr w1.heap.size #[.int .i64 kf, .int .i64 u] ∧ Below w.heap.size w wr) (fun _ _ _ z _ => 61 - (intOf z).toNat)
  case atStart => exact ⟨0, 0, 0, 0, 0, Nat.zero_le _, by omega, rfl, rfl, rfl, rfl, by omega, by omega, by omega, .inl rfl, kk, hB2⟩
  case round =>
    clear kk hB2 hB
    obtain ⟨i, a, r, u, kf, hil, hi60, rfl, rfl, rfl, rfl, ⟨a0, a1⟩, ⟨r0, r1⟩, ⟨u0, u1⟩, hkf, kk, hB⟩ := hrel
    by_cases hgo : i < zs.length ∧ i < 60
    · obtain ⟨hlt, h60⟩ := hgo
      obtain ⟨bb, off, zi, rfl, _, _, hcw⟩ := HZ.out.at hlt
      have hc := hcw _ hB
      clear hcw
      have mz := i64_mask zi 4 (by omega)
      rw [show ((2 ^ 4 - 1 : Nat) : Int) = 15 from by decide, show ((2 ^ 4 : Nat) : Int) = 16 from by decide] at mz
      obtain ⟨d, hd⟩ : ∃ d, zi % 16 = d := ⟨_, rfl⟩
      have d0 : 0 ≤ d := by omega
      have d1 : d ≤ 15 := by omega
      rw [hd] at mz
      clear hd
      have hz1 : (i : Int) < (zs.length : Int) := by omega
      have hz2 : (i : Int) < 60 := by omega
      have ek := kk.cell
      have gk := kk.froz
      have lk := kk.lt
      by_cases ho : u ≤ a + d
      · by_cases cm : r + 1 = m
        · have hF := Lib.hid (fun W => kfail_yes kf u (a + d) m o (r + 1) (a + d + o) (by unfold lkOk; omega) (by unfold lkC; split <;> omega) (by rw [if_pos (by omega)]) W)
          have hrm : (r + 1 == m) = true := by simp [cm]
          go_wp2_with (first
            | (go_at_call 10; (with_reducible refine (kopen _ _ _ true (by simp; omega) _).mono ?_); rintro e w2 ⟨rfl, hb⟩; replace kk := kk.step hb; replace hB := hB.trans (hb.mono hB.size); clear hb; have ek := kk.cell; have gk := kk.froz; have lk := kk.lt)
            | (go_at_call 7; (with_reducible refine (hF.out _).mono ?_); rintro e w3 ⟨rfl, hb⟩; replace kk := kk.step hb; replace hB := hB.trans (hb.mono hB.size); clear hb; have ek := kk.cell; have gk := kk.froz; have lk := kk.lt)
            | (go_at_call 9; (with_reducible refine (lnum _ _).mono ?_); rintro e w7 ⟨rfl, rfl⟩))
          go_roundw
          case rel => exact ⟨i + 1, a + d, 0, a + d + o, m, by omega, by omega, rfl, rfl, rfl, by go_num, by omega, by omega, by omega, .inr ⟨rfl, rfl⟩, (kk.two _ _).alloc _, ((hB.setCell hs1 _).setCell hs1 _).alloc (by simp; exact hB.size) _⟩
          case measure => simp [intOf]; omega
        · have hF := Lib.hid (fun W => kfail_yes kf u (a + d) m o (r + 1) (u) (by unfold lkOk; omega) (by unfold lkC; split <;> omega) (by rw [if_neg (by omega)]) W)
          have hrm : (r + 1 == m) = false := by simp [cm]
          go_wp2_with (first
            | (go_at_call 10; (with_reducible refine (kopen _ _ _ true (by simp; omega) _).mono ?_); rintro e w2 ⟨rfl, hb⟩; replace kk := kk.step hb; replace hB := hB.trans (hb.mono hB.size); clear hb; have ek := kk.cell; have gk := kk.froz; have lk := kk.lt)
            | (go_at_call 7; (with_reducible refine (hF.out _).mono ?_); rintro e w3 ⟨rfl, hb⟩; replace kk := kk.step hb; replace hB := hB.trans (hb.mono hB.size); clear hb; have ek := kk.cell; have gk := kk.froz; have lk := kk.lt)
            | (go_at_call 9; (with_reducible refine (lnum _ _).mono ?_); rintro e w7 ⟨rfl, rfl⟩))
          go_roundw
          case rel => exact ⟨i + 1, a + d, r + 1, u, r + 1, by omega, by omega, rfl, rfl, rfl, by go_num, by omega, by omega, by omega, .inl rfl, (kk.two _ _).alloc _, ((hB.setCell hs1 _).setCell hs1 _).alloc (by simp; exact hB.size) _⟩
          case measure => simp [intOf]; omega
      · go_wp2_with (first
          | (go_at_call 10; (with_reducible refine (kopen _ _ _ false (by simp; omega) _).mono ?_); rintro e w2 ⟨rfl, hb⟩; replace kk := kk.step hb; replace hB := hB.trans (hb.mono hB.size); clear hb; have ek := kk.cell; have gk := kk.froz; have lk := kk.lt))
        go_roundw
        case rel => exact ⟨i + 1, a + d, r, u, kf, by omega, by omega, rfl, rfl, rfl, by go_num, by omega, by omega, by omega, hkf, kk, hB⟩
        case measure => simp [intOf]; omega
    · have hcond : ¬ ((i : Int) < (zs.length : Int) ∧ (i : Int) < 60) := by omega
      go_wp2
      all_goals (go_ret; exact ⟨rfl, hB⟩)
theorem lwalks_walk (ao : Option Addr) (cap : Nat) (zs : List Int) (most lockout : Int) (w : World) (hZ : IArg w ao zs) :
    Calls Try.prog 4 #[.slice ao zs.length cap, .int .i64 most, .int .i64 lockout] w fun e w' => e = .returned (.bool true) ∧ Below w.heap.size w w' := by
  have hu0 : 0 ≤ IntKind.u64.wrap most := by rw [IntKind.wrap_u64]; omega
  have ho := i64_mask lockout 6 (by omega)
  rw [show ((2 ^ 6 - 1 : Nat) : Int) = 63 from by decide, show ((2 ^ 6 : Nat) : Int) = 64 from by decide] at ho
  have hm := Int.tmod_eq_emod_of_nonneg (b := 8) hu0
  exact lwalks_walk' ao cap zs most lockout _ (1 + lockout % 64) w hZ rfl (by omega) (by omega) (by rw [ho]; omega) (by omega) (by omega)
end Go.Proofs.Ytnlmmpmpjcimcaa
