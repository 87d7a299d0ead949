/- The walk of TotpOnce: a code is taken while its step is near, and not again. No condition. -/
import Derived.Test.YtgafgmcdbpdpgaaTpaw
import Derived.Test.YtgafgmcdbpdpgaaIArg
import Derived.Test.YtgafgmcdbpdpgaaFplain3
namespace Go.Proofs.Ytgafgmcdbpdpgaa
open Go Go.RowKit Go.Maps

/-- A book with one code, as Code leaves it. -/
theorem tp_one (most sec k : Int) (hm : 0 < most) (s0 : 0 ≤ sec) (s1 : sec ≤ 1073741823) (k0 : 1 ≤ k) (k1 : k ≤ 1048575) : tpE most [] sec k = 0 ∧ tpX most [] sec k = 0 ∧ tpT most [] sec k = [cdK sec k] := by
  have hk : okS k = true := (okS_iff _).2 ⟨k0, k1⟩
  have hs : okK (some sec) = true := (okNum_iff _).2 ⟨s0, s1⟩
  obtain ⟨e1, e2, e3⟩ := ck_new (most := most) (ts := []) (cdK_ok sec k) (by simp) (by simpa using hm)
  obtain ⟨g1, g2, g3⟩ := tp_ok (most := most) (ts := []) (sec := sec) hk (by rw [hs]; exact e2)
  rw [hs] at g2 g3
  exact ⟨g1, g2.trans e1, g3.trans e3⟩
theorem acc_one (sec i last tick : Int) (s0 : 0 ≤ sec) (s1 : sec ≤ 1073741823) (i0 : 1 ≤ i) (i1 : i ≤ 1048575) : accX [cdK sec i] sec last tick 0 = if stX tick ≠ 0 ∧ last < i ∧ stX tick - 1 ≤ i ∧ i ≤ stX tick + 1 then i else 0 := by
  have := acc_idx (ts := [cdK sec i]) (sec := sec) (i := i) last tick s0 s1 i0 i1 (by simp)
  rw [show idx [cdK sec i] (cdK sec i) = 0 from by simp [idx]] at this
  exact this

set_option maxRecDepth 100000 in
set_option maxHeartbeats 8000000 in
theorem tonce_walk (step : Int) (ao : Option Addr) (cap : Nat) (zs : List Int) (w : World) (hZ : IArg w ao zs) :
    Calls Try.prog 4 #[.int .i64 step, .slice ao zs.length cap] w fun e w' => e = .returned (.bool true) ∧ Below w.heap.size w w' := by
  have hfew := hZ.few
  have HZ := Lib.hid hZ
  have hmask := i64_mask step 5 (by omega)
  rw [show ((2 ^ 5 - 1 : Nat) : Int) = 31 from by decide, show ((2 ^ 5 : Nat) : Int) = 32 from by decide] at hmask
  obtain ⟨m, hm⟩ : ∃ m, step % 32 = m := ⟨_, rfl⟩
  have m0 : 0 ≤ m := by omega
  have m1 : m ≤ 31 := by omega
  rw [hm] at hmask
  clear hm hZ
  obtain ⟨s, hs⟩ : ∃ s, 1 + m = s := ⟨_, rfl⟩
  have s0 : 1 ≤ s := by omega
  have s1 : s ≤ 32 := by omega
  obtain ⟨o1, o2, o3⟩ := tp_one 9 77 s (by omega) (by omega) (by omega) s0 (by omega)
  have hC := fun p => ptcode p 9 [] 77 s (by omega) (by omega)
  rw [o1, o2, o3] at hC
  have hA := fun p last tick => ptaccept p 9 [cdK 77 s] 77 last tick 0 (by omega) (by omega)
  have hX := fun last tick => acc_one 77 s last tick (by omega) (by omega) s0 (by omega)
  have hL := fun p => dlen p 9 [cdK 77 s]
  rw [show (([cdK 77 s].length : Nat) : Int) = 1 from rfl] at hL
  generalize [cdK 77 s] = T at *
  have HC := Lib.hid hC
  have HA := Lib.hid hA
  have HX := Lib.hid hX
  have HL := Lib.hid hL
  clear hC hA hX hL o1 o2 o3
  go_enter Try.func4, Try.ntmps4
  go_wp2_with (first
    | (go_at_call 8; (with_reducible refine (awake12 _).mono ?_); rintro e w1 ⟨rfl, hb1⟩)
    | (go_at_call 7; (with_reducible refine (twin_none12 9 _ (by omega) (by omega)).mono ?_); rintro e w2 ⟨p, q, rfl, hb⟩; have hS := (At.start hb).under hb1; clear hb hb1)
    | (go_at_call 9; (with_reducible refine (At.op1 (HC.out _) (refA_good _ _ _) emp_good hS).mono ?_); rintro e w3 ⟨rfl, hS1⟩; replace hS := hS1; clear hS1)
    | (go_at_call 13; refine (lnum _ _).mono ?_; rintro e w4 ⟨rfl, rfl⟩))
  clear hmask hs m0 m1
  go_loopw [10, 11] (fun l i wr => ∃ (k : Nat) (last : Int), k ≤ zs.length ∧ i = .int .i64 k ∧ l = .int .i64 last ∧ 0 ≤ last ∧ last ≤ 32 ∧ At w ((refA q 9 []).star ((bookA p 9 T).star emp)) wr) (fun _ i _ => zs.length - (intOf i).toNat)
  case atStart => exact ⟨0, 0, Nat.zero_le _, rfl, rfl, by omega, by omega, hS⟩
  case round =>
    clear hS
    obtain ⟨k, last, hk, rfl, rfl, l0, l1, hS⟩ := hrel
    by_cases hlt : k < zs.length ∧ k < 40
    · obtain ⟨hlt, h40⟩ := hlt
      obtain ⟨b, off, z, rfl, hz, hzb, hcz⟩ := HZ.out.at hlt
      have Hcz := Lib.hid hcz
      have hc := hcz _ hS.bel
      have hzm := i64_mask z 10 (by omega)
      rw [show ((2 ^ 10 - 1 : Nat) : Int) = 1023 from by decide, show ((2 ^ 10 : Nat) : Int) = 1024 from by decide] at hzm
      obtain ⟨t, ht⟩ : ∃ t, z % 1024 = t := ⟨_, rfl⟩
      have t0 : 0 ≤ t := by omega
      have t1 : t ≤ 1023 := by omega
      rw [ht] at hzm
      have hd : t.tdiv 30 = t / 30 := Int.tdiv_eq_ediv_of_nonneg t0
      have hX := HX.out last t
      rw [stX_in t0 (by omega)] at hX
      have hA := HA.out p last t
      have hB := accB_eq hX
      rw [hX, hB] at hA
      clear hX hB hcz hz ht
      obtain ⟨d, hdd⟩ : ∃ d, t / 30 = d := ⟨_, rfl⟩
      have d0 : 0 ≤ d := by omega
      have d1 : d ≤ 34 := by omega
      rw [hdd] at hd hA
      clear hdd
      have n0 : (d + 1 ≠ 0) := by omega
      by_cases c1 : s - 1 ≤ d + 1
      · by_cases c2 : d + 1 ≤ s + 1
        · by_cases c3 : last < s
          · rw [if_pos ⟨n0, c3, by omega, by omega⟩, decide_eq_true (by omega : 0 < s)] at hA
            have K := Lib.hid hA
            clear hA n0
            go_wp2_with (go_at_call 11; (with_reducible refine (At.op1 K.out (refA_good _ _ _) emp_good hS).mono ?_); rintro e w3 ⟨rfl, hS1⟩; replace hS := hS1; clear hS1)
            go_roundw
            case rel => exact ⟨k + 1, s, by omega, by go_num, rfl, by omega, by omega, hS⟩
            case measure => simp [intOf]; omega
          · rw [if_neg (by omega)] at hA
            have K := Lib.hid hA
            clear hA n0
            go_wp2_with (go_at_call 11; (with_reducible refine (At.op1 K.out (refA_good _ _ _) emp_good hS).mono ?_); rintro e w3 ⟨rfl, hS1⟩; replace hS := hS1; clear hS1)
            go_roundw
            case rel => exact ⟨k + 1, last, by omega, by go_num, rfl, by omega, by omega, hS⟩
            case measure => simp [intOf]; omega
        · rw [if_neg (by omega)] at hA
          have K := Lib.hid hA
          clear hA n0
          go_wp2_with (go_at_call 11; (with_reducible refine (At.op1 K.out (refA_good _ _ _) emp_good hS).mono ?_); rintro e w3 ⟨rfl, hS1⟩; replace hS := hS1; clear hS1)
          go_roundw
          case rel => exact ⟨k + 1, last, by omega, by go_num, rfl, by omega, by omega, hS⟩
          case measure => simp [intOf]; omega
      · rw [if_neg (by omega)] at hA
        have K := Lib.hid hA
        clear hA n0
        go_wp2_with (go_at_call 11; (with_reducible refine (At.op1 K.out (refA_good _ _ _) emp_good hS).mono ?_); rintro e w3 ⟨rfl, hS1⟩; replace hS := hS1; clear hS1)
        go_roundw
        case rel => exact ⟨k + 1, last, by omega, by go_num, rfl, by omega, by omega, hS⟩
        case measure => simp [intOf]; omega
    · by_cases hl : k < zs.length
      · have h40 : ¬ k < 40 := fun c => hlt ⟨hl, c⟩
        clear hlt
        go_wp2_with (go_at_call 17; (with_reducible refine (At.op1 (HL.out _) (refA_good _ _ _) emp_good hS).mono ?_); rintro e w1 ⟨rfl, hS1⟩; replace hS := hS1; clear hS1)
        go_ret
        exact ⟨rfl, hS.bel⟩
      · obtain rfl : k = zs.length := by omega
        clear hlt hl hk
        go_wp2_with (go_at_call 17; (with_reducible refine (At.op1 (HL.out _) (refA_good _ _ _) emp_good hS).mono ?_); rintro e w1 ⟨rfl, hS1⟩; replace hS := hS1; clear hS1)
        go_ret
        exact ⟨rfl, hS.bel⟩
end Go.Proofs.Ytgafgmcdbpdpgaa
