/- The walk of TotpForms: ticks, steps, secrets that are none; asking without codes. No condition. -/
import Derived.Test.YtgafgmcdbpdpgaaTonce
namespace Go.Proofs.Ytgafgmcdbpdpgaa
open Go Go.RowKit Go.Maps

theorem tp_sec {most : Int} {ts : List ByteArray} {sec k : Int} (h : okNum sec = false) : tpE most ts sec k = 1200 ∧ tpX most ts sec k = 0 ∧ tpT most ts sec k = ts := by
  have hs : okK (some sec) = false := h
  by_cases hk : okS k = true
  · obtain ⟨e1, e2⟩ := ckX_bad (most := most) (ts := ts) (ok := okK (some sec)) (t := cdK sec k) (.inl hs)
    obtain ⟨g1, g2, g3⟩ := tp_no (most := most) (ts := ts) (sec := sec) hk (by rw [e2]; decide)
    exact ⟨g1, g2, by rw [g3]; unfold ckT; rw [hs]; rfl⟩
  · exact tp_bad (by simpa using hk)
theorem tp_full {ts : List ByteArray} {most sec k : Int} (hl : ¬ (ts.length : Int) < most) (hm : cdK sec k ∉ ts) : tpE most ts sec k = 1200 ∧ tpX most ts sec k = 0 ∧ tpT most ts sec k = ts := by
  by_cases hk : okS k = true
  · have hE : nmE most ts (cdK sec k) ≠ 0 := by unfold nmE; rw [if_pos (cdK_ok sec k), (isB_not _ _).2 hm, if_neg (by decide), if_neg hl]; decide
    have hT : nmT most ts (cdK sec k) = ts := by unfold nmT; rw [if_pos (cdK_ok sec k), (isB_not _ _).2 hm, if_neg (by decide), if_neg hl]
    obtain ⟨e1, e2⟩ := ckX_bad (most := most) (ts := ts) (ok := okK (some sec)) (t := cdK sec k) (.inr hE)
    obtain ⟨g1, g2, g3⟩ := tp_no (most := most) (ts := ts) (sec := sec) hk (by rw [e2]; decide)
    refine ⟨g1, g2, ?_⟩
    rw [g3]
    unfold ckT
    rw [hT]
    split <;> rfl
  · exact tp_bad (by simpa using hk)
theorem acc_out {ts : List ByteArray} {sec last tick code : Int} (h : stX tick = 0) : accX ts sec last tick code = 0 := by rw [accX, if_pos h]

set_option maxRecDepth 100000 in
set_option maxHeartbeats 8000000 in
theorem tforms_walk (x tick : Int) (w : World) :
    Calls Try.prog 5 #[.int .i64 x, .int .i64 tick] w fun e w' => e = .returned (.bool true) ∧ Below w.heap.size w w' := by
  have hmask := i64_mask x 10 (by omega)
  rw [show ((2 ^ 10 - 1 : Nat) : Int) = 1023 from by decide, show ((2 ^ 10 : Nat) : Int) = 1024 from by decide] at hmask
  obtain ⟨m, hm⟩ : ∃ m, x % 1024 = m := ⟨_, rfl⟩
  have m0 : 0 ≤ m := by omega
  have m1 : m ≤ 1023 := by omega
  rw [hm] at hmask
  clear hm
  have htm := i64_mask tick 20 (by omega)
  rw [show ((2 ^ 20 - 1 : Nat) : Int) = 1048575 from by decide, show ((2 ^ 20 : Nat) : Int) = 1048576 from by decide] at htm
  obtain ⟨t, ht⟩ : ∃ t, tick % 1048576 = t := ⟨_, rfl⟩
  have t0 : 0 ≤ t := by omega
  have t1 : t ≤ 1048575 := by omega
  rw [ht] at htm
  clear ht
  have hd : t.tdiv 30 = t / 30 := Int.tdiv_eq_ediv_of_nonneg t0
  obtain ⟨d, hdd⟩ : ∃ d, t / 30 = d := ⟨_, rfl⟩
  have d0 : 0 ≤ d := by omega
  have d1 : d ≤ 34952 := by omega
  have hst : stX t = d + 1 := by rw [stX_in t0 t1, hdd]
  rw [hdd] at hd
  clear hdd
  have u1 : okS (1 - (1 + m)) = false := by rw [Bool.eq_false_iff, Ne, okS_iff]; omega
  have u2 : okS (1048575 + (1 + m)) = false := by rw [Bool.eq_false_iff, Ne, okS_iff]; omega
  have u3 : okNum (-(1 + m)) = false := by rw [Bool.eq_false_iff, Ne, okNum_iff]; omega
  have hC1 := fun p => (ptcode p 1 [] 5 (1 - (1 + m)) (by omega) (by omega))
  have hC2 := fun p => (ptcode p 1 [] 5 (1048575 + (1 + m)) (by omega) (by omega))
  have hC3 := fun p => (ptcode p 1 [] (-(1 + m)) 1 (by omega) (by omega))
  have hC4 := fun p => (ptcode p 1 [] 5 1 (by omega) (by omega))
  have hC5 := fun p => (ptcode p 1 [cdK 5 1] 5 2 (by omega) (by omega))
  obtain ⟨a1, a2, a3⟩ := tp_bad (most := 1) (ts := []) (sec := 5) u1
  rw [a1, a2, a3] at hC1
  obtain ⟨b1, b2, b3⟩ := tp_bad (most := 1) (ts := []) (sec := 5) u2
  rw [b1, b2, b3] at hC2
  obtain ⟨c1, c2, c3⟩ := tp_sec (most := 1) (ts := []) (sec := -(1 + m)) (k := 1) u3
  rw [c1, c2, c3] at hC3
  obtain ⟨e1, e2, e3⟩ := tp_one 1 5 1 (by omega) (by omega) (by omega) (by omega) (by omega)
  rw [e1, e2, e3] at hC4
  obtain ⟨f1, f2, f3⟩ := tp_full (ts := [cdK 5 1]) (most := 1) (sec := 5) (k := 2) (by simp) (by
    intro c
    simp at c
    have := (cdK_inj (x := 5) (y := 5) (i := 2) (j := 1) (by omega) (by omega) (by omega) (by omega) (by omega) (by omega) (by omega) (by omega) c).2
    omega)
  rw [f1, f2, f3] at hC5
  have hA1 := fun p => ptaccept p 1 [cdK 5 1] 5 0 (-(1 + m)) 0 (by omega) (by omega)
  have hA2 := fun p => ptaccept p 1 [cdK 5 1] 5 0 (1048575 + (1 + m)) 0 (by omega) (by omega)
  have hA3 := fun p => ptaccept p 1 [cdK 5 1] 5 0 29 0 (by omega) (by omega)
  have g1 : stX (-(1 + m)) = 0 := stX_out (by omega)
  have g2 : stX (1048575 + (1 + m)) = 0 := stX_out (by omega)
  rw [accB_eq (acc_out g1), acc_out g1] at hA1
  rw [accB_eq (acc_out g2), acc_out g2] at hA2
  have hX := acc_one 5 1 0 29 (by omega) (by omega) (by omega) (by omega)
  rw [show stX 29 = 1 from by decide, if_pos (by omega)] at hX
  rw [accB_eq hX, hX] at hA3
  rw [show decide ((0 : Int) < 0) = false from rfl] at hA1 hA2
  rw [show decide ((0 : Int) < 1) = true from rfl] at hA3
  have hL := fun p => dlen p 1 [cdK 5 1]
  rw [show (([cdK 5 1].length : Nat) : Int) = 1 from rfl] at hL
  generalize [cdK 5 1] = T at *
  have C1 := Lib.hid hC1
  have C2 := Lib.hid hC2
  have C3 := Lib.hid hC3
  have C4 := Lib.hid hC4
  have C5 := Lib.hid hC5
  have A1 := Lib.hid hA1
  have A2 := Lib.hid hA2
  have A3 := Lib.hid hA3
  have HL := Lib.hid hL
  have S1 := Lib.hid (fun w => ptst _ _ g1 w)
  have S2 := Lib.hid (fun w => ptst _ _ g2 w)
  have S3 := Lib.hid (fun w => ptst _ _ hst w)
  clear hC1 hC2 hC3 hC4 hC5 hA1 hA2 hA3 hL a1 a2 a3 b1 b2 b3 c1 c2 c3 e1 e2 e3 f1 f2 f3 u1 u2 u3 g1 g2 hX hst
  go_enter Try.func5, Try.ntmps5
  go_wp2_with (first
    | (go_at_call 8; (with_reducible refine (awake12 _).mono ?_); rintro e w1 ⟨rfl, hb1⟩)
    | (go_at_call 7; (with_reducible refine (twin_none12 1 _ (by omega) (by omega)).mono ?_); rintro e w2 ⟨p, q, rfl, hb⟩; have hS := (At.start hb).under hb1; clear hb hb1)
    | (go_at_call 9; first
        | ((with_reducible refine (ptcode_nil _ _ _).mono ?_); rintro e w3 ⟨rfl, rfl⟩)
        | ((with_reducible refine (At.op1 (C1.out _) (refA_good _ _ _) emp_good hS).mono ?_); rintro e w3 ⟨rfl, hS1⟩; replace hS := hS1; clear hS1)
        | ((with_reducible refine (At.op1 (C2.out _) (refA_good _ _ _) emp_good hS).mono ?_); rintro e w3 ⟨rfl, hS1⟩; replace hS := hS1; clear hS1)
        | ((with_reducible refine (At.op1 (C3.out _) (refA_good _ _ _) emp_good hS).mono ?_); rintro e w3 ⟨rfl, hS1⟩; replace hS := hS1; clear hS1)
        | ((with_reducible refine (At.op1 (C4.out _) (refA_good _ _ _) emp_good hS).mono ?_); rintro e w3 ⟨rfl, hS1⟩; replace hS := hS1; clear hS1)
        | ((with_reducible refine (At.op1 (C5.out _) (refA_good _ _ _) emp_good hS).mono ?_); rintro e w3 ⟨rfl, hS1⟩; replace hS := hS1; clear hS1))
    | (go_at_call 11; first
        | ((with_reducible refine (ptaccept_nil _ _ _ _ _ (by omega) (by omega)).mono ?_); rintro e w3 ⟨rfl, hb⟩; replace hS := hS.lay ((refA_good _ _ _).star (good1 _ _ _)) hb; clear hb)
        | ((with_reducible refine (At.op1 (A1.out _) (refA_good _ _ _) emp_good hS).mono ?_); rintro e w3 ⟨rfl, hS1⟩; replace hS := hS1; clear hS1)
        | ((with_reducible refine (At.op1 (A2.out _) (refA_good _ _ _) emp_good hS).mono ?_); rintro e w3 ⟨rfl, hS1⟩; replace hS := hS1; clear hS1)
        | ((with_reducible refine (At.op1 (A3.out _) (refA_good _ _ _) emp_good hS).mono ?_); rintro e w3 ⟨rfl, hS1⟩; replace hS := hS1; clear hS1))
    | (go_at_call 14; first | ((with_reducible refine (S1.out _).mono ?_); rintro e w1 ⟨rfl, rfl⟩) | ((with_reducible refine (S2.out _).mono ?_); rintro e w1 ⟨rfl, rfl⟩) | ((with_reducible refine (S3.out _).mono ?_); rintro e w1 ⟨rfl, rfl⟩))
    | (go_at_call 17; (with_reducible refine (At.op1 (HL.out _) (refA_good _ _ _) emp_good hS).mono ?_); rintro e w1 ⟨rfl, hS1⟩; replace hS := hS1; clear hS1)
    | (go_at_call 13; refine (lnum _ _).mono ?_; rintro e w4 ⟨rfl, rfl⟩))
  go_ret
  exact ⟨rfl, hS.bel⟩
end Go.Proofs.Ytgafgmcdbpdpgaa
