/- Package window's May and Add: what they answer. No condition. -/
import Derived.Test.YticncfaokapplaaWdl
import Derived.Deep.RegionWith
namespace Go.Proofs.Yticncfaokapplaa
open Go Go.RowKit

theorem pwseq (x : Int) (r : Bool) (h : r = (decide (0 ≤ x) && decide (x ≤ 1048575))) (w : World) : Calls Try.prog 14 #[.int .i64 x] w fun e w' => e = .returned (.bool r) ∧ w = w' := by
  subst h
  go_enter Try.func14, Try.ntmps14
  go_wp2
  all_goals (go_ret; refine ⟨?_, rfl⟩; congr 2; simp [*] <;> omega)
theorem pwset (b a : Int) (d : Nat) (r : Bool) (ha : a = (d : Int)) (h32 : d < 32) (h : r = decide (b / 2 ^ d % 2 = 1)) (w : World) : Calls Try.prog 16 #[.int .i64 b, .int .i64 a] w fun e w' => e = .returned (.bool r) ∧ w = w' := by
  subst h ha
  have f1 : bits .and .i64 (b / 2 ^ d) 1 = b / 2 ^ d % 2 := wmask1 _
  go_enter Try.func16, Try.ntmps16
  go_wp2
  go_ret
  exact ⟨rfl, rfl⟩
theorem wp_drewn {B : Nat} {w Z : World} (h : Below B w Z) : Below B w Z.drew := ⟨h.os, h.tape, h.output, h.size, h.block⟩
theorem wd_pow32 {B k : Nat} : B * 2 ^ (32 + k) % 4294967296 = 0 := by
  rw [Nat.pow_add, show (2 : Nat) ^ 32 = 4294967296 from by decide, ← Nat.mul_assoc, Nat.mul_comm B, Nat.mul_assoc, Nat.mul_mod_right]
theorem wd_min64 (B d : Nat) : B * 2 ^ min d 64 % 4294967296 = B * 2 ^ d % 4294967296 := by
  by_cases c : d ≤ 64
  · rw [Nat.min_eq_left c]
  · obtain ⟨k, rfl⟩ : ∃ k, d = 32 + k := ⟨d - 32, by omega⟩
    rw [Nat.min_eq_right (by omega), wd_pow32, show (64 : Nat) = 32 + 32 from rfl, wd_pow32]
theorem wd_wrapmod (P : Nat) : wrap64 (P : Int) % 4294967296 = ((P % 4294967296 : Nat) : Int) := by
  unfold wrap64
  omega
theorem wd_moved (B d : Nat) : bits .and .i64 (wrap64 ((B : Int) * 2 ^ min d 64)) 4294967295 = ((B * 2 ^ d % 4294967296 : Nat) : Int) := by
  have := i64_mask (wrap64 ((B : Int) * 2 ^ min d 64)) 32 (by omega)
  rw [show ((2 ^ 32 - 1 : Nat) : Int) = 4294967295 by decide, show ((2 ^ 32 : Nat) : Int) = 4294967296 by decide] at this
  rw [this, show (B : Int) * 2 ^ min d 64 = ((B * 2 ^ min d 64 : Nat) : Int) by simp, wd_wrapmod, wd_min64]
theorem pwmoved (B d r : Nat) (b a : Int) (hb : b = (B : Int)) (ha : a = (d : Int)) (h : r = B * 2 ^ d % 4294967296) (w : World) : Calls Try.prog 15 #[.int .i64 b, .int .i64 a] w fun e w' => e = .returned (.int .i64 (r : Int)) ∧ w = w' := by
  subst h ha hb
  have f1 := wd_moved B d
  generalize (B * 2 ^ d % 4294967296 : Nat) = r at *
  go_enter Try.func15, Try.ntmps15
  go_wp2
  go_ret
  exact ⟨rfl, rfl⟩
theorem wdMay_shift {K M : Nat} {b : Int} (hK : K ≤ 1048575) (hM : M = if K < 31 then K + 1 else 32) : wdMay (K : Int) b = (decide (b % 2 = 1) && (b / 2 ^ M == 0)) := by
  have hp : (0 : Int) < 2 ^ M := Int.pow_pos (by decide)
  have hp32 : (2 : Int) ^ M ≤ 4294967296 := by
    have h : M ≤ 32 := by split at hM <;> omega
    have := Nat.pow_le_pow_right (n := 2) (by decide) h
    have e : ((2 ^ M : Nat) : Int) = 2 ^ M := by simp
    rw [← e]
    exact Int.ofNat_le.2 (Nat.le_trans this (by decide))
  by_cases h2 : b % 2 = 1
  · rw [decide_eq_true h2, Bool.true_and]
    by_cases hz : 0 ≤ b ∧ b < 2 ^ M
    · rw [Int.ediv_eq_zero_of_lt hz.1 hz.2]
      refine wdMay_yes (by omega) (by omega) (by omega) (by omega) (by omega) ?_
      by_cases c : K < 31
      · right
        rw [if_pos c] at hM
        rw [show ((K : Int) + 1).toNat = M by omega]
        exact hz.2
      · left; omega
    · have hne : ¬ b / 2 ^ M = 0 := by
        by_cases h0 : 0 ≤ b
        · have := Int.le_ediv_of_mul_le hp (show 1 * 2 ^ M ≤ b by omega)
          omega
        · have := Int.ediv_neg_of_neg_of_pos (show b < 0 by omega) hp
          omega
      rw [show (b / 2 ^ M == 0) = false from by simp [hne]]
      refine wdMay_no (by omega) ?_
      by_cases h0 : 0 ≤ b
      · by_cases c : K < 31
        · rw [if_pos c] at hM
          exact .inr (.inr (.inr (.inr (.inr ⟨by omega, by rw [show ((K : Int) + 1).toNat = M by omega]; omega⟩))))
        · rw [if_neg c] at hM
          subst hM
          exact .inr (.inr (.inr (.inl (by have : (2 : Int) ^ 32 = 4294967296 := by decide
                                           omega))))
      · exact .inr (.inr (.inl (by omega)))
  · rw [decide_eq_false h2, Bool.false_and]
    exact wdMay_no (by omega) (.inr (.inr (.inr (.inr (.inl (by omega))))))
set_option maxRecDepth 100000 in
set_option maxHeartbeats 4000000 in
theorem pwmay (h b : Int) (w : World) : Calls Try.prog 11 #[.agg #[.int .i64 h, .int .i64 b]] w fun e w' => e = .returned (.bool (wdMay h b)) ∧ Below w.heap.size w w' := by
  have HB := Lib.hid (fun h => wbox w h b)
  by_cases h1 : h = -1
  · subst h1
    rw [wdMay_1]
    go_enter Try.func11, Try.ntmps11
    go_wp2
    go_ret
    exact ⟨rfl, HB.out _⟩
  · by_cases hbad : h < 0 ∨ 1048575 < h
    · rw [wdMay_no h1 (by rcases hbad with c | c <;> simp [c])]
      have HS := Lib.hid (fun w => pwseq h false (by simp; omega) w)
      clear hbad
      go_enter Try.func11, Try.ntmps11
      go_wp2_with (go_at_call 14; (with_reducible refine (HS.out _).mono ?_); rintro e w1 ⟨rfl, rfl⟩)
      go_ret
      exact ⟨rfl, HB.out _⟩
    · have HS := Lib.hid (fun w => pwseq h true (by simp; omega) w)
      obtain ⟨K, rfl⟩ := Int.eq_ofNat_of_zero_le (show 0 ≤ h by omega)
      have hK : K ≤ 1048575 := by omega
      obtain ⟨r, hr⟩ : ∃ r : Bool, r = decide (b % 2 = 1) := ⟨_, rfl⟩
      have HT := Lib.hid (fun w => pwset b 0 0 r rfl (by decide) (by rw [hr]; congr 2; simp) w)
      by_cases c : K < 31
      · rw [wdMay_shift hK (M := K + 1) (by rw [if_pos c]), ← hr]
        have c5 : (K : Int) + 1 < 32 := by omega
        have c6 : (K : Int) + 1 ≤ 32 := by omega
        have c7 : min ((K : Int) + 1) 32 = (K : Int) + 1 := by omega
        clear hbad h1 hr
        cases r <;> go_enter Try.func11, Try.ntmps11
        all_goals go_wp2_with (first
          | (go_at_call 14; (with_reducible refine (HS.out _).mono ?_); rintro e w1 ⟨rfl, rfl⟩)
          | (go_at_call 16; (with_reducible refine (HT.out _).mono ?_); rintro e w1 ⟨rfl, rfl⟩))
        all_goals go_ret
        all_goals exact ⟨by simp, HB.out _⟩
      · rw [wdMay_shift hK (M := 32) (by rw [if_neg c]), ← hr]
        have c5 : 32 ≤ (K : Int) + 1 := by omega
        have c6 : 31 ≤ (K : Int) := by omega
        have c7 : min ((K : Int) + 1) 32 = 32 := by omega
        clear hbad h1 hr
        cases r <;> go_enter Try.func11, Try.ntmps11
        all_goals go_wp2_with (first
          | (go_at_call 14; (with_reducible refine (HS.out _).mono ?_); rintro e w1 ⟨rfl, rfl⟩)
          | (go_at_call 16; (with_reducible refine (HT.out _).mono ?_); rintro e w1 ⟨rfl, rfl⟩))
        all_goals go_ret
        all_goals exact ⟨by simp, HB.out _⟩
set_option maxRecDepth 100000 in
set_option maxHeartbeats 4000000 in
theorem pwadd_no (h b s : Int) (w : World) (hn : wdMay h b = false ∨ s < 0 ∨ 1048575 < s) : Calls Try.prog 8 #[.agg #[.int .i64 h, .int .i64 b], .int .i64 s] w fun e w' => e = .returned (.tuple #[.agg #[.int .i64 (wdH h b s), .int .i64 (wdB h b s)], .int .i64 (wdE h b s)]) ∧ Below w.heap.size w w' := by
  obtain ⟨e1, e2, e3⟩ := wd_no hn
  rw [e1, e2, e3]
  have HM := Lib.hid (fun w => pwmay h b w)
  clear e1 e2 e3
  cases hm : wdMay h b with
  | false =>
    rw [hm] at HM
    clear hn hm
    go_enter Try.func8, Try.ntmps8
    go_wp2_with (go_at_call 11; (with_reducible refine (HM.out _).mono ?_); rintro e w1 ⟨rfl, hb⟩; obtain ⟨ka, kr, hB⟩ := wd_two hb; clear hb; have HB := Lib.hid hB; clear hB; have ea := ka.cell; have ga := ka.froz; have la := ka.lt; have er := kr.cell; have gr := kr.froz; have lr := kr.lt)
    refine bodyPost_ret (v := .tuple #[.agg #[.int .i64 0, .int .i64 0], .int .i64 1700]) (by simp [*, results, Try.results8, go_sem]) rfl ⟨rfl, ?_⟩
    repeat (with_reducible refine Below.setCell ?_ (by simp) _)
    exact HB.out
  | true =>
    rw [hm] at HM hn
    clear hm
    have HS := Lib.hid (fun w => pwseq s false (by
      rcases hn with c | c | c
      · cases c
      · simp; omega
      · simp; omega) w)
    clear hn
    go_enter Try.func8, Try.ntmps8
    go_wp2_with (first
      | (go_at_call 11; (with_reducible refine (HM.out _).mono ?_); rintro e w1 ⟨rfl, hb⟩; obtain ⟨ka, kr, hB⟩ := wd_two hb; clear hb; have HB := Lib.hid hB; clear hB; have ea := ka.cell; have ga := ka.froz; have la := ka.lt; have er := kr.cell; have gr := kr.froz; have lr := kr.lt)
      | (go_at_call 14; (with_reducible refine (HS.out _).mono ?_); rintro e w2 ⟨rfl, rfl⟩))
    refine bodyPost_ret (v := .tuple #[.agg #[.int .i64 0, .int .i64 0], .int .i64 1700]) (by simp [*, results, Try.results8, go_sem]) rfl ⟨rfl, ?_⟩
    repeat (with_reducible refine Below.setCell ?_ (by simp) _)
    exact HB.out
set_option maxRecDepth 100000 in
set_option maxHeartbeats 4000000 in
theorem pwadd_ok (h b s : Int) (w : World) (hm : wdMay h b = true) (s0 : 0 ≤ s) (s1 : s ≤ 1048575) : Calls Try.prog 8 #[.agg #[.int .i64 h, .int .i64 b], .int .i64 s] w fun e w' => e = .returned (.tuple #[.agg #[.int .i64 (wdH h b s), .int .i64 (wdB h b s)], .int .i64 (wdE h b s)]) ∧ Below w.heap.size w w' := by
  have ho := wd_ok hm s0 s1
  have HM := Lib.hid (fun w => pwmay h b w)
  rw [hm] at HM
  have HS := Lib.hid (fun w => pwseq s true (by simp; omega) w)
  rcases wdMay_cases hm with ⟨rfl, rfl⟩ | ⟨K, B, rfl, rfl, hK, hB1, hB⟩
  · obtain ⟨e1, e2, e3⟩ := wd_above ho (show -1 < s by omega)
    rw [if_neg (by omega)] at e3
    rw [e1, e2, e3]
    have t2 : -1 < s := by omega
    have ho1 := wd_or01
    have HV := Lib.hid (fun w => pwmoved 0 (s + 1).toNat 0 0 (s + 1) rfl (by omega) (by simp) w)
    clear ho hm e1 e2 e3
    go_enter Try.func8, Try.ntmps8
    go_wp2_with (first
      | (go_at_call 11; (with_reducible refine (HM.out _).mono ?_); rintro e w1 ⟨rfl, hb⟩; obtain ⟨ka, kr, hB⟩ := wd_two hb; clear hb; have HB := Lib.hid hB; clear hB; have ea := ka.cell; have ga := ka.froz; have la := ka.lt; have er := kr.cell; have gr := kr.froz; have lr := kr.lt)
      | (go_at_call 14; (with_reducible refine (HS.out _).mono ?_); rintro e w2 ⟨rfl, rfl⟩)
      | (go_at_call 15; (with_reducible refine (HV.out _).mono ?_); rintro e w3 ⟨rfl, rfl⟩))
    refine bodyPost_ret (v := .tuple #[.agg #[.int .i64 s, .int .i64 1], .int .i64 0]) (by simp [*, results, Try.results8, go_sem]) rfl ⟨rfl, ?_⟩
    repeat (with_reducible refine Below.setCell ?_ (by simp) _)
    exact HB.out
  · by_cases hs : (K : Int) < s
    · obtain ⟨e1, e2, e3⟩ := wd_above ho hs
      obtain ⟨d, hd⟩ : ∃ d : Nat, s - (K : Int) = (d : Int) := ⟨(s - (K : Int)).toNat, by omega⟩
      have hdt : (s - (K : Int)).toNat = d := by omega
      have e4 : wdB (K : Int) (B : Int) s = ((B * 2 ^ d % 4294967296 ||| 1 : Nat) : Int) := by
        rw [e3, hdt, Int.toNat_natCast]
        by_cases h32 : d < 32
        · rw [if_pos (by omega)]
        · rw [if_neg (by omega)]
          obtain ⟨k, rfl⟩ : ∃ k, d = 32 + k := ⟨d - 32, by omega⟩
          rw [Nat.pow_add, show (2 : Nat) ^ 32 = 4294967296 from by decide, ← Nat.mul_assoc, Nat.mul_comm B, Nat.mul_assoc, Nat.mul_mod_right]
          rfl
      rw [e1, e2, e4]
      have HV := Lib.hid (fun w => pwmoved B d (B * 2 ^ d % 4294967296) B d rfl rfl rfl w)
      have f3 := wd_or1 (X := B * 2 ^ d % 4294967296) (Nat.mod_lt _ (by decide))
      generalize (B * 2 ^ d % 4294967296 ||| 1 : Nat) = R at *
      generalize (B * 2 ^ d % 4294967296 : Nat) = Q at *
      clear ho hm e1 e2 e3 e4
      go_enter Try.func8, Try.ntmps8
      go_wp2_with (first
        | (go_at_call 11; (with_reducible refine (HM.out _).mono ?_); rintro e w1 ⟨rfl, hb⟩; obtain ⟨ka, kr, hB⟩ := wd_two hb; clear hb; have HB := Lib.hid hB; clear hB; have ea := ka.cell; have ga := ka.froz; have la := ka.lt; have er := kr.cell; have gr := kr.froz; have lr := kr.lt)
        | (go_at_call 14; (with_reducible refine (HS.out _).mono ?_); rintro e w2 ⟨rfl, rfl⟩)
        | (go_at_call 15; (with_reducible refine (HV.out _).mono ?_); rintro e w3 ⟨rfl, rfl⟩))
      refine bodyPost_ret (v := .tuple #[.agg #[.int .i64 s, .int .i64 (R : Int)], .int .i64 0]) (by simp [*, results, Try.results8, go_sem]) rfl ⟨rfl, ?_⟩
      repeat (with_reducible refine Below.setCell ?_ (by simp) _)
      exact HB.out
    · obtain ⟨d, hd⟩ : ∃ d : Nat, (K : Int) - s = (d : Int) := ⟨((K : Int) - s).toNat, by omega⟩
      have hdt : ((K : Int) - s).toNat = d := by omega
      have hbit : B.testBit d = decide (B / 2 ^ d % 2 = 1) := Nat.testBit_eq_decide_div_mod_eq
      have hbI : decide ((B : Int) / 2 ^ d % 2 = 1) = B.testBit d := by
        rw [hbit]
        have e : (B : Int) / 2 ^ d % 2 = ((B / 2 ^ d % 2 : Nat) : Int) := by simp
        rw [e]
        congr 1
        exact propext ⟨fun c => by omega, fun c => by omega⟩
      by_cases h32 : 32 ≤ d
      · obtain ⟨e1, e2, e3⟩ := wd_old ho (show s ≤ (K : Int) by omega) (.inl (by omega))
        rw [e1, e2, e3]
        have h32I : 32 ≤ (d : Int) := by omega
        clear ho hm e1 e2 e3 hbit hbI
        go_enter Try.func8, Try.ntmps8
        go_wp2_with (first
          | (go_at_call 11; (with_reducible refine (HM.out _).mono ?_); rintro e w1 ⟨rfl, hb⟩; obtain ⟨ka, kr, hB⟩ := wd_two hb; clear hb; have HB := Lib.hid hB; clear hB; have ea := ka.cell; have ga := ka.froz; have la := ka.lt; have er := kr.cell; have gr := kr.froz; have lr := kr.lt)
          | (go_at_call 14; (with_reducible refine (HS.out _).mono ?_); rintro e w2 ⟨rfl, rfl⟩))
        refine bodyPost_ret (v := .tuple #[.agg #[.int .i64 0, .int .i64 0], .int .i64 1701]) (by simp [*, results, Try.results8, go_sem]) rfl ⟨rfl, ?_⟩
        repeat (with_reducible refine Below.setCell ?_ (by simp) _)
        exact HB.out
      · have h32I : ¬ 32 ≤ (d : Int) := by omega
        have HT := Lib.hid (fun w => pwset (B : Int) (d : Int) d (B.testBit d) rfl (by omega) hbI.symm w)
        cases h1 : B.testBit d with
        | true =>
          obtain ⟨e1, e2, e3⟩ := wd_old ho (show s ≤ (K : Int) by omega) (.inr (by rw [hdt, Int.toNat_natCast, h1]))
          rw [e1, e2, e3]
          rw [h1] at HT
          clear ho hm e1 e2 e3 hbit hbI h1
          go_enter Try.func8, Try.ntmps8
          go_wp2_with (first
            | (go_at_call 11; (with_reducible refine (HM.out _).mono ?_); rintro e w1 ⟨rfl, hb⟩; obtain ⟨ka, kr, hB⟩ := wd_two hb; clear hb; have HB := Lib.hid hB; clear hB; have ea := ka.cell; have ga := ka.froz; have la := ka.lt; have er := kr.cell; have gr := kr.froz; have lr := kr.lt)
            | (go_at_call 14; (with_reducible refine (HS.out _).mono ?_); rintro e w2 ⟨rfl, rfl⟩)
            | (go_at_call 16; (with_reducible refine (HT.out _).mono ?_); rintro e w3 ⟨rfl, rfl⟩))
          refine bodyPost_ret (v := .tuple #[.agg #[.int .i64 0, .int .i64 0], .int .i64 1701]) (by simp [*, results, Try.results8, go_sem]) rfl ⟨rfl, ?_⟩
          repeat (with_reducible refine Below.setCell ?_ (by simp) _)
          exact HB.out
        | false =>
          obtain ⟨e1, e2, e3⟩ := wd_new ho (show s ≤ (K : Int) by omega) (by omega) (by rw [hdt, Int.toNat_natCast, h1])
          rw [e1, e2, e3, hdt, Int.toNat_natCast]
          rw [h1] at HT
          have f2 := wd_one (d := d) (by omega)
          have f3 := wd_set (d := d) hB (by omega)
          generalize (B ||| 2 ^ d : Nat) = R at *
          generalize (2 ^ d : Nat) = P at *
          clear ho hm e1 e2 e3 hbit hbI h1
          go_enter Try.func8, Try.ntmps8
          go_wp2_with (first
            | (go_at_call 11; (with_reducible refine (HM.out _).mono ?_); rintro e w1 ⟨rfl, hb⟩; obtain ⟨ka, kr, hB⟩ := wd_two hb; clear hb; have HB := Lib.hid hB; clear hB; have ea := ka.cell; have ga := ka.froz; have la := ka.lt; have er := kr.cell; have gr := kr.froz; have lr := kr.lt)
            | (go_at_call 14; (with_reducible refine (HS.out _).mono ?_); rintro e w2 ⟨rfl, rfl⟩)
            | (go_at_call 16; (with_reducible refine (HT.out _).mono ?_); rintro e w3 ⟨rfl, rfl⟩))
          go_region_with (fail)
          all_goals go_wp2
          refine bodyPost_ret (v := .tuple #[.agg #[.int .i64 (K : Int), .int .i64 (R : Int)], .int .i64 0]) (by simp [*, results, Try.results8, go_sem]) rfl ⟨rfl, ?_⟩
          refine wp_drewn ?_
          repeat (with_reducible refine Below.setCell ?_ (by simp) _)
          exact HB.out
theorem pwadd (h b s : Int) (w : World) : Calls Try.prog 8 #[.agg #[.int .i64 h, .int .i64 b], .int .i64 s] w fun e w' => e = .returned (.tuple #[.agg #[.int .i64 (wdH h b s), .int .i64 (wdB h b s)], .int .i64 (wdE h b s)]) ∧ Below w.heap.size w w' := by
  by_cases hn : wdMay h b = false ∨ s < 0 ∨ 1048575 < s
  · exact pwadd_no h b s w hn
  · exact pwadd_ok h b s w (by
      cases hm : wdMay h b with
      | true => rfl
      | false => exact absurd (.inl hm) hn) (by omega) (by omega)
theorem winsOk : WinsOk := ⟨fun h b w => pwmay h b w, fun h b s w => pwadd h b s w⟩
end Go.Proofs.Yticncfaokapplaa
