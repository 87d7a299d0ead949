/- The reference's Step, Code and Accept of codes: what they answer and leave. Condition: the numbers are of 64 bits. -/
import Derived.Test.YtgafgmcdbpdpgaaTp
import Derived.Test.YtgafgmcdbpdpgaaCref
import Derived.Test.YtgafgmcdbpdpgaaSep2
import Derived.Deep.RegionWith
namespace Go.Proofs.Ytgafgmcdbpdpgaa
open Go Go.RowKit Go.Maps

theorem rtmay (t : Int) (w : World) : Calls Try.prog 30 #[.int .i64 t] w fun e w' => e = .returned (.bool (decide (0 ≤ t) && decide (t ≤ 1048575))) ∧ w = w' := by
  by_cases h0 : 0 ≤ t
  · by_cases h1 : t ≤ 1048575
    · rw [decide_eq_true h0, decide_eq_true h1]
      go_enter Try.func30, Try.ntmps30
      go_wp2
      go_ret
      exact ⟨rfl, rfl⟩
    · rw [decide_eq_true h0, decide_eq_false h1]
      go_enter Try.func30, Try.ntmps30
      go_wp2
      go_ret
      exact ⟨rfl, rfl⟩
  · rw [decide_eq_false h0, Bool.false_and]
    go_enter Try.func30, Try.ntmps30
    go_wp2
    go_ret
    exact ⟨rfl, rfl⟩
theorem rtstep (t : Int) (w : World) : Calls Try.prog 15 #[.int .i64 t] w fun e w' => e = .returned (.int .i64 (stX t)) ∧ w = w' := by
  have hm := fun w => rtmay t w
  by_cases h : 0 ≤ t ∧ t ≤ 1048575
  · obtain ⟨h0, h1⟩ := h
    rw [decide_eq_true h0, decide_eq_true h1, Bool.true_and] at hm
    have hd : t.tdiv 30 = t / 30 := Int.tdiv_eq_ediv_of_nonneg h0
    rw [stX_in h0 h1]
    obtain ⟨d, hdd⟩ : ∃ d, t / 30 = d := ⟨_, rfl⟩
    have hd0 : 0 ≤ d := by omega
    have hd1 : d ≤ 34952 := by omega
    rw [hdd] at hd ⊢
    have HM := Lib.hid hm
    clear hdd hm
    go_enter Try.func15, Try.ntmps15
    go_wp2_with (go_at_call 30; (with_reducible refine (HM.out _).mono ?_); rintro e w1 ⟨rfl, rfl⟩)
    go_ret
    exact ⟨rfl, rfl⟩
  · have hb : (decide (0 ≤ t) && decide (t ≤ 1048575)) = false := by rw [Bool.eq_false_iff]; intro c; simp at c; exact h c
    rw [hb] at hm
    rw [stX_out (by omega)]
    have HM := Lib.hid hm
    clear hm hb h
    go_enter Try.func15, Try.ntmps15
    go_wp2_with (go_at_call 30; (with_reducible refine (HM.out _).mono ?_); rintro e w1 ⟨rfl, rfl⟩)
    go_ret
    exact ⟨rfl, rfl⟩

set_option maxRecDepth 100000 in
theorem rtcode (p : Nat) (most : Int) (ts : List ByteArray) (sec k : Int) (s0 : -9223372036854775808 ≤ sec) (s1 : sec ≤ 9223372036854775807) :
    Does Try.prog (refA p most ts) 10 #[.pointer (some ⟨p, 0, none⟩), .int .i64 sec, .int .i64 k] (.returned (.tuple #[.int .i64 (tpX most ts sec k), .int .i64 (tpE most ts sec k)])) (refA p most (tpT most ts sec k)) := by
  intro w F h
  have hS := Becomes.refl h
  clear h
  by_cases hk : okS k = true
  · obtain ⟨k0, k1⟩ := (okS_iff k).1 hk
    have HN := Lib.hid (fun W => rnums1 k W (by omega) (by omega) 3)
    have hn5 := numS_size k
    have hM := drmac p most ts sec (cdS k) (by have := cdS_size k; omega) s0 s1
    rw [show tmK cM (some sec) (cdS k) = cdK sec k from rfl] at hM
    by_cases he : ckE most ts (okK (some sec)) (cdK sec k) = 0
    · obtain ⟨g1, g2, g3⟩ := tp_ok hk he
      rw [g1, g2, g3]
      rw [he] at hM
      generalize ckX most ts (okK (some sec)) (cdK sec k) = X at *
      generalize ckT most ts (okK (some sec)) (cdK sec k) = T at *
      unfold cdS codeW at hM
      generalize numS k = S at *
      have HM := Lib.hid hM
      clear hM he hk g1 g2 g3
      go_enter Try.func10, Try.ntmps10
      go_wp2_with (first
        | (go_at_call 25; (with_reducible refine (HN.out _).mono ?_); rintro e w1 ⟨rfl, hb⟩; replace hS := hS.lay (refA_good _ _ _) hb; clear hb)
        | (go_at_call 24; (with_reducible refine (Becomes.op HM.out hS).mono ?_); rintro e w1 ⟨rfl, hS1⟩))
      go_ret2
      exact ⟨rfl, hS1⟩
    · obtain ⟨g1, g2, g3⟩ := tp_no hk he
      rw [g1, g2, g3]
      obtain ⟨_, he3⟩ := ckX_ne he
      rw [he3] at hM
      generalize ckX most ts (okK (some sec)) (cdK sec k) = X at *
      generalize ckT most ts (okK (some sec)) (cdK sec k) = T at *
      unfold cdS codeW at hM
      generalize numS k = S at *
      have HM := Lib.hid hM
      clear hM he he3 hk g1 g2 g3
      go_enter Try.func10, Try.ntmps10
      go_wp2_with (first
        | (go_at_call 25; (with_reducible refine (HN.out _).mono ?_); rintro e w1 ⟨rfl, hb⟩; replace hS := hS.lay (refA_good _ _ _) hb; clear hb)
        | (go_at_call 24; (with_reducible refine (Becomes.op HM.out hS).mono ?_); rintro e w1 ⟨rfl, hS1⟩))
      go_ret2
      exact ⟨rfl, hS1⟩
  · have hk' : okS k = false := by simpa using hk
    obtain ⟨g1, g2, g3⟩ := tp_bad (most := most) (ts := ts) (sec := sec) hk'
    rw [g1, g2, g3]
    have hn : ¬ (1 ≤ k ∧ k ≤ 1048575) := fun c => hk ((okS_iff k).2 c)
    clear hk hk' g1 g2 g3
    by_cases d1 : k < 1
    · clear hn
      go_enter Try.func10, Try.ntmps10
      go_wp2
      go_ret2
      exact ⟨rfl, hS⟩
    · have d2 : 1048575 < k := by omega
      clear hn
      go_enter Try.func10, Try.ntmps10
      go_wp2
      go_ret2
      exact ⟨rfl, hS⟩

set_option maxRecDepth 100000 in
set_option maxHeartbeats 4000000 in
theorem rtaccept (p : Nat) (most : Int) (ts : List ByteArray) (sec last tick code : Int) (s0 : -9223372036854775808 ≤ sec) (s1 : sec ≤ 9223372036854775807) :
    Does Try.prog (refA p most ts) 12 #[.pointer (some ⟨p, 0, none⟩), .int .i64 sec, .int .i64 last, .int .i64 tick, .int .i64 code] (.returned (.tuple #[.int .i64 (accX ts sec last tick code), .bool (accB ts sec last tick code)])) (refA p most ts) := by
  intro w F h
  have hS := Becomes.refl h
  clear h
  obtain ⟨b0, b1⟩ := stX_bd tick
  have HS := Lib.hid (fun w => rtstep tick w)
  have hI := fun k => drismac p most ts sec (cdS k) code (by have := cdS_size k; omega) s0 s1
  have hR : accX ts sec last tick code = if stX tick = 0 then 0 else accF (fun k => decide (last < k) && ckI ts (okK (some sec)) (cdK sec k) code) (accN (stX tick)) (accA (stX tick)) := rfl
  have hI2 : ∀ k, Does Try.prog (refA p most ts) 29 #[.pointer (some ⟨p, 0, none⟩), .int .i64 sec, .string (codeW ++ numS k), .int .i64 code] (.returned (.bool (ckI ts (okK (some sec)) (cdK sec k) code))) (refA p most ts) := fun k => hI k
  clear hI
  unfold accB
  generalize accX ts sec last tick code = R at *
  generalize stX tick = now at *
  by_cases hz : now = 0
  · subst hz
    rw [if_pos rfl] at hR
    subst hR
    clear hI2
    go_enter Try.func12, Try.ntmps12
    go_wp2_with (go_at_call 15; (with_reducible refine (HS.out _).mono ?_); rintro e w1 ⟨rfl, rfl⟩)
    go_ret2
    exact ⟨rfl, hS⟩
  · rw [if_neg hz] at hR
    obtain ⟨a1, a2, a3⟩ := accA_bd (s := now) (by omega)
    have hmax : max (1 : Int) (now - 1) = accA now := by unfold accA; split <;> omega
    have hmax2 : (if (1 : Int) < now - 1 then now - 1 else 1) = accA now := by unfold accA; (repeat' split) <;> omega
    have HR := Lib.hid hR
    have HI := Lib.hid hI2
    clear hR hI2
    generalize accA now = a at *
    generalize accN now = n at *
    have hzz : (now == 0) = false := by simpa using hz
    go_enter Try.func12, Try.ntmps12
    go_wp2_with (go_at_call 15; (with_reducible refine (HS.out _).mono ?_); rintro e w1 ⟨rfl, rfl⟩)
    clear hmax hmax2
    go_loopw [13] (fun i wr => ∃ (k : Int) (m : Nat), i = .int .i64 k ∧ 1 ≤ k ∧ k + (m : Int) = now + 2 ∧ R = accF (fun k => decide (last < k) && ckI ts (okK (some sec)) (cdK sec k) code) m k ∧ Becomes F (refA p most ts) w wr) (fun i _ => (now + 2 - intOf i).toNat)
    case atStart => exact ⟨a, n, rfl, a1, a3, HR.out, hS⟩
    case round =>
      clear hS HR
      obtain ⟨k, m, rfl, hk1, hkm, hR, hS⟩ := hrel
      by_cases hlt : k ≤ now + 1
      · obtain ⟨m', rfl⟩ : ∃ m', m = m' + 1 := ⟨m - 1, by omega⟩
        have hdk := HI.out k
        have HN := Lib.hid (fun W => rnums1 k W (by omega) (by omega) 3)
        have hn5 := numS_size k
        by_cases hl : last < k
        · obtain ⟨b, hb⟩ : ∃ b, ckI ts (okK (some sec)) (cdK sec k) code = b := ⟨_, rfl⟩
          rw [hb] at hdk
          unfold codeW at hdk
          generalize numS k = S at *
          cases b
          · have hR' := hR.trans (accF_no (by rw [hb, Bool.and_false]))
            have HR' := Lib.hid hR'
            have HDK := Lib.hid hdk
            clear hR hR' hdk hb
            go_wp2_with (first
              | (go_at_call 25; (with_reducible refine (HN.out _).mono ?_); rintro e w1 ⟨rfl, hb⟩; replace hS := hS.lay (refA_good _ _ _) hb; clear hb)
              | (go_at_call 29; (with_reducible refine (Becomes.op HDK.out hS).mono ?_); rintro e w1 ⟨rfl, hS1⟩; clear hS))
            go_roundw
            case rel => exact ⟨k + 1, m', by go_num, by omega, by omega, HR'.out, hS1⟩
            case measure => simp [intOf]; omega
          · have hR' := hR.trans (accF_yes (by rw [hb, decide_eq_true hl]; rfl))
            subst hR'
            have HDK := Lib.hid hdk
            clear hR hdk hb
            have hk0 : 0 < R := by omega
            go_wp2_with (first
              | (go_at_call 25; (with_reducible refine (HN.out _).mono ?_); rintro e w1 ⟨rfl, hb⟩; replace hS := hS.lay (refA_good _ _ _) hb; clear hb)
              | (go_at_call 29; (with_reducible refine (Becomes.op HDK.out hS).mono ?_); rintro e w1 ⟨rfl, hS1⟩; clear hS))
            go_ret2
            exact ⟨by rw [decide_eq_true hk0]; rfl, hS1⟩
        · have hR' := hR.trans (accF_no (by rw [decide_eq_false hl, Bool.false_and]))
          have HR' := Lib.hid hR'
          clear hR hR' hdk
          go_wp2
          go_roundw
          case rel => exact ⟨k + 1, m', by go_num, by omega, by omega, HR'.out, hS⟩
          case measure => simp [intOf]; omega
      · obtain rfl : m = 0 := by omega
        have hR' : R = 0 := hR
        subst hR'
        clear hR
        go_wp2
        go_ret2
        exact ⟨rfl, hS⟩
end Go.Proofs.Ytgafgmcdbpdpgaa
