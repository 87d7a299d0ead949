/- The reference's WindowMay and AddSeq: what they answer. No condition. -/
import Derived.Test.YticncfaokapplaaWd
import Derived.Test.YticncfaokapplaaFplain3
import Derived.Test.YticncfaokapplaaProg
import Derived.WalkSpells
import Derived.WalkLawsBesides
import Derived.Lib.Hide
import Derived.Great.Walk
import Derived.OwnWalk
import Derived.IntWalk
import Derived.Below
import Derived.Test.YticncfaokapplaaBlk
namespace Go.Proofs.Yticncfaokapplaa
open Go Go.RowKit

abbrev TWd : TypeId := 23
theorem wdMay_1 (b : Int) : wdMay (-1) b = decide (b = 0) := rfl
theorem wdMay_no {h b : Int} (h1 : ¬ h = -1) (hn : h < 0 ∨ 1048575 < h ∨ b < 1 ∨ 4294967296 ≤ b ∨ b % 2 = 0 ∨ (h < 31 ∧ 2 ^ (h + 1).toNat ≤ b)) : wdMay h b = false := by
  unfold wdMay
  rw [if_neg h1]
  rcases hn with c | c | c | c | c | ⟨c1, c2⟩
  · rw [decide_eq_false (show ¬ 0 ≤ h by omega)]; rfl
  · rw [decide_eq_false (show ¬ h ≤ 1048575 by omega), Bool.and_false]; rfl
  · rw [decide_eq_false (show ¬ 1 ≤ b by omega), Bool.and_false]; rfl
  · rw [decide_eq_false (show ¬ b < 4294967296 by omega), Bool.and_false]; rfl
  · have : b.toNat.testBit 0 = false := by
      rw [Nat.testBit_zero]
      exact decide_eq_false (by omega)
    rw [this, Bool.and_false]; rfl
  · rw [decide_eq_false (show ¬ 31 ≤ h by omega), decide_eq_false (show ¬ b < 2 ^ (h + 1).toNat by omega), Bool.or_false, Bool.and_false]
theorem wdMay_yes {h b : Int} (h0 : 0 ≤ h) (h1 : h ≤ 1048575) (b0 : 1 ≤ b) (b1 : b < 4294967296) (b2 : ¬ b % 2 = 0) (hl : 31 ≤ h ∨ b < 2 ^ (h + 1).toNat) : wdMay h b = true := by
  unfold wdMay
  have : b.toNat.testBit 0 = true := by
    rw [Nat.testBit_zero]
    exact decide_eq_true (by omega)
  have hl2 : (decide (31 ≤ h) || decide (b < 2 ^ (h + 1).toNat)) = true := by
    rcases hl with c | c <;> simp [c]
  rw [if_neg (by omega), this, hl2, decide_eq_true h0, decide_eq_true h1, decide_eq_true b0, decide_eq_true b1]
  rfl
theorem wmask1 (b : Int) : bits .and .i64 b 1 = b % 2 := i64_mask b 1 (by omega)
theorem wbox (w : World) (h b : Int) : Below w.heap.size w (w.alloc (.cells #[.int .i64 h, .int .i64 b] TWd)) := (Below.refl _ _).alloc (Nat.le_refl _) _
set_option maxRecDepth 100000 in
set_option maxHeartbeats 4000000 in
theorem rwmay (h b : Int) (w : World) : Calls Try.prog 12 #[.agg #[.int .i64 h, .int .i64 b]] w fun e w' => e = .returned (.bool (wdMay h b)) ∧ Below w.heap.size w w' := by
  have HB := Lib.hid (fun h => wbox w h b)
  have hm := wmask1 b
  by_cases h1 : h = -1
  · subst h1
    rw [wdMay_1]
    clear hm
    go_enter Try.func12, Try.ntmps12
    go_wp2
    go_ret
    exact ⟨rfl, HB.out _⟩
  · by_cases hbad : h < 0 ∨ 1048575 < h ∨ b < 1 ∨ 4294967296 ≤ b ∨ b % 2 = 0
    · rw [wdMay_no h1 (by rcases hbad with c | c | c | c | c <;> simp [c])]
      obtain ⟨r, hr⟩ : ∃ r, b % 2 = r := ⟨_, rfl⟩
      rw [hr] at hm hbad
      by_cases c1 : h < 0
      · clear hbad hr
        go_enter Try.func12, Try.ntmps12
        go_wp2
        go_ret
        exact ⟨rfl, HB.out _⟩
      · by_cases c2 : 1048575 < h
        · clear hbad hr
          go_enter Try.func12, Try.ntmps12
          go_wp2
          go_ret
          exact ⟨rfl, HB.out _⟩
        · by_cases c3 : b < 1
          · clear hbad hr
            go_enter Try.func12, Try.ntmps12
            go_wp2
            go_ret
            exact ⟨rfl, HB.out _⟩
          · by_cases c4 : 4294967296 ≤ b
            · clear hbad hr
              go_enter Try.func12, Try.ntmps12
              go_wp2
              go_ret
              exact ⟨rfl, HB.out _⟩
            · obtain rfl : r = 0 := by omega
              clear hbad hr
              go_enter Try.func12, Try.ntmps12
              go_wp2
              go_ret
              exact ⟨rfl, HB.out _⟩
    · obtain ⟨K, rfl⟩ := Int.eq_ofNat_of_zero_le (show 0 ≤ h by omega)
      obtain ⟨B, rfl⟩ := Int.eq_ofNat_of_zero_le (show 0 ≤ b by omega)
      have c1 : ¬ (K : Int) < 0 := by omega
      have c2 : ¬ 1048575 < (K : Int) := by omega
      have c3 : ¬ (B : Int) < 1 := by omega
      have c4 : ¬ 4294967296 ≤ (B : Int) := by omega
      have hr : ((B : Int) % 2) = 1 := by omega
      rw [hr] at hm
      by_cases h31 : 31 ≤ K
      · rw [wdMay_yes (by omega) (by omega) (by omega) (by omega) (by omega) (.inl (by omega))]
        have c5 : 31 ≤ (K : Int) := by omega
        clear hbad h1 hr
        go_enter Try.func12, Try.ntmps12
        go_wp2
        go_ret
        exact ⟨rfl, HB.out _⟩
      · have c5 : ¬ 31 ≤ (K : Int) := by omega
        have hV : wdMay (K : Int) (B : Int) = ((B : Int) / 2 ^ (K + 1) == 0) := by
          have e : ((K : Int) + 1).toNat = K + 1 := by omega
          have hp : (0 : Int) < 2 ^ (K + 1) := Int.pow_pos (by decide)
          by_cases hl : (B : Int) < 2 ^ (K + 1)
          · rw [wdMay_yes (by omega) (by omega) (by omega) (by omega) (by omega) (.inr (by rw [e]; exact hl)), Int.ediv_eq_zero_of_lt (by omega) hl]
            rfl
          · rw [wdMay_no (by omega) (.inr (.inr (.inr (.inr (.inr ⟨by omega, by rw [e]; omega⟩)))))]
            have : ¬ (B : Int) / 2 ^ (K + 1) = 0 := by
              have := Int.le_ediv_of_mul_le hp (show 1 * 2 ^ (K + 1) ≤ (B : Int) by omega)
              omega
            simp [this]
        have HV := Lib.hid hV
        clear hbad h1 hr hV
        go_enter Try.func12, Try.ntmps12
        go_wp2
        go_ret
        exact ⟨by rw [HV.out]; rfl, HB.out _⟩
/-- What adding answers. -/
abbrev wdV (h b : Int) : Value := .agg #[.int .i64 h, .int .i64 b]
theorem wd_no {h b s : Int} (hn : wdMay h b = false ∨ s < 0 ∨ 1048575 < s) : wdE h b s = 1700 ∧ wdH h b s = 0 ∧ wdB h b s = 0 := by
  have ho : wdOk h b s = false := by
    unfold wdOk
    rcases hn with c | c | c
    · rw [c]; rfl
    · rw [decide_eq_false (show ¬ 0 ≤ s by omega), Bool.and_false]; rfl
    · rw [decide_eq_false (show ¬ s ≤ 1048575 by omega), Bool.and_false]
  have hE : wdE h b s = 1700 := by unfold wdE; rw [ho]; rfl
  unfold wdH wdB
  rw [hE]
  exact ⟨rfl, rfl, rfl⟩
theorem wd_ok {h b s : Int} (hm : wdMay h b = true) (s0 : 0 ≤ s) (s1 : s ≤ 1048575) : wdOk h b s = true := by
  unfold wdOk
  rw [hm, decide_eq_true s0, decide_eq_true s1]
  rfl
theorem wd_above {h b s : Int} (ho : wdOk h b s = true) (hs : h < s) : wdE h b s = 0 ∧ wdH h b s = s ∧ wdB h b s = if 0 ≤ h ∧ s - h < 32 then (((b.toNat * 2 ^ (s - h).toNat) % 4294967296 ||| 1 : Nat) : Int) else 1 := by
  have hE : wdE h b s = 0 := by
    unfold wdE wdOld
    rw [if_pos ho, decide_eq_false (show ¬ s ≤ h by omega)]
    rfl
  unfold wdH wdB wdN
  rw [if_pos hE, if_pos hE, if_pos hs, if_pos hs]
  refine ⟨hE, rfl, ?_⟩
  split <;> rfl
theorem wd_old {h b s : Int} (ho : wdOk h b s = true) (hs : s ≤ h) (hb : 32 ≤ h - s ∨ b.toNat.testBit (h - s).toNat = true) : wdE h b s = 1701 ∧ wdH h b s = 0 ∧ wdB h b s = 0 := by
  have hE : wdE h b s = 1701 := by
    unfold wdE wdOld
    rw [if_pos ho, decide_eq_true hs]
    rcases hb with c | c
    · rw [decide_eq_true c]; rfl
    · rw [c, Bool.or_true]; rfl
  unfold wdH wdB
  rw [hE]
  exact ⟨rfl, rfl, rfl⟩
theorem wd_new {h b s : Int} (ho : wdOk h b s = true) (hs : s ≤ h) (h32 : h - s < 32) (hb : b.toNat.testBit (h - s).toNat = false) : wdE h b s = 0 ∧ wdH h b s = h ∧ wdB h b s = ((b.toNat ||| 2 ^ (h - s).toNat : Nat) : Int) := by
  have hE : wdE h b s = 0 := by
    unfold wdE wdOld
    rw [if_pos ho, hb, decide_eq_false (show ¬ 32 ≤ h - s by omega), Bool.or_self, Bool.and_false]
    rfl
  unfold wdH wdB wdN
  rw [if_pos hE, if_pos hE, if_neg (by omega), if_neg (by omega)]
  exact ⟨hE, rfl, rfl⟩
/-- A window that may be: none came, or so many numbers. -/
theorem wdMay_cases {h b : Int} (hm : wdMay h b = true) : (h = -1 ∧ b = 0) ∨ ∃ K B : Nat, h = (K : Int) ∧ b = (B : Int) ∧ K ≤ 1048575 ∧ 1 ≤ B ∧ B < 4294967296 := by
  by_cases h1 : h = -1
  · subst h1
    exact .inl ⟨rfl, by simpa [wdMay_1] using hm⟩
  · right
    by_cases hbad : h < 0 ∨ 1048575 < h ∨ b < 1 ∨ 4294967296 ≤ b
    · rw [wdMay_no h1 (by rcases hbad with c | c | c | c <;> simp [c])] at hm
      cases hm
    · obtain ⟨K, rfl⟩ := Int.eq_ofNat_of_zero_le (show 0 ≤ h by omega)
      obtain ⟨B, rfl⟩ := Int.eq_ofNat_of_zero_le (show 0 ≤ b by omega)
      exact ⟨K, B, rfl, rfl, by omega, by omega, by omega⟩
/-- A call's own window and its answer's, behind a call that makes memory. -/
theorem wd_two {w w1 : World} {c c' : Array Value} {T T' : TypeId} (hb : Below ((w.alloc (.cells c T)).alloc (.cells c' T')).heap.size ((w.alloc (.cells c T)).alloc (.cells c' T')) w1) :
    Blk w1 w.heap.size c ∧ Blk w1 (w.heap.size + 1) c' ∧ Below w.heap.size w w1 := by
  have h0 : Below w.heap.size w ((w.alloc (.cells c T)).alloc (.cells c' T')) := ((Below.refl _ _).alloc (Nat.le_refl _) _).alloc (by simp) _
  exact ⟨((Blk.new w c T).alloc _).step hb, (Blk.new' (w.alloc (.cells c T)) (w.heap.size + 1) (by simp) c' T').step hb, h0.trans (hb.mono h0.size)⟩
set_option maxRecDepth 100000 in
set_option maxHeartbeats 4000000 in
theorem raddseq_no (h b s : Int) (w : World) (hn : wdMay h b = false ∨ s < 0 ∨ 1048575 < s) : Calls Try.prog 9 #[.agg #[.int .i64 h, .int .i64 b], .int .i64 s] w fun e w' => e = .returned (.tuple #[.agg #[.int .i64 (wdH h b s), .int .i64 (wdB h b s)], .int .i64 (wdE h b s)]) ∧ Below w.heap.size w w' := by
  obtain ⟨e1, e2, e3⟩ := wd_no hn
  rw [e1, e2, e3]
  have HM := Lib.hid (fun w => rwmay h b w)
  clear e1 e2 e3
  cases hm : wdMay h b with
  | false =>
    rw [hm] at HM
    clear hn hm
    go_enter Try.func9, Try.ntmps9
    go_wp2_with (go_at_call 12; (with_reducible refine (HM.out _).mono ?_); rintro e w1 ⟨rfl, hb⟩; obtain ⟨ka, kr, hB⟩ := wd_two hb; clear hb; have HB := Lib.hid hB; clear hB; have ea := ka.cell; have ga := ka.froz; have la := ka.lt; have er := kr.cell; have gr := kr.froz; have lr := kr.lt)
    refine bodyPost_ret (v := .tuple #[.agg #[.int .i64 0, .int .i64 0], .int .i64 1700]) (by simp [*, results, Try.results9, go_sem]) rfl ⟨rfl, ?_⟩
    repeat (with_reducible refine Below.setCell ?_ (by simp) _)
    exact HB.out
  | true =>
    rw [hm] at HM hn
    clear hm
    by_cases s0 : s < 0
    · clear hn
      go_enter Try.func9, Try.ntmps9
      go_wp2_with (go_at_call 12; (with_reducible refine (HM.out _).mono ?_); rintro e w1 ⟨rfl, hb⟩; obtain ⟨ka, kr, hB⟩ := wd_two hb; clear hb; have HB := Lib.hid hB; clear hB; have ea := ka.cell; have ga := ka.froz; have la := ka.lt; have er := kr.cell; have gr := kr.froz; have lr := kr.lt)
      refine bodyPost_ret (v := .tuple #[.agg #[.int .i64 0, .int .i64 0], .int .i64 1700]) (by simp [*, results, Try.results9, go_sem]) rfl ⟨rfl, ?_⟩
      repeat (with_reducible refine Below.setCell ?_ (by simp) _)
      exact HB.out
    · have s1 : 1048575 < s := by
        rcases hn with c | c | c
        · cases c
        · exact absurd c s0
        · exact c
      clear hn
      go_enter Try.func9, Try.ntmps9
      go_wp2_with (go_at_call 12; (with_reducible refine (HM.out _).mono ?_); rintro e w1 ⟨rfl, hb⟩; obtain ⟨ka, kr, hB⟩ := wd_two hb; clear hb; have HB := Lib.hid hB; clear hB; have ea := ka.cell; have ga := ka.froz; have la := ka.lt; have er := kr.cell; have gr := kr.froz; have lr := kr.lt)
      refine bodyPost_ret (v := .tuple #[.agg #[.int .i64 0, .int .i64 0], .int .i64 1700]) (by simp [*, results, Try.results9, go_sem]) rfl ⟨rfl, ?_⟩
      repeat (with_reducible refine Below.setCell ?_ (by simp) _)
      exact HB.out
theorem wd_pow {d : Nat} (hd : d < 32) : (2 : Nat) ^ d ≤ 2147483648 := by
  have := Nat.pow_le_pow_right (n := 2) (by decide) (show d ≤ 31 by omega)
  exact this
/-- The bits move on. -/
theorem wd_shl {B d : Nat} (hB : B < 4294967296) (hd : d < 32) : wrap64 ((B : Int) * 2 ^ d) = ((B * 2 ^ d : Nat) : Int) := by
  have hp := wd_pow hd
  have h1 : B * 2 ^ d ≤ 4294967295 * 2147483648 := Nat.mul_le_mul (by omega) hp
  have e : (B : Int) * 2 ^ d = ((B * 2 ^ d : Nat) : Int) := by simp
  rw [e]
  unfold wrap64
  omega
theorem wd_low (X : Nat) : bits .and .i64 (X : Int) 4294967295 = ((X % 4294967296 : Nat) : Int) := by
  have := i64_mask (X : Int) 32 (by omega)
  rw [show ((2 ^ 32 - 1 : Nat) : Int) = 4294967295 by decide, show ((2 ^ 32 : Nat) : Int) = 4294967296 by decide] at this
  rw [this]
  omega
theorem wd_or1 {X : Nat} (h : X < 4294967296) : bits .or .i64 (X : Int) 1 = ((X ||| 1 : Nat) : Int) := i64_or_nat X 1 (by omega) (by omega)
/-- One bit. -/
theorem wd_bit (B d : Nat) : bits .and .i64 ((B : Int) / 2 ^ d) 1 = ((B / 2 ^ d % 2 : Nat) : Int) := by
  rw [wmask1]
  simp
theorem wd_one {d : Nat} (hd : d < 32) : wrap64 ((2 : Int) ^ d) = ((2 ^ d : Nat) : Int) := by
  have hp := wd_pow hd
  have e : (2 : Int) ^ d = ((2 ^ d : Nat) : Int) := by simp
  rw [e]
  generalize (2 ^ d : Nat) = P at *
  unfold wrap64
  omega
theorem wd_set {B d : Nat} (hB : B < 4294967296) (hd : d < 32) : bits .or .i64 (B : Int) ((2 ^ d : Nat) : Int) = ((B ||| 2 ^ d : Nat) : Int) := i64_or_nat B (2 ^ d) (by omega) (by have := wd_pow hd; omega)
theorem wd_or01 : bits .or .i64 0 1 = 1 := by decide
set_option maxRecDepth 100000 in
set_option maxHeartbeats 4000000 in
theorem raddseq_ok (h b s : Int) (w : World) (hm : wdMay h b = true) (s0 : 0 ≤ s) (s1 : s ≤ 1048575) : Calls Try.prog 9 #[.agg #[.int .i64 h, .int .i64 b], .int .i64 s] w fun e w' => e = .returned (.tuple #[.agg #[.int .i64 (wdH h b s), .int .i64 (wdB h b s)], .int .i64 (wdE h b s)]) ∧ Below w.heap.size w w' := by
  have ho := wd_ok hm s0 s1
  have HM := Lib.hid (fun w => rwmay h b w)
  rw [hm] at HM
  have t0 : ¬ s < 0 := by omega
  have t1 : ¬ 1048575 < s := by omega
  rcases wdMay_cases hm with ⟨rfl, rfl⟩ | ⟨K, B, rfl, rfl, hK, hB1, hB⟩
  · obtain ⟨e1, e2, e3⟩ := wd_above ho (show -1 < s by omega)
    rw [if_neg (by omega)] at e3
    rw [e1, e2, e3]
    have t2 : -1 < s := by omega
    have ho1 := wd_or01
    clear ho hm e1 e2 e3
    go_enter Try.func9, Try.ntmps9
    go_wp2_with (go_at_call 12; (with_reducible refine (HM.out _).mono ?_); rintro e w1 ⟨rfl, hb⟩; obtain ⟨ka, kr, hB⟩ := wd_two hb; clear hb; have HB := Lib.hid hB; clear hB; have ea := ka.cell; have ga := ka.froz; have la := ka.lt; have er := kr.cell; have gr := kr.froz; have lr := kr.lt)
    refine bodyPost_ret (v := .tuple #[.agg #[.int .i64 s, .int .i64 1], .int .i64 0]) (by simp [*, results, Try.results9, go_sem]) rfl ⟨rfl, ?_⟩
    repeat (with_reducible refine Below.setCell ?_ (by simp) _)
    exact HB.out
  · by_cases hs : (K : Int) < s
    · obtain ⟨e1, e2, e3⟩ := wd_above ho hs
      rw [e1, e2, e3]
      obtain ⟨d, hd⟩ : ∃ d : Nat, s - (K : Int) = (d : Int) := ⟨(s - (K : Int)).toNat, by omega⟩
      have hdt : (s - (K : Int)).toNat = d := by omega
      rw [hdt, Int.toNat_natCast]
      by_cases h32 : d < 32
      · rw [if_pos (by omega)]
        have h32I : (d : Int) < 32 := by omega
        have f1 := wd_shl hB h32
        have f2 := wd_low (B * 2 ^ d)
        have f3 := wd_or1 (X := B * 2 ^ d % 4294967296) (Nat.mod_lt _ (by decide))
        generalize (B * 2 ^ d % 4294967296 ||| 1 : Nat) = R at *
        generalize (B * 2 ^ d % 4294967296 : Nat) = Q at *
        generalize (B * 2 ^ d : Nat) = P at *
        clear ho hm e1 e2 e3
        go_enter Try.func9, Try.ntmps9
        go_wp2_with (go_at_call 12; (with_reducible refine (HM.out _).mono ?_); rintro e w1 ⟨rfl, hb⟩; obtain ⟨ka, kr, hB⟩ := wd_two hb; clear hb; have HB := Lib.hid hB; clear hB; have ea := ka.cell; have ga := ka.froz; have la := ka.lt; have er := kr.cell; have gr := kr.froz; have lr := kr.lt)
        refine bodyPost_ret (v := .tuple #[.agg #[.int .i64 s, .int .i64 (R : Int)], .int .i64 0]) (by simp [*, results, Try.results9, go_sem]) rfl ⟨rfl, ?_⟩
        repeat (with_reducible refine Below.setCell ?_ (by simp) _)
        exact HB.out
      · rw [if_neg (by omega)]
        have h32I : ¬ (d : Int) < 32 := by omega
        have ho1 := wd_or01
        clear ho hm e1 e2 e3
        go_enter Try.func9, Try.ntmps9
        go_wp2_with (go_at_call 12; (with_reducible refine (HM.out _).mono ?_); rintro e w1 ⟨rfl, hb⟩; obtain ⟨ka, kr, hB⟩ := wd_two hb; clear hb; have HB := Lib.hid hB; clear hB; have ea := ka.cell; have ga := ka.froz; have la := ka.lt; have er := kr.cell; have gr := kr.froz; have lr := kr.lt)
        refine bodyPost_ret (v := .tuple #[.agg #[.int .i64 s, .int .i64 1], .int .i64 0]) (by simp [*, results, Try.results9, go_sem]) rfl ⟨rfl, ?_⟩
        repeat (with_reducible refine Below.setCell ?_ (by simp) _)
        exact HB.out
    · obtain ⟨d, hd⟩ : ∃ d : Nat, (K : Int) - s = (d : Int) := ⟨((K : Int) - s).toNat, by omega⟩
      have hdt : ((K : Int) - s).toNat = d := by omega
      have hbit : B.testBit d = decide (B / 2 ^ d % 2 = 1) := Nat.testBit_eq_decide_div_mod_eq
      have f1 := wd_bit B d
      obtain ⟨r, hr⟩ : ∃ r, B / 2 ^ d % 2 = r := ⟨_, rfl⟩
      have hr2 : r < 2 := by rw [← hr]; exact Nat.mod_lt _ (by decide)
      rw [hr] at f1 hbit
      by_cases h32 : 32 ≤ d
      · obtain ⟨e1, e2, e3⟩ := wd_old ho (show s ≤ (K : Int) by omega) (.inl (by omega))
        rw [e1, e2, e3]
        have h32I : 32 ≤ (d : Int) := by omega
        clear ho hm e1 e2 e3 hr f1 hbit
        go_enter Try.func9, Try.ntmps9
        go_wp2_with (go_at_call 12; (with_reducible refine (HM.out _).mono ?_); rintro e w1 ⟨rfl, hb⟩; obtain ⟨ka, kr, hB⟩ := wd_two hb; clear hb; have HB := Lib.hid hB; clear hB; have ea := ka.cell; have ga := ka.froz; have la := ka.lt; have er := kr.cell; have gr := kr.froz; have lr := kr.lt)
        refine bodyPost_ret (v := .tuple #[.agg #[.int .i64 0, .int .i64 0], .int .i64 1701]) (by simp [*, results, Try.results9, go_sem]) rfl ⟨rfl, ?_⟩
        repeat (with_reducible refine Below.setCell ?_ (by simp) _)
        exact HB.out
      · have h32I : ¬ 32 ≤ (d : Int) := by omega
        by_cases h1 : r = 1
        · obtain ⟨e1, e2, e3⟩ := wd_old ho (show s ≤ (K : Int) by omega) (.inr (by rw [hdt, Int.toNat_natCast, hbit, h1]; rfl))
          rw [e1, e2, e3]
          subst h1
          clear ho hm e1 e2 e3 hr hbit
          go_enter Try.func9, Try.ntmps9
          go_wp2_with (go_at_call 12; (with_reducible refine (HM.out _).mono ?_); rintro e w1 ⟨rfl, hb⟩; obtain ⟨ka, kr, hB⟩ := wd_two hb; clear hb; have HB := Lib.hid hB; clear hB; have ea := ka.cell; have ga := ka.froz; have la := ka.lt; have er := kr.cell; have gr := kr.froz; have lr := kr.lt)
          refine bodyPost_ret (v := .tuple #[.agg #[.int .i64 0, .int .i64 0], .int .i64 1701]) (by simp [*, results, Try.results9, go_sem]) rfl ⟨rfl, ?_⟩
          repeat (with_reducible refine Below.setCell ?_ (by simp) _)
          exact HB.out
        · obtain ⟨e1, e2, e3⟩ := wd_new ho (show s ≤ (K : Int) by omega) (by omega) (by rw [hdt, Int.toNat_natCast, hbit]; exact decide_eq_false h1)
          rw [e1, e2, e3, hdt, Int.toNat_natCast]
          obtain rfl : r = 0 := by omega
          have f2 := wd_one (d := d) (by omega)
          have f3 := wd_set (d := d) hB (by omega)
          generalize (B ||| 2 ^ d : Nat) = R at *
          generalize (2 ^ d : Nat) = P at *
          clear ho hm e1 e2 e3 hr hbit
          go_enter Try.func9, Try.ntmps9
          go_wp2_with (go_at_call 12; (with_reducible refine (HM.out _).mono ?_); rintro e w1 ⟨rfl, hb⟩; obtain ⟨ka, kr, hB⟩ := wd_two hb; clear hb; have HB := Lib.hid hB; clear hB; have ea := ka.cell; have ga := ka.froz; have la := ka.lt; have er := kr.cell; have gr := kr.froz; have lr := kr.lt)
          refine bodyPost_ret (v := .tuple #[.agg #[.int .i64 (K : Int), .int .i64 (R : Int)], .int .i64 0]) (by simp [*, results, Try.results9, go_sem]) rfl ⟨rfl, ?_⟩
          repeat (with_reducible refine Below.setCell ?_ (by simp) _)
          exact HB.out
theorem raddseq (h b s : Int) (w : World) : Calls Try.prog 9 #[.agg #[.int .i64 h, .int .i64 b], .int .i64 s] w fun e w' => e = .returned (.tuple #[.agg #[.int .i64 (wdH h b s), .int .i64 (wdB h b s)], .int .i64 (wdE h b s)]) ∧ Below w.heap.size w w' := by
  by_cases hn : wdMay h b = false ∨ s < 0 ∨ 1048575 < s
  · exact raddseq_no h b s w hn
  · exact raddseq_ok h b s w (by
      cases hm : wdMay h b with
      | true => rfl
      | false => exact absurd (.inl hm) hn) (by omega) (by omega)
end Go.Proofs.Yticncfaokapplaa
