/- Plain mathematics of windows: which may be, what adding a number answers and makes; a window tells which numbers came. No program is named. -/
import Derived.WalkKit
namespace Go.Proofs.Yticncfaokapplaa
open Go

/-- May it be? -/
def wdMay (h b : Int) : Bool := if h = -1 then decide (b = 0) else decide (0 ≤ h) && decide (h ≤ 1048575) && decide (1 ≤ b) && decide (b < 4294967296) && b.toNat.testBit 0 && (decide (31 ≤ h) || decide (b < 2 ^ (h + 1).toNat))
def wdOk (h b s : Int) : Bool := wdMay h b && decide (0 ≤ s) && decide (s ≤ 1048575)
/-- Is it old, for a window that may be? -/
def wdOld (h b s : Int) : Bool := decide (s ≤ h) && (decide (32 ≤ h - s) || b.toNat.testBit (h - s).toNat)
/-- The bits behind it. -/
def wdN (h b s : Int) : Nat := if h < s then (if 0 ≤ h ∧ s - h < 32 then (b.toNat * 2 ^ (s - h).toNat) % 4294967296 ||| 1 else 1) else b.toNat ||| 2 ^ (h - s).toNat
def wdE (h b s : Int) : Int := if wdOk h b s then (if wdOld h b s then 1701 else 0) else 1700
def wdH (h b s : Int) : Int := if wdE h b s = 0 then (if h < s then s else h) else 0
def wdB (h b s : Int) : Int := if wdE h b s = 0 then (wdN h b s : Int) else 0
/-- A window of these numbers. -/
def Win (c : Int → Bool) (h : Int) (B : Nat) : Prop :=
  (h = -1 ∧ B = 0 ∧ ∀ n, c n = false) ∨ (0 ≤ h ∧ h ≤ 1048575 ∧ c h = true ∧ (∀ n, c n = true → 0 ≤ n ∧ n ≤ h) ∧ B < 4294967296 ∧ ∀ k : Nat, k < 32 → B.testBit k = c (h - (k : Int)))
theorem testBit_big {B k : Nat} (hB : B < 4294967296) (hk : 32 ≤ k) : B.testBit k = false := Nat.testBit_lt_two_pow (Nat.lt_of_lt_of_le (show B < 2 ^ 32 from hB) (Nat.pow_le_pow_right (by decide) hk))
theorem Win.may {c : Int → Bool} {h : Int} {B : Nat} (w : Win c h B) : wdMay h (B : Int) = true := by
  unfold wdMay
  rcases w with ⟨rfl, rfl, _⟩ | ⟨h0, h1, hc, hb, hB, hk⟩
  · rfl
  · rw [if_neg (by omega), Int.toNat_natCast]
    have hbit : B.testBit 0 = true := by rw [hk 0 (by decide)]; simpa using hc
    have hB1 : 1 ≤ B := by
      rcases Nat.eq_zero_or_pos B with e | e
      · rw [e] at hbit; simp at hbit
      · exact e
    have hlast : (decide (31 ≤ h) || decide ((B : Int) < 2 ^ (h + 1).toNat)) = true := by
      by_cases h31 : 31 ≤ h
      · simp [h31]
      · have hlt : B < 2 ^ (h + 1).toNat := Nat.lt_pow_two_of_testBit _ fun i hi => by
          rcases Nat.lt_or_ge i 32 with c32 | c32
          · rw [hk i c32]
            cases hci : c (h - (i : Int)) with
            | false => rfl
            | true => have := hb _ hci; omega
          · exact testBit_big hB c32
        have : (B : Int) < 2 ^ (h + 1).toNat := by exact_mod_cast hlt
        simp [this]
    rw [hbit, hlast, decide_eq_true h0, decide_eq_true h1, decide_eq_true (show (1 : Int) ≤ (B : Int) by omega), decide_eq_true (show (B : Int) < 4294967296 by omega)]
    rfl
theorem Win.ok {c : Int → Bool} {h : Int} {B : Nat} (w : Win c h B) {s : Int} (s0 : 0 ≤ s) (s1 : s ≤ 1048575) : wdOk h (B : Int) s = true := by
  unfold wdOk
  rw [w.may, decide_eq_true s0, decide_eq_true s1]
  rfl
/-- What came, or is too far behind, is old. -/
theorem Win.old {c : Int → Bool} {h : Int} {B : Nat} (w : Win c h B) {s : Int} (s0 : 0 ≤ s) (s1 : s ≤ 1048575) (ho : c s = true ∨ s ≤ h - 32) : wdE h (B : Int) s = 1701 ∧ wdH h (B : Int) s = 0 ∧ wdB h (B : Int) s = 0 := by
  have hold : wdOld h (B : Int) s = true := by
    unfold wdOld
    rw [Int.toNat_natCast]
    rcases w with ⟨rfl, rfl, hn⟩ | ⟨h0, h1, hc, hb, hB, hk⟩
    · rcases ho with c1 | c1
      · rw [hn] at c1; cases c1
      · omega
    · have hle : s ≤ h := by
        rcases ho with c1 | c1
        · exact (hb s c1).2
        · omega
      rw [decide_eq_true hle, Bool.true_and]
      by_cases h32 : 32 ≤ h - s
      · simp [h32]
      · rcases ho with c1 | c1
        · rw [hk (h - s).toNat (by omega), show h - (((h - s).toNat : Nat) : Int) = s by omega, c1]
          simp
        · omega
  have hE : wdE h (B : Int) s = 1701 := by
    unfold wdE
    rw [if_pos (w.ok s0 s1), if_pos hold]
  unfold wdH wdB
  rw [hE]
  exact ⟨rfl, rfl, rfl⟩
/-- What did not come, and is not too far behind, is new; it came then. -/
theorem Win.new {c : Int → Bool} {h : Int} {B : Nat} (w : Win c h B) {s : Int} (s0 : 0 ≤ s) (s1 : s ≤ 1048575) (hn : c s = false) (hs : h - 32 < s) : wdE h (B : Int) s = 0 ∧ wdH h (B : Int) s = (if h < s then s else h) ∧ ∃ B' : Nat, wdB h (B : Int) s = (B' : Int) ∧ Win (fun n => c n || decide (n = s)) (if h < s then s else h) B' := by
  have hold : wdOld h (B : Int) s = false := by
    unfold wdOld
    rw [Int.toNat_natCast]
    rcases w with ⟨rfl, rfl, _⟩ | ⟨h0, h1, hc, hb, hB, hk⟩
    · rw [decide_eq_false (show ¬ s ≤ -1 by omega), Bool.false_and]
    · by_cases hle : s ≤ h
      · rw [hk (h - s).toNat (by omega), show h - (((h - s).toNat : Nat) : Int) = s by omega, hn, decide_eq_false (show ¬ 32 ≤ h - s by omega)]
        simp
      · simp [hle]
  have hE : wdE h (B : Int) s = 0 := by
    unfold wdE
    rw [if_pos (w.ok s0 s1), if_neg (by rw [hold]; decide)]
  refine ⟨hE, by unfold wdH; rw [if_pos hE], wdN h (B : Int) s, by unfold wdB; rw [if_pos hE], ?_⟩
  right
  unfold wdN
  rw [Int.toNat_natCast]
  rcases w with ⟨rfl, rfl, hnn⟩ | ⟨h0, h1, hc, hb, hB, hk⟩
  · rw [if_pos (by omega), if_pos (by omega), if_neg (by omega)]
    refine ⟨s0, s1, by simp, fun n hnc => ?_, by decide, fun k hk => ?_⟩
    · dsimp only at hnc
      rw [hnn] at hnc
      obtain rfl : n = s := by simpa using hnc
      exact ⟨s0, Int.le_refl _⟩
    · show _ = (c (s - (k : Int)) || decide (s - (k : Int) = s))
      rw [hnn, Bool.false_or]
      cases k with
      | zero => simp
      | succ k => rw [decide_eq_false (by omega)]; simp [Nat.testBit_succ]
  · by_cases hlt : h < s
    · rw [if_pos hlt, if_pos hlt]
      refine ⟨s0, s1, by simp, fun n hnc => ?_, ?_, fun k hk32 => ?_⟩
      · rcases (by simpa using hnc : c n = true ∨ n = s) with e | e
        · have := hb n e; omega
        · omega
      · by_cases hd : 0 ≤ h ∧ s - h < 32
        · rw [if_pos hd]
          exact Nat.or_lt_two_pow (n := 32) (Nat.mod_lt _ (by decide)) (by decide)
        · rw [if_neg hd]; decide
      · obtain ⟨d, hd⟩ : ∃ d : Nat, s - h = (d : Int) := ⟨(s - h).toNat, by omega⟩
        have hdt : (s - h).toNat = d := by omega
        have hd1 : 1 ≤ d := by omega
        rw [hdt]
        have hside : decide (s - (k : Int) = s) = decide (k = 0) := by
          by_cases e : k = 0
          · subst e; simp
          · rw [decide_eq_false e, decide_eq_false (by omega)]
        show _ = (c (s - (k : Int)) || decide (s - (k : Int) = s))
        by_cases hdd : 0 ≤ h ∧ s - h < 32
        · rw [if_pos hdd, Nat.testBit_or, show (4294967296 : Nat) = 2 ^ 32 from rfl, Nat.testBit_mod_two_pow, ← Nat.shiftLeft_eq, Nat.testBit_shiftLeft, decide_eq_true hk32, Bool.true_and, hside]
          congr 1
          · by_cases hkd : d ≤ k
            · rw [decide_eq_true hkd, Bool.true_and, hk (k - d) (by omega)]
              congr 1
              omega
            · rw [decide_eq_false hkd, Bool.false_and]
              cases hx : c (s - (k : Int)) with
              | false => rfl
              | true => have := hb _ hx; omega
          · cases k with
            | zero => rfl
            | succ k => simp [Nat.testBit_succ]
        · rw [if_neg hdd, hside]
          have hcx : c (s - (k : Int)) = false := by
            cases hx : c (s - (k : Int)) with
            | false => rfl
            | true => have := hb _ hx; omega
          rw [hcx, Bool.false_or]
          cases k with
          | zero => rfl
          | succ k => simp [Nat.testBit_succ]
    · rw [if_neg hlt, if_neg hlt]
      obtain ⟨d, hd⟩ : ∃ d : Nat, h - s = (d : Int) := ⟨(h - s).toNat, by omega⟩
      have hdt : (h - s).toNat = d := by omega
      have hd32 : d < 32 := by omega
      rw [hdt]
      refine ⟨h0, h1, by show (c h || _) = true; rw [hc]; rfl, fun n hnc => ?_, ?_, fun k hk32 => ?_⟩
      · rcases (by simpa using hnc : c n = true ∨ n = s) with e | e
        · exact hb n e
        · omega
      · exact Nat.or_lt_two_pow (n := 32) hB (Nat.pow_lt_pow_right (by decide) hd32)
      · show _ = (c (h - (k : Int)) || decide (h - (k : Int) = s))
        rw [Nat.testBit_or, Nat.testBit_two_pow, hk k hk32]
        congr 1
        by_cases e : d = k
        · subst e; rw [decide_eq_true rfl, decide_eq_true (by omega)]
        · rw [decide_eq_false e, decide_eq_false (by omega)]
/-- The numbers tell the window. -/
theorem Win.uniq {c : Int → Bool} {h h' : Int} {B B' : Nat} (w : Win c h B) (w' : Win c h' B') : h = h' ∧ B = B' := by
  rcases w with ⟨rfl, rfl, hn⟩ | ⟨h0, h1, hc, hb, hB, hk⟩
  · rcases w' with ⟨rfl, rfl, _⟩ | ⟨_, _, hc', _⟩
    · exact ⟨rfl, rfl⟩
    · rw [hn] at hc'; cases hc'
  · rcases w' with ⟨rfl, rfl, hn⟩ | ⟨h0', h1', hc', hb', hB', hk'⟩
    · rw [hn] at hc; cases hc
    · obtain rfl : h = h' := by have := hb _ hc'; have := hb' _ hc; omega
      refine ⟨rfl, Nat.eq_of_testBit_eq fun i => ?_⟩
      rcases Nat.lt_or_ge i 32 with e | e
      · rw [hk i e, hk' i e]
      · rw [testBit_big hB e, testBit_big hB' e]
theorem Win.to {c c' : Int → Bool} {h : Int} {B : Nat} (w : Win c h B) (e : ∀ n, c n = c' n) : Win c' h B := by
  have : c = c' := funext e
  subst this
  exact w
theorem Win.none : Win (fun _ => false) (-1) 0 := .inl ⟨rfl, rfl, fun _ => rfl⟩
theorem Win.high {c : Int → Bool} {h : Int} {B : Nat} (w : Win c h B) : -1 ≤ h ∧ h ≤ 1048575 := by
  rcases w with ⟨rfl, _⟩ | ⟨h0, h1, _⟩
  · decide
  · omega
theorem Win.le {c : Int → Bool} {h : Int} {B : Nat} (w : Win c h B) {n : Int} (hn : c n = true) : 0 ≤ n ∧ n ≤ h := by
  rcases w with ⟨rfl, rfl, hf⟩ | ⟨h0, h1, hc, hb, _⟩
  · rw [hf] at hn; cases hn
  · exact hb n hn
end Go.Proofs.Yticncfaokapplaa
