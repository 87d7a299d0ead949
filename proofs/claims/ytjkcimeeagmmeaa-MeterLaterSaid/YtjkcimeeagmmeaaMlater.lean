/- The walk of MeterLater: what is over once is over at each later tick, for the same limits or lesser ones. No condition. -/
import Derived.Test.YtjkcimeeagmmeaaMel
import Derived.Test.YtjkcimeeagmmeaaFplain3
namespace Go.Proofs.Ytjkcimeeagmmeaa
open Go Go.RowKit

theorem me_mask (z : Int) : (∃ q : Nat, bits .and .i64 z 1023 = (q : Int) ∧ q < 1024) ∧ (∃ q : Nat, bits .and .i64 z 4095 = (q : Int) ∧ q < 4096) ∧ ∃ q : Nat, bits .and .i64 z 65535 = (q : Int) ∧ q < 65536 := by
  have h2 := i64_mask z 10 (by omega)
  have h3 := i64_mask z 12 (by omega)
  have h6 := i64_mask z 16 (by omega)
  rw [show ((2 ^ 10 - 1 : Nat) : Int) = 1023 from by decide, show ((2 ^ 10 : Nat) : Int) = 1024 from by decide] at h2
  rw [show ((2 ^ 12 - 1 : Nat) : Int) = 4095 from by decide, show ((2 ^ 12 : Nat) : Int) = 4096 from by decide] at h3
  rw [show ((2 ^ 16 - 1 : Nat) : Int) = 65535 from by decide, show ((2 ^ 16 : Nat) : Int) = 65536 from by decide] at h6
  exact ⟨⟨(z % 1024).toNat, by rw [h2]; omega, by omega⟩, ⟨(z % 4096).toNat, by rw [h3]; omega, by omega⟩, ⟨(z % 65536).toNat, by rw [h6]; omega, by omega⟩⟩
/-- Over once, over later, and for lesser limits. -/
theorem me_later {s l c t i a d i2 a2 : Int} (h : meI s l c t i a = true) (d0 : 0 ≤ d) (td : t + d ≤ 1073741823) (h0 : 0 ≤ i2) (h1 : i2 ≤ i) (h2 : 0 ≤ a2) (h3 : a2 ≤ a) :
    meI s l c (t + d) i a = true ∧ meI s l c t i2 a2 = true ∧ (meW s l c t i a = 1 ∨ meW s l c t i a = 2) := by
  unfold meI at h
  rw [Bool.and_eq_true, Bool.or_eq_true, decide_eq_true_eq, decide_eq_true_eq] at h
  obtain ⟨ho, hor⟩ := h
  obtain ⟨hm, ht, hi, ha⟩ := meOv_iff.1 ho
  refine ⟨?_, ?_, ?_⟩
  · unfold meI
    rw [(meOv_iff (s := s) (l := l) (b := c)).2 ⟨hm, ⟨by omega, td⟩, hi, ha⟩, Bool.true_and, Bool.or_eq_true, decide_eq_true_eq, decide_eq_true_eq]
    omega
  · unfold meI
    rw [(meOv_iff (s := s) (l := l) (b := c)).2 ⟨hm, ht, ⟨h0, by omega⟩, ⟨h2, by omega⟩⟩, Bool.true_and, Bool.or_eq_true, decide_eq_true_eq, decide_eq_true_eq]
    omega
  · rw [(me_ov_yes ho).1]
    by_cases c1 : a < t - s
    · rw [if_pos c1]; exact .inr rfl
    · rw [if_neg c1, if_pos (by omega)]; exact .inl rfl
theorem me_not {s l c t i a : Int} (h : meI s l c t i a = false) : meW s l c t i a = 0 := by
  unfold meI at h
  unfold meW
  cases ho : meOv s l c t i a with
  | false => rfl
  | true =>
    rw [ho, Bool.true_and, Bool.or_eq_false_iff, decide_eq_false_iff_not, decide_eq_false_iff_not] at h
    rw [if_pos rfl, if_neg h.1, if_neg h.2]
set_option maxRecDepth 100000 in
set_option maxHeartbeats 8000000 in
theorem mlater_walk (P : MetersOk) (s l c tick more idle abs : Int) (w : World) : Calls Try.prog 6 #[.agg (meA s l c), .int .i64 tick, .int .i64 more, .int .i64 idle, .int .i64 abs] w fun e w' => e = .returned (.bool true) ∧ Below w.heap.size w w' := by
  obtain ⟨⟨i, hi, i9⟩, -, -⟩ := me_mask idle
  obtain ⟨⟨d, hd, d9⟩, -, -⟩ := me_mask more
  obtain ⟨-, ⟨a, ha, a9⟩, -⟩ := me_mask abs
  obtain ⟨-, -, ⟨t, ht, t9⟩⟩ := me_mask tick
  have km := Blk.new w (meA s l c) TMe
  have em := km.cell
  have hB := mal (Below.refl w.heap.size w) (.cells (meA s l c) TMe)
  have hi2 : (i : Int).tdiv 2 = ((i / 2 : Nat) : Int) := by rw [Int.tdiv_eq_ediv_of_nonneg (by omega)]; omega
  have ha2 : (a : Int).tdiv 2 = ((a / 2 : Nat) : Int) := by rw [Int.tdiv_eq_ediv_of_nonneg (by omega)]; omega
  have hi3 : (i : Int) / 2 = ((i / 2 : Nat) : Int) := by omega
  have ha3 : (a : Int) / 2 = ((a / 2 : Nat) : Int) := by omega
  have i2l : i / 2 ≤ i := by omega
  have a2l : a / 2 ≤ a := by omega
  generalize i / 2 = i2 at *
  generalize a / 2 = a2 at *
  obtain ⟨td, htd⟩ : ∃ td : Int, (t : Int) + (d : Int) = td := ⟨_, rfl⟩
  cases h1 : meI s l c t i a with
  | true =>
    obtain ⟨l1, l2, l3⟩ := me_later (d := (d : Int)) (i2 := (i2 : Int)) (a2 := (a2 : Int)) h1 (by omega) (by omega) (by omega) (by omega) (by omega) (by omega)
    rw [htd] at l1
    have H1 := Lib.hid (fun W => P.overs (s := s) (l := l) (b := c) (t := (t : Int)) (i := (i : Int)) (a := (a : Int)) rfl h1 W)
    have H2 := Lib.hid (fun W => P.overs (s := s) (l := l) (b := c) (t := td) (i := (i : Int)) (a := (a : Int)) rfl l1 W)
    have H3 := Lib.hid (fun W => P.overs (s := s) (l := l) (b := c) (t := (t : Int)) (i := (i2 : Int)) (a := (a2 : Int)) rfl l2 W)
    generalize meW s l c td i a = x2 at *
    generalize meW s l c t i2 a2 = x3 at *
    generalize meW s l c t i a = x1 at *
    clear h1 l1 l2
    rcases l3 with rfl | rfl
    all_goals
      go_enter Try.func6, Try.ntmps6
      go_wp2_with (first
        | (go_at_call 12; (with_reducible refine (awake19 P _).mono ?_); rintro r w0 ⟨rfl, hb⟩; replace hB := mab hB hb; replace km := km.step hb; replace em := km.cell; clear hb)
        | (go_at_call 7; first
          | ((with_reducible refine (H1.out _).mono ?_); rintro r w1 ⟨rfl, hb⟩; replace hB := mab hB hb; replace km := km.step hb; replace em := km.cell; clear hb)
          | ((with_reducible refine (H2.out _).mono ?_); rintro r w2 ⟨rfl, hb⟩; replace hB := mab hB hb; replace km := km.step hb; replace em := km.cell; clear hb)
          | ((with_reducible refine (H3.out _).mono ?_); rintro r w3 ⟨rfl, hb⟩; replace hB := mab hB hb; replace km := km.step hb; replace em := km.cell; clear hb)))
    all_goals (go_ret; exact ⟨rfl, hB⟩)
  | false =>
    have H1 := Lib.hid (fun W => P.overs (s := s) (l := l) (b := c) (t := (t : Int)) (i := (i : Int)) (a := (a : Int)) (me_not h1) h1 W)
    have H2 := Lib.hid (fun W => P.overs (s := s) (l := l) (b := c) (t := td) (i := (i : Int)) (a := (a : Int)) rfl rfl W)
    have H3 := Lib.hid (fun W => P.overs (s := s) (l := l) (b := c) (t := (t : Int)) (i := (i2 : Int)) (a := (a2 : Int)) rfl rfl W)
    generalize meW s l c td i a = x2 at *
    generalize meW s l c t i2 a2 = x3 at *
    generalize meI s l c td i a = y2 at *
    generalize meI s l c t i2 a2 = y3 at *
    clear h1
    go_enter Try.func6, Try.ntmps6
    go_wp2_with (first
      | (go_at_call 12; (with_reducible refine (awake19 P _).mono ?_); rintro r w0 ⟨rfl, hb⟩; replace hB := mab hB hb; replace km := km.step hb; replace em := km.cell; clear hb)
      | (go_at_call 7; first
        | ((with_reducible refine (H1.out _).mono ?_); rintro r w1 ⟨rfl, hb⟩; replace hB := mab hB hb; replace km := km.step hb; replace em := km.cell; clear hb)
        | ((with_reducible refine (H2.out _).mono ?_); rintro r w2 ⟨rfl, hb⟩; replace hB := mab hB hb; replace km := km.step hb; replace em := km.cell; clear hb)
        | ((with_reducible refine (H3.out _).mono ?_); rintro r w3 ⟨rfl, hb⟩; replace hB := mab hB hb; replace km := km.step hb; replace em := km.cell; clear hb)))
    all_goals (go_ret; exact ⟨rfl, hB⟩)
end Go.Proofs.Ytjkcimeeagmmeaa
