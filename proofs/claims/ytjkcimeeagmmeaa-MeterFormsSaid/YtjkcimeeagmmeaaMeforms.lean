/- The walk of MeterForms: meters and numbers that are none. No condition. -/
import Derived.Test.YtjkcimeeagmmeaaMel
import Derived.Test.YtjkcimeeagmmeaaFplain3
namespace Go.Proofs.Ytjkcimeeagmmeaa
open Go Go.RowKit

theorem meOk_no {s l b t y u q : Int} (h : ¬ (((0 ≤ s ∧ s ≤ 1073741823) ∧ (0 ≤ l ∧ l ≤ 1073741823) ∧ (0 ≤ b ∧ b ≤ 1073741823) ∧ s ≤ l) ∧ (0 ≤ t ∧ t ≤ 1073741823) ∧ (0 ≤ y ∧ y ≤ 1073741823) ∧ (0 ≤ u ∧ u ≤ 1073741823) ∧ (0 ≤ q ∧ q ≤ 1073741823) ∧ l ≤ t ∧ y ≤ 64)) : meOk s l b t y u q = false := by
  rw [Bool.eq_false_iff, ne_eq, meOk_iff, meMay_iff]
  exact h
theorem meOv_no {s l b t i a : Int} (h : ¬ (((0 ≤ s ∧ s ≤ 1073741823) ∧ (0 ≤ l ∧ l ≤ 1073741823) ∧ (0 ≤ b ∧ b ≤ 1073741823) ∧ s ≤ l) ∧ (0 ≤ t ∧ t ≤ 1073741823) ∧ (0 ≤ i ∧ i ≤ 1073741823) ∧ (0 ≤ a ∧ a ≤ 1073741823))) : meOv s l b t i a = false := by
  rw [Bool.eq_false_iff, ne_eq, meOv_iff, meMay_iff]
  exact h
theorem MetersOk.refuse (P : MetersOk) {s l b t y u q : Int} (h : meOk s l b t y u q = false) (w : World) : Calls Try.prog 9 #[.agg (meA s l b), .int .i64 t, .int .i64 y, .int .i64 u, .int .i64 q] w fun r w' => r = .returned (.tuple #[.agg #[.int .i64 0, .int .i64 0, .int .i64 0], .bool false, .int .i64 1900]) ∧ Below w.heap.size w w' := by
  obtain ⟨e1, e2, e3, e4, e5⟩ := me_no h
  exact P.delivers e3 e4 e5 e2 e1 w
theorem me_set {w0 w2 w3 : World} {b off : Nat} {v : Value} (hB : Below w0.heap.size w0 w2) (h0 : w0.heap.size ≤ b) (hb : Below (w2.setCell ⟨b, off, none⟩ v).heap.size (w2.setCell ⟨b, off, none⟩ v) w3) : Below w0.heap.size w0 w3 :=
  (hB.setCell h0 _).trans (hb.mono (by simp; exact hB.size))
set_option maxRecDepth 100000 in
set_option maxHeartbeats 32000000 in
theorem meforms_walk' (P : MetersOk) (n x : Int) (j m : Nat) (w : World) (hj : (IntKind.u64.wrap n).tmod 14 = (j : Int)) (hjl : j < 14) (hm : bits .and .i64 x 1023 = (m : Int)) (m1 : m ≤ 1023) (r : Nat) (hr : bits .and .i64 (1 + (m : Int)) 7 = (r : Int)) (r7 : r < 8) :
    Calls Try.prog 5 #[.int .i64 n, .int .i64 x] w fun e w' => e = .returned (.bool true) ∧ Below w.heap.size w w' := by
  have H1 := Lib.hid (fun W => P.delivers (s := 10) (l := 20) (b := 5) (t := 30) (y := 4) (u := 5) (q := 100) (x1 := 10) (x2 := 30) (x3 := 9) (ok := true) (e := 0) (by decide) (by decide) (by decide) (by decide) (by decide) W)
  have H3 := Lib.hid (fun W => P.delivers (s := 0) (l := 0) (b := 1073741823) (t := 0) (y := 1) (u := 0) (q := 9) (x1 := 0) (x2 := 0) (x3 := 0) (ok := false) (e := 0) (by decide) (by decide) (by decide) (by decide) (by decide) W)
  have H4 := Lib.hid (fun W => P.delivers (s := 0) (l := 0) (b := 1073741823) (t := 0) (y := 0) (u := 0) (q := 9) (x1 := 0) (x2 := 0) (x3 := 1073741823) (ok := true) (e := 0) (by decide) (by decide) (by decide) (by decide) (by decide) W)
  have H5 := Lib.hid (fun W => P.overs (s := 5) (l := 4) (b := 0) (t := 1073741823) (i := 0) (a := 0) (x := 0) (ok := false) (by decide) (by decide) W)
  have hn := me_ov_no (meOv_no (s := 0) (l := 0) (b := 0) (t := 1073741823) (i := -(1 + (m : Int))) (a := 0) (by omega))
  have H6 := Lib.hid (fun W => P.overs (s := 0) (l := 0) (b := 0) (t := 1073741823) (i := -(1 + (m : Int))) (a := 0) hn.1 hn.2 W)
  clear hn
  have hB := Below.refl w.heap.size w
  rcases (show j = 0 ∨ j = 1 ∨ j = 2 ∨ j = 3 ∨ j = 4 ∨ j = 5 ∨ j = 6 ∨ j = 7 ∨ j = 8 ∨ j = 9 ∨ j = 10 ∨ j = 11 ∨ j = 12 ∨ j = 13 by omega) with h | h | h | h | h | h | h | h | h | h | h | h | h | h
  all_goals subst h
  all_goals clear hjl
  all_goals
    go_enter Try.func5, Try.ntmps5
    go_wp2_with (first
      | (go_at_call 12; (with_reducible refine (awake19 P _).mono ?_); rintro e w1 ⟨rfl, hb⟩; have km := Blk.new w1 (meA 10 20 5) TMe; have em := km.cell; have hs1 := hb.size; replace hB := mal hb (.cells (meA 10 20 5) TMe); clear hb)
      | (go_at_call 9; first
        | ((with_reducible refine (H1.out _).mono ?_); rintro e w2 ⟨rfl, hb⟩; replace km := (km.step hb).alloc (.cells (meA 10 30 9) TMe); replace hB := mal (mab hB hb) (.cells (meA 10 30 9) TMe); clear hb; replace em := km.cell; have gm := km.froz; have lm := km.lt)
        | ((with_reducible refine (H3.out _).mono ?_); rintro e w4 ⟨rfl, hb⟩; replace ky := (ky.step hb).alloc (.cells (meA 0 0 0) TMe); have kf := Blk.new w4 (meA 0 0 0) TMe; replace hB := mal (mab hB hb) (.cells (meA 0 0 0) TMe); replace ey := ky.cell; have ef := kf.cell; clear hb)
        | ((with_reducible refine (H4.out _).mono ?_); rintro e w5 ⟨rfl, hb⟩; replace ky := (ky.step hb).alloc (.cells (meA 0 0 1073741823) TMe); replace kf := (kf.step hb).alloc (.cells (meA 0 0 1073741823) TMe); have kg := Blk.new w5 (meA 0 0 1073741823) TMe; replace hB := mal (mab hB hb) (.cells (meA 0 0 1073741823) TMe); replace ey := ky.cell; replace ef := kf.cell; have eg := kg.cell; clear hb)
        | ((with_reducible refine (P.refuse (meOk_no (by omega)) _).mono ?_); rintro e w3 ⟨rfl, hb⟩; (first | (have q := mab hB hb) | (have q := me_set hB hs1 hb)); have ky := Blk.new w3 (meA 0 0 0) TMe; replace hB := mal q (.cells (meA 0 0 0) TMe); clear hb km em q; have ey := ky.cell))
      | (go_at_call 7; first
        | ((with_reducible refine (H5.out _).mono ?_); rintro e w6 ⟨rfl, hb⟩; replace ky := ky.step hb; replace kf := kf.step hb; replace kg := kg.step hb; replace hB := mab hB hb; replace ey := ky.cell; replace ef := kf.cell; replace eg := kg.cell; clear hb)
        | ((with_reducible refine (H6.out _).mono ?_); rintro e w7 ⟨rfl, hb⟩; replace ky := ky.step hb; replace kf := kf.step hb; replace kg := kg.step hb; replace hB := mab hB hb; replace ey := ky.cell; replace ef := kf.cell; replace eg := kg.cell; clear hb))
      | (go_at_call 11; (with_reducible refine (lnum _ _).mono ?_); rintro e wn ⟨rfl, rfl⟩))
  all_goals (go_ret; exact ⟨rfl, hB⟩)
theorem meforms_walk (P : MetersOk) (n x : Int) (w : World) :
    Calls Try.prog 5 #[.int .i64 n, .int .i64 x] w fun e w' => e = .returned (.bool true) ∧ Below w.heap.size w w' := by
  have hu0 : 0 ≤ IntKind.u64.wrap n := by rw [IntKind.wrap_u64]; omega
  have hm := i64_mask x 10 (by omega)
  rw [show ((2 ^ 10 - 1 : Nat) : Int) = 1023 from by decide, show ((2 ^ 10 : Nat) : Int) = 1024 from by decide] at hm
  obtain ⟨j, hj, h9⟩ : ∃ j : Nat, (IntKind.u64.wrap n).tmod 14 = (j : Int) ∧ j < 14 := ⟨((IntKind.u64.wrap n) % 14).toNat, by rw [Int.tmod_eq_emod_of_nonneg hu0]; omega, by omega⟩
  obtain ⟨m, hm2, m9⟩ : ∃ m : Nat, bits .and .i64 x 1023 = (m : Int) ∧ m ≤ 1023 := ⟨(x % 1024).toNat, by rw [hm]; omega, by omega⟩
  have hr := i64_mask (1 + (m : Int)) 3 (by omega)
  rw [show ((2 ^ 3 - 1 : Nat) : Int) = 7 from by decide, show ((2 ^ 3 : Nat) : Int) = 8 from by decide] at hr
  exact meforms_walk' P n x j m w hj h9 hm2 m9 ((1 + (m : Int)) % 8).toNat (by rw [hr]; omega) (by omega)
end Go.Proofs.Ytjkcimeeagmmeaa
