/- The reference's May, where a part stands that the kind does not name. No condition. -/
import Derived.Test.YtodngcpphnmphaaDoorRemay0
namespace Go.Proofs.YtodngcpphnmphaaDoor
open Go Go.RowKit

set_option maxHeartbeats 2000000 in
theorem remay_ne0 (k : Int) (u s a x y z t : Int) (k2 y1 y2 y3 y4 y5 y6 y7 : Int) (w : World) (HP : ∀ w, Calls Tryd.prog 23 #[.agg #[.int .i64 k, .int .i64 u, .int .i64 s, .int .i64 a, .int .i64 x, .int .i64 y, .int .i64 z, .int .i64 t]] w fun e w' => e = .returned (.tuple #[.agg #[.int .i64 k2, .int .i64 y1, .int .i64 y2, .int .i64 y3, .int .i64 y4, .int .i64 y5, .int .i64 y6, .int .i64 y7], .bool true]) ∧ Below w.heap.size w w') (hn : k2 ≠ k) :
    Calls Tryd.prog 13 #[.agg #[.int .i64 k, .int .i64 u, .int .i64 s, .int .i64 a, .int .i64 x, .int .i64 y, .int .i64 z, .int .i64 t]] w fun e w' => e = .returned (.bool false) ∧ Below w.heap.size w w' := by
  have HP := Lib.hid HP
  have g0 : (k2 == k) = false := by simpa using hn
  clear hn
  go_enter Tryd.func13, Tryd.ntmps13
  go_wp2_with (go_at_call 23; (with_reducible refine (HP.out _).mono ?_); rintro e w1 ⟨rfl, hb⟩; have kp := (Blk.new _ _ _).step hb; have e1 := kp.cell; have g1 := kp.froz; have l1 := kp.lt; have hB := ((Below.refl w.heap.size w).alloc (Nat.le_refl _) (.cells #[.int .i64 k, .int .i64 u, .int .i64 s, .int .i64 a, .int .i64 x, .int .i64 y, .int .i64 z, .int .i64 t] 23)).trans (hb.mono (by simp)); clear hb)
  go_ret
  exact ⟨rfl, by (repeat (first | exact hB | (with_reducible refine Below.setCell ?_ (by (try simp) <;> omega) _) | (with_reducible refine Below.alloc ?_ (by (try simp) <;> omega) _)))⟩

set_option maxHeartbeats 2000000 in
theorem remay_ne1 (k : Int) (u s a x y z t : Int) (k2 y1 y2 y3 y4 y5 y6 y7 : Int) (w : World) (HP : ∀ w, Calls Tryd.prog 23 #[.agg #[.int .i64 k, .int .i64 u, .int .i64 s, .int .i64 a, .int .i64 x, .int .i64 y, .int .i64 z, .int .i64 t]] w fun e w' => e = .returned (.tuple #[.agg #[.int .i64 k2, .int .i64 y1, .int .i64 y2, .int .i64 y3, .int .i64 y4, .int .i64 y5, .int .i64 y6, .int .i64 y7], .bool true]) ∧ Below w.heap.size w w') (hn : y1 ≠ u) :
    Calls Tryd.prog 13 #[.agg #[.int .i64 k, .int .i64 u, .int .i64 s, .int .i64 a, .int .i64 x, .int .i64 y, .int .i64 z, .int .i64 t]] w fun e w' => e = .returned (.bool false) ∧ Below w.heap.size w w' := by
  have HP := Lib.hid HP
  have g0 : (y1 == u) = false := by simpa using hn
  clear hn
  go_enter Tryd.func13, Tryd.ntmps13
  go_wp2_with (go_at_call 23; (with_reducible refine (HP.out _).mono ?_); rintro e w1 ⟨rfl, hb⟩; have kp := (Blk.new _ _ _).step hb; have e1 := kp.cell; have g1 := kp.froz; have l1 := kp.lt; have hB := ((Below.refl w.heap.size w).alloc (Nat.le_refl _) (.cells #[.int .i64 k, .int .i64 u, .int .i64 s, .int .i64 a, .int .i64 x, .int .i64 y, .int .i64 z, .int .i64 t] 23)).trans (hb.mono (by simp)); clear hb)
  go_ret
  exact ⟨rfl, by (repeat (first | exact hB | (with_reducible refine Below.setCell ?_ (by (try simp) <;> omega) _) | (with_reducible refine Below.alloc ?_ (by (try simp) <;> omega) _)))⟩

set_option maxHeartbeats 2000000 in
theorem remay_ne2 (k : Int) (u s a x y z t : Int) (k2 y1 y2 y3 y4 y5 y6 y7 : Int) (w : World) (HP : ∀ w, Calls Tryd.prog 23 #[.agg #[.int .i64 k, .int .i64 u, .int .i64 s, .int .i64 a, .int .i64 x, .int .i64 y, .int .i64 z, .int .i64 t]] w fun e w' => e = .returned (.tuple #[.agg #[.int .i64 k2, .int .i64 y1, .int .i64 y2, .int .i64 y3, .int .i64 y4, .int .i64 y5, .int .i64 y6, .int .i64 y7], .bool true]) ∧ Below w.heap.size w w') (hn : y2 ≠ s) :
    Calls Tryd.prog 13 #[.agg #[.int .i64 k, .int .i64 u, .int .i64 s, .int .i64 a, .int .i64 x, .int .i64 y, .int .i64 z, .int .i64 t]] w fun e w' => e = .returned (.bool false) ∧ Below w.heap.size w w' := by
  have HP := Lib.hid HP
  have g0 : (y2 == s) = false := by simpa using hn
  clear hn
  go_enter Tryd.func13, Tryd.ntmps13
  go_wp2_with (go_at_call 23; (with_reducible refine (HP.out _).mono ?_); rintro e w1 ⟨rfl, hb⟩; have kp := (Blk.new _ _ _).step hb; have e1 := kp.cell; have g1 := kp.froz; have l1 := kp.lt; have hB := ((Below.refl w.heap.size w).alloc (Nat.le_refl _) (.cells #[.int .i64 k, .int .i64 u, .int .i64 s, .int .i64 a, .int .i64 x, .int .i64 y, .int .i64 z, .int .i64 t] 23)).trans (hb.mono (by simp)); clear hb)
  go_ret
  exact ⟨rfl, by (repeat (first | exact hB | (with_reducible refine Below.setCell ?_ (by (try simp) <;> omega) _) | (with_reducible refine Below.alloc ?_ (by (try simp) <;> omega) _)))⟩

set_option maxHeartbeats 2000000 in
theorem remay_ne3 (k : Int) (u s a x y z t : Int) (k2 y1 y2 y3 y4 y5 y6 y7 : Int) (w : World) (HP : ∀ w, Calls Tryd.prog 23 #[.agg #[.int .i64 k, .int .i64 u, .int .i64 s, .int .i64 a, .int .i64 x, .int .i64 y, .int .i64 z, .int .i64 t]] w fun e w' => e = .returned (.tuple #[.agg #[.int .i64 k2, .int .i64 y1, .int .i64 y2, .int .i64 y3, .int .i64 y4, .int .i64 y5, .int .i64 y6, .int .i64 y7], .bool true]) ∧ Below w.heap.size w w') (hn : y3 ≠ a) :
    Calls Tryd.prog 13 #[.agg #[.int .i64 k, .int .i64 u, .int .i64 s, .int .i64 a, .int .i64 x, .int .i64 y, .int .i64 z, .int .i64 t]] w fun e w' => e = .returned (.bool false) ∧ Below w.heap.size w w' := by
  have HP := Lib.hid HP
  have g0 : (y3 == a) = false := by simpa using hn
  clear hn
  go_enter Tryd.func13, Tryd.ntmps13
  go_wp2_with (go_at_call 23; (with_reducible refine (HP.out _).mono ?_); rintro e w1 ⟨rfl, hb⟩; have kp := (Blk.new _ _ _).step hb; have e1 := kp.cell; have g1 := kp.froz; have l1 := kp.lt; have hB := ((Below.refl w.heap.size w).alloc (Nat.le_refl _) (.cells #[.int .i64 k, .int .i64 u, .int .i64 s, .int .i64 a, .int .i64 x, .int .i64 y, .int .i64 z, .int .i64 t] 23)).trans (hb.mono (by simp)); clear hb)
  go_ret
  exact ⟨rfl, by (repeat (first | exact hB | (with_reducible refine Below.setCell ?_ (by (try simp) <;> omega) _) | (with_reducible refine Below.alloc ?_ (by (try simp) <;> omega) _)))⟩

set_option maxHeartbeats 2000000 in
theorem remay_ne4 (k : Int) (u s a x y z t : Int) (k2 y1 y2 y3 y4 y5 y6 y7 : Int) (w : World) (HP : ∀ w, Calls Tryd.prog 23 #[.agg #[.int .i64 k, .int .i64 u, .int .i64 s, .int .i64 a, .int .i64 x, .int .i64 y, .int .i64 z, .int .i64 t]] w fun e w' => e = .returned (.tuple #[.agg #[.int .i64 k2, .int .i64 y1, .int .i64 y2, .int .i64 y3, .int .i64 y4, .int .i64 y5, .int .i64 y6, .int .i64 y7], .bool true]) ∧ Below w.heap.size w w') (hn : y4 ≠ x) :
    Calls Tryd.prog 13 #[.agg #[.int .i64 k, .int .i64 u, .int .i64 s, .int .i64 a, .int .i64 x, .int .i64 y, .int .i64 z, .int .i64 t]] w fun e w' => e = .returned (.bool false) ∧ Below w.heap.size w w' := by
  have HP := Lib.hid HP
  have g0 : (y4 == x) = false := by simpa using hn
  clear hn
  go_enter Tryd.func13, Tryd.ntmps13
  go_wp2_with (go_at_call 23; (with_reducible refine (HP.out _).mono ?_); rintro e w1 ⟨rfl, hb⟩; have kp := (Blk.new _ _ _).step hb; have e1 := kp.cell; have g1 := kp.froz; have l1 := kp.lt; have hB := ((Below.refl w.heap.size w).alloc (Nat.le_refl _) (.cells #[.int .i64 k, .int .i64 u, .int .i64 s, .int .i64 a, .int .i64 x, .int .i64 y, .int .i64 z, .int .i64 t] 23)).trans (hb.mono (by simp)); clear hb)
  go_ret
  exact ⟨rfl, by (repeat (first | exact hB | (with_reducible refine Below.setCell ?_ (by (try simp) <;> omega) _) | (with_reducible refine Below.alloc ?_ (by (try simp) <;> omega) _)))⟩

set_option maxHeartbeats 2000000 in
theorem remay_ne5 (k : Int) (u s a x y z t : Int) (k2 y1 y2 y3 y4 y5 y6 y7 : Int) (w : World) (HP : ∀ w, Calls Tryd.prog 23 #[.agg #[.int .i64 k, .int .i64 u, .int .i64 s, .int .i64 a, .int .i64 x, .int .i64 y, .int .i64 z, .int .i64 t]] w fun e w' => e = .returned (.tuple #[.agg #[.int .i64 k2, .int .i64 y1, .int .i64 y2, .int .i64 y3, .int .i64 y4, .int .i64 y5, .int .i64 y6, .int .i64 y7], .bool true]) ∧ Below w.heap.size w w') (hn : y5 ≠ y) :
    Calls Tryd.prog 13 #[.agg #[.int .i64 k, .int .i64 u, .int .i64 s, .int .i64 a, .int .i64 x, .int .i64 y, .int .i64 z, .int .i64 t]] w fun e w' => e = .returned (.bool false) ∧ Below w.heap.size w w' := by
  have HP := Lib.hid HP
  have g0 : (y5 == y) = false := by simpa using hn
  clear hn
  go_enter Tryd.func13, Tryd.ntmps13
  go_wp2_with (go_at_call 23; (with_reducible refine (HP.out _).mono ?_); rintro e w1 ⟨rfl, hb⟩; have kp := (Blk.new _ _ _).step hb; have e1 := kp.cell; have g1 := kp.froz; have l1 := kp.lt; have hB := ((Below.refl w.heap.size w).alloc (Nat.le_refl _) (.cells #[.int .i64 k, .int .i64 u, .int .i64 s, .int .i64 a, .int .i64 x, .int .i64 y, .int .i64 z, .int .i64 t] 23)).trans (hb.mono (by simp)); clear hb)
  go_ret
  exact ⟨rfl, by (repeat (first | exact hB | (with_reducible refine Below.setCell ?_ (by (try simp) <;> omega) _) | (with_reducible refine Below.alloc ?_ (by (try simp) <;> omega) _)))⟩

set_option maxHeartbeats 2000000 in
theorem remay_ne6 (k : Int) (u s a x y z t : Int) (k2 y1 y2 y3 y4 y5 y6 y7 : Int) (w : World) (HP : ∀ w, Calls Tryd.prog 23 #[.agg #[.int .i64 k, .int .i64 u, .int .i64 s, .int .i64 a, .int .i64 x, .int .i64 y, .int .i64 z, .int .i64 t]] w fun e w' => e = .returned (.tuple #[.agg #[.int .i64 k2, .int .i64 y1, .int .i64 y2, .int .i64 y3, .int .i64 y4, .int .i64 y5, .int .i64 y6, .int .i64 y7], .bool true]) ∧ Below w.heap.size w w') (hn : y6 ≠ z) :
    Calls Tryd.prog 13 #[.agg #[.int .i64 k, .int .i64 u, .int .i64 s, .int .i64 a, .int .i64 x, .int .i64 y, .int .i64 z, .int .i64 t]] w fun e w' => e = .returned (.bool false) ∧ Below w.heap.size w w' := by
  have HP := Lib.hid HP
  have g0 : (y6 == z) = false := by simpa using hn
  clear hn
  go_enter Tryd.func13, Tryd.ntmps13
  go_wp2_with (go_at_call 23; (with_reducible refine (HP.out _).mono ?_); rintro e w1 ⟨rfl, hb⟩; have kp := (Blk.new _ _ _).step hb; have e1 := kp.cell; have g1 := kp.froz; have l1 := kp.lt; have hB := ((Below.refl w.heap.size w).alloc (Nat.le_refl _) (.cells #[.int .i64 k, .int .i64 u, .int .i64 s, .int .i64 a, .int .i64 x, .int .i64 y, .int .i64 z, .int .i64 t] 23)).trans (hb.mono (by simp)); clear hb)
  go_ret
  exact ⟨rfl, by (repeat (first | exact hB | (with_reducible refine Below.setCell ?_ (by (try simp) <;> omega) _) | (with_reducible refine Below.alloc ?_ (by (try simp) <;> omega) _)))⟩

set_option maxHeartbeats 2000000 in
theorem remay_ne7 (k : Int) (u s a x y z t : Int) (k2 y1 y2 y3 y4 y5 y6 y7 : Int) (w : World) (HP : ∀ w, Calls Tryd.prog 23 #[.agg #[.int .i64 k, .int .i64 u, .int .i64 s, .int .i64 a, .int .i64 x, .int .i64 y, .int .i64 z, .int .i64 t]] w fun e w' => e = .returned (.tuple #[.agg #[.int .i64 k2, .int .i64 y1, .int .i64 y2, .int .i64 y3, .int .i64 y4, .int .i64 y5, .int .i64 y6, .int .i64 y7], .bool true]) ∧ Below w.heap.size w w') (hn : y7 ≠ t) :
    Calls Tryd.prog 13 #[.agg #[.int .i64 k, .int .i64 u, .int .i64 s, .int .i64 a, .int .i64 x, .int .i64 y, .int .i64 z, .int .i64 t]] w fun e w' => e = .returned (.bool false) ∧ Below w.heap.size w w' := by
  have HP := Lib.hid HP
  have g0 : (y7 == t) = false := by simpa using hn
  clear hn
  go_enter Tryd.func13, Tryd.ntmps13
  go_wp2_with (go_at_call 23; (with_reducible refine (HP.out _).mono ?_); rintro e w1 ⟨rfl, hb⟩; have kp := (Blk.new _ _ _).step hb; have e1 := kp.cell; have g1 := kp.froz; have l1 := kp.lt; have hB := ((Below.refl w.heap.size w).alloc (Nat.le_refl _) (.cells #[.int .i64 k, .int .i64 u, .int .i64 s, .int .i64 a, .int .i64 x, .int .i64 y, .int .i64 z, .int .i64 t] 23)).trans (hb.mono (by simp)); clear hb)
  go_ret
  exact ⟨rfl, by (repeat (first | exact hB | (with_reducible refine Below.setCell ?_ (by (try simp) <;> omega) _) | (with_reducible refine Below.alloc ?_ (by (try simp) <;> omega) _)))⟩

theorem remay_ne (k : Int) (u s a x y z t : Int) (k2 y1 y2 y3 y4 y5 y6 y7 : Int) (w : World) (HP : ∀ w, Calls Tryd.prog 23 #[.agg #[.int .i64 k, .int .i64 u, .int .i64 s, .int .i64 a, .int .i64 x, .int .i64 y, .int .i64 z, .int .i64 t]] w fun e w' => e = .returned (.tuple #[.agg #[.int .i64 k2, .int .i64 y1, .int .i64 y2, .int .i64 y3, .int .i64 y4, .int .i64 y5, .int .i64 y6, .int .i64 y7], .bool true]) ∧ Below w.heap.size w w') (hn : k2 = k → y1 = u → y2 = s → y3 = a → y4 = x → y5 = y → y6 = z → y7 = t → False) :
    Calls Tryd.prog 13 #[.agg #[.int .i64 k, .int .i64 u, .int .i64 s, .int .i64 a, .int .i64 x, .int .i64 y, .int .i64 z, .int .i64 t]] w fun e w' => e = .returned (.bool false) ∧ Below w.heap.size w w' := by
  by_cases e0 : k2 = k
  case neg => exact remay_ne0 k u s a x y z t k2 y1 y2 y3 y4 y5 y6 y7 w HP e0
  by_cases e1 : y1 = u
  case neg => exact remay_ne1 k u s a x y z t k2 y1 y2 y3 y4 y5 y6 y7 w HP e1
  by_cases e2 : y2 = s
  case neg => exact remay_ne2 k u s a x y z t k2 y1 y2 y3 y4 y5 y6 y7 w HP e2
  by_cases e3 : y3 = a
  case neg => exact remay_ne3 k u s a x y z t k2 y1 y2 y3 y4 y5 y6 y7 w HP e3
  by_cases e4 : y4 = x
  case neg => exact remay_ne4 k u s a x y z t k2 y1 y2 y3 y4 y5 y6 y7 w HP e4
  by_cases e5 : y5 = y
  case neg => exact remay_ne5 k u s a x y z t k2 y1 y2 y3 y4 y5 y6 y7 w HP e5
  by_cases e6 : y6 = z
  case neg => exact remay_ne6 k u s a x y z t k2 y1 y2 y3 y4 y5 y6 y7 w HP e6
  by_cases e7 : y7 = t
  case neg => exact remay_ne7 k u s a x y z t k2 y1 y2 y3 y4 y5 y6 y7 w HP e7
  exact (hn e0 e1 e2 e3 e4 e5 e6 e7).elim
end Go.Proofs.YtodngcpphnmphaaDoor
