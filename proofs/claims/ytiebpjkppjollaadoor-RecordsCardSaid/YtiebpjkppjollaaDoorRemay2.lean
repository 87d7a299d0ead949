/- The reference's May, where a number is out of its range. No condition. -/
import Derived.Test.YtiebpjkppjollaaDoorBra
namespace Go.Proofs.YtiebpjkppjollaaDoor
open Go Go.RowKit

set_option maxHeartbeats 2000000 in
theorem remay_bad0 (k : Int) (u s a x y z t : Int) (w : World) (HP : ∀ w, Calls Tryd.prog 75 #[.agg #[.int .i64 k, .int .i64 u, .int .i64 s, .int .i64 a, .int .i64 x, .int .i64 y, .int .i64 z, .int .i64 t]] w fun e w' => e = .returned (.tuple #[.agg #[.int .i64 k, .int .i64 u, .int .i64 s, .int .i64 a, .int .i64 x, .int .i64 y, .int .i64 z, .int .i64 t], .bool true]) ∧ Below w.heap.size w w')  (l_user : u < 0) :
    Calls Tryd.prog 58 #[.agg #[.int .i64 k, .int .i64 u, .int .i64 s, .int .i64 a, .int .i64 x, .int .i64 y, .int .i64 z, .int .i64 t]] w fun e w' => e = .returned (.bool false) ∧ Below w.heap.size w w' := by
  have HP := Lib.hid HP
  have dl_user : decide (u < 0) = true := by simp; omega
  go_enter Tryd.func58, Tryd.ntmps58
  go_wp2_with (first | (go_at_call 75; (with_reducible refine (HP.out _).mono ?_); rintro e w1 ⟨rfl, hb⟩; have kp := (Blk.new _ _ _).step hb; have e1 := kp.cell; have g1 := kp.froz; have l1 := kp.lt; have hB := ((Below.refl w.heap.size w).alloc (Nat.le_refl _) (.cells #[.int .i64 k, .int .i64 u, .int .i64 s, .int .i64 a, .int .i64 x, .int .i64 y, .int .i64 z, .int .i64 t] 32)).trans (hb.mono (by simp)); clear hb))
  go_ret
  exact ⟨rfl, by (repeat (first | exact hB | (with_reducible refine Below.setCell ?_ (by (try simp) <;> omega) _) | (with_reducible refine Below.alloc ?_ (by (try simp) <;> omega) _)))⟩

set_option maxHeartbeats 2000000 in
theorem remay_bad1 (k : Int) (u s a x y z t : Int) (w : World) (HP : ∀ w, Calls Tryd.prog 75 #[.agg #[.int .i64 k, .int .i64 u, .int .i64 s, .int .i64 a, .int .i64 x, .int .i64 y, .int .i64 z, .int .i64 t]] w fun e w' => e = .returned (.tuple #[.agg #[.int .i64 k, .int .i64 u, .int .i64 s, .int .i64 a, .int .i64 x, .int .i64 y, .int .i64 z, .int .i64 t], .bool true]) ∧ Below w.heap.size w w') (l_user : 0 ≤ u) (u_user : 7 < u) :
    Calls Tryd.prog 58 #[.agg #[.int .i64 k, .int .i64 u, .int .i64 s, .int .i64 a, .int .i64 x, .int .i64 y, .int .i64 z, .int .i64 t]] w fun e w' => e = .returned (.bool false) ∧ Below w.heap.size w w' := by
  have HP := Lib.hid HP
  have dl_user : decide (u < 0) = false := by simp; omega
  have du_user : decide ((8 : Int) ≤ u) = true := by simp; omega
  go_enter Tryd.func58, Tryd.ntmps58
  go_wp2_with (first | (go_at_call 75; (with_reducible refine (HP.out _).mono ?_); rintro e w1 ⟨rfl, hb⟩; have kp := (Blk.new _ _ _).step hb; have e1 := kp.cell; have g1 := kp.froz; have l1 := kp.lt; have hB := ((Below.refl w.heap.size w).alloc (Nat.le_refl _) (.cells #[.int .i64 k, .int .i64 u, .int .i64 s, .int .i64 a, .int .i64 x, .int .i64 y, .int .i64 z, .int .i64 t] 32)).trans (hb.mono (by simp)); clear hb))
  go_ret
  exact ⟨rfl, by (repeat (first | exact hB | (with_reducible refine Below.setCell ?_ (by (try simp) <;> omega) _) | (with_reducible refine Below.alloc ?_ (by (try simp) <;> omega) _)))⟩

set_option maxHeartbeats 2000000 in
theorem remay_bad2 (k : Int) (u s a x y z t : Int) (w : World) (HP : ∀ w, Calls Tryd.prog 75 #[.agg #[.int .i64 k, .int .i64 u, .int .i64 s, .int .i64 a, .int .i64 x, .int .i64 y, .int .i64 z, .int .i64 t]] w fun e w' => e = .returned (.tuple #[.agg #[.int .i64 k, .int .i64 u, .int .i64 s, .int .i64 a, .int .i64 x, .int .i64 y, .int .i64 z, .int .i64 t], .bool true]) ∧ Below w.heap.size w w') (l_user : 0 ≤ u) (u_user : u ≤ 7) (l_address : a < 0) :
    Calls Tryd.prog 58 #[.agg #[.int .i64 k, .int .i64 u, .int .i64 s, .int .i64 a, .int .i64 x, .int .i64 y, .int .i64 z, .int .i64 t]] w fun e w' => e = .returned (.bool false) ∧ Below w.heap.size w w' := by
  have HP := Lib.hid HP
  have dl_user : decide (u < 0) = false := by simp; omega
  have du_user : decide ((8 : Int) ≤ u) = false := by simp; omega
  have dl_address : decide (a < 0) = true := by simp; omega
  go_enter Tryd.func58, Tryd.ntmps58
  go_wp2_with (first | (go_at_call 75; (with_reducible refine (HP.out _).mono ?_); rintro e w1 ⟨rfl, hb⟩; have kp := (Blk.new _ _ _).step hb; have e1 := kp.cell; have g1 := kp.froz; have l1 := kp.lt; have hB := ((Below.refl w.heap.size w).alloc (Nat.le_refl _) (.cells #[.int .i64 k, .int .i64 u, .int .i64 s, .int .i64 a, .int .i64 x, .int .i64 y, .int .i64 z, .int .i64 t] 32)).trans (hb.mono (by simp)); clear hb))
  go_ret
  exact ⟨rfl, by (repeat (first | exact hB | (with_reducible refine Below.setCell ?_ (by (try simp) <;> omega) _) | (with_reducible refine Below.alloc ?_ (by (try simp) <;> omega) _)))⟩

set_option maxHeartbeats 2000000 in
theorem remay_bad3 (k : Int) (u s a x y z t : Int) (w : World) (HP : ∀ w, Calls Tryd.prog 75 #[.agg #[.int .i64 k, .int .i64 u, .int .i64 s, .int .i64 a, .int .i64 x, .int .i64 y, .int .i64 z, .int .i64 t]] w fun e w' => e = .returned (.tuple #[.agg #[.int .i64 k, .int .i64 u, .int .i64 s, .int .i64 a, .int .i64 x, .int .i64 y, .int .i64 z, .int .i64 t], .bool true]) ∧ Below w.heap.size w w') (l_user : 0 ≤ u) (u_user : u ≤ 7) (l_address : 0 ≤ a) (u_address : 15 < a) :
    Calls Tryd.prog 58 #[.agg #[.int .i64 k, .int .i64 u, .int .i64 s, .int .i64 a, .int .i64 x, .int .i64 y, .int .i64 z, .int .i64 t]] w fun e w' => e = .returned (.bool false) ∧ Below w.heap.size w w' := by
  have HP := Lib.hid HP
  have dl_user : decide (u < 0) = false := by simp; omega
  have du_user : decide ((8 : Int) ≤ u) = false := by simp; omega
  have dl_address : decide (a < 0) = false := by simp; omega
  have du_address : decide ((16 : Int) ≤ a) = true := by simp; omega
  go_enter Tryd.func58, Tryd.ntmps58
  go_wp2_with (first | (go_at_call 75; (with_reducible refine (HP.out _).mono ?_); rintro e w1 ⟨rfl, hb⟩; have kp := (Blk.new _ _ _).step hb; have e1 := kp.cell; have g1 := kp.froz; have l1 := kp.lt; have hB := ((Below.refl w.heap.size w).alloc (Nat.le_refl _) (.cells #[.int .i64 k, .int .i64 u, .int .i64 s, .int .i64 a, .int .i64 x, .int .i64 y, .int .i64 z, .int .i64 t] 32)).trans (hb.mono (by simp)); clear hb))
  go_ret
  exact ⟨rfl, by (repeat (first | exact hB | (with_reducible refine Below.setCell ?_ (by (try simp) <;> omega) _) | (with_reducible refine Below.alloc ?_ (by (try simp) <;> omega) _)))⟩

set_option maxHeartbeats 2000000 in
theorem remay_bad4 (k : Int) (u s a x y z t : Int) (w : World) (HP : ∀ w, Calls Tryd.prog 75 #[.agg #[.int .i64 k, .int .i64 u, .int .i64 s, .int .i64 a, .int .i64 x, .int .i64 y, .int .i64 z, .int .i64 t]] w fun e w' => e = .returned (.tuple #[.agg #[.int .i64 k, .int .i64 u, .int .i64 s, .int .i64 a, .int .i64 x, .int .i64 y, .int .i64 z, .int .i64 t], .bool true]) ∧ Below w.heap.size w w') (l_user : 0 ≤ u) (u_user : u ≤ 7) (l_address : 0 ≤ a) (u_address : a ≤ 15) (l_tick : t < 0) :
    Calls Tryd.prog 58 #[.agg #[.int .i64 k, .int .i64 u, .int .i64 s, .int .i64 a, .int .i64 x, .int .i64 y, .int .i64 z, .int .i64 t]] w fun e w' => e = .returned (.bool false) ∧ Below w.heap.size w w' := by
  have HP := Lib.hid HP
  have dl_user : decide (u < 0) = false := by simp; omega
  have du_user : decide ((8 : Int) ≤ u) = false := by simp; omega
  have dl_address : decide (a < 0) = false := by simp; omega
  have du_address : decide ((16 : Int) ≤ a) = false := by simp; omega
  have dl_tick : decide (t < 0) = true := by simp; omega
  go_enter Tryd.func58, Tryd.ntmps58
  go_wp2_with (first | (go_at_call 75; (with_reducible refine (HP.out _).mono ?_); rintro e w1 ⟨rfl, hb⟩; have kp := (Blk.new _ _ _).step hb; have e1 := kp.cell; have g1 := kp.froz; have l1 := kp.lt; have hB := ((Below.refl w.heap.size w).alloc (Nat.le_refl _) (.cells #[.int .i64 k, .int .i64 u, .int .i64 s, .int .i64 a, .int .i64 x, .int .i64 y, .int .i64 z, .int .i64 t] 32)).trans (hb.mono (by simp)); clear hb))
  go_ret
  exact ⟨rfl, by (repeat (first | exact hB | (with_reducible refine Below.setCell ?_ (by (try simp) <;> omega) _) | (with_reducible refine Below.alloc ?_ (by (try simp) <;> omega) _)))⟩

set_option maxHeartbeats 2000000 in
theorem remay_bad5 (k : Int) (u s a x y z t : Int) (w : World) (HP : ∀ w, Calls Tryd.prog 75 #[.agg #[.int .i64 k, .int .i64 u, .int .i64 s, .int .i64 a, .int .i64 x, .int .i64 y, .int .i64 z, .int .i64 t]] w fun e w' => e = .returned (.tuple #[.agg #[.int .i64 k, .int .i64 u, .int .i64 s, .int .i64 a, .int .i64 x, .int .i64 y, .int .i64 z, .int .i64 t], .bool true]) ∧ Below w.heap.size w w') (l_user : 0 ≤ u) (u_user : u ≤ 7) (l_address : 0 ≤ a) (u_address : a ≤ 15) (l_tick : 0 ≤ t) (u_tick : 1048575 < t) :
    Calls Tryd.prog 58 #[.agg #[.int .i64 k, .int .i64 u, .int .i64 s, .int .i64 a, .int .i64 x, .int .i64 y, .int .i64 z, .int .i64 t]] w fun e w' => e = .returned (.bool false) ∧ Below w.heap.size w w' := by
  have HP := Lib.hid HP
  have dl_user : decide (u < 0) = false := by simp; omega
  have du_user : decide ((8 : Int) ≤ u) = false := by simp; omega
  have dl_address : decide (a < 0) = false := by simp; omega
  have du_address : decide ((16 : Int) ≤ a) = false := by simp; omega
  have dl_tick : decide (t < 0) = false := by simp; omega
  have du_tick : decide ((1048575 : Int) < t) = true := by simp; omega
  go_enter Tryd.func58, Tryd.ntmps58
  go_wp2_with (first | (go_at_call 75; (with_reducible refine (HP.out _).mono ?_); rintro e w1 ⟨rfl, hb⟩; have kp := (Blk.new _ _ _).step hb; have e1 := kp.cell; have g1 := kp.froz; have l1 := kp.lt; have hB := ((Below.refl w.heap.size w).alloc (Nat.le_refl _) (.cells #[.int .i64 k, .int .i64 u, .int .i64 s, .int .i64 a, .int .i64 x, .int .i64 y, .int .i64 z, .int .i64 t] 32)).trans (hb.mono (by simp)); clear hb))
  go_ret
  exact ⟨rfl, by (repeat (first | exact hB | (with_reducible refine Below.setCell ?_ (by (try simp) <;> omega) _) | (with_reducible refine Below.alloc ?_ (by (try simp) <;> omega) _)))⟩

set_option maxHeartbeats 2000000 in
theorem remay_bad6 (k : Int) (u s a x y z t : Int) (w : World) (HP : ∀ w, Calls Tryd.prog 75 #[.agg #[.int .i64 k, .int .i64 u, .int .i64 s, .int .i64 a, .int .i64 x, .int .i64 y, .int .i64 z, .int .i64 t]] w fun e w' => e = .returned (.tuple #[.agg #[.int .i64 k, .int .i64 u, .int .i64 s, .int .i64 a, .int .i64 x, .int .i64 y, .int .i64 z, .int .i64 t], .bool true]) ∧ Below w.heap.size w w') (l_user : 0 ≤ u) (u_user : u ≤ 7) (l_address : 0 ≤ a) (u_address : a ≤ 15) (l_tick : 0 ≤ t) (u_tick : t ≤ 1048575) (n_session : okNum s = false) :
    Calls Tryd.prog 58 #[.agg #[.int .i64 k, .int .i64 u, .int .i64 s, .int .i64 a, .int .i64 x, .int .i64 y, .int .i64 z, .int .i64 t]] w fun e w' => e = .returned (.bool false) ∧ Below w.heap.size w w' := by
  have HP := Lib.hid HP
  have dl_user : decide (u < 0) = false := by simp; omega
  have du_user : decide ((8 : Int) ≤ u) = false := by simp; omega
  have dl_address : decide (a < 0) = false := by simp; omega
  have du_address : decide ((16 : Int) ≤ a) = false := by simp; omega
  have dl_tick : decide (t < 0) = false := by simp; omega
  have du_tick : decide ((1048575 : Int) < t) = false := by simp; omega
  have N_session := Lib.hid (rnumb s false n_session)
  clear n_session
  go_enter Tryd.func58, Tryd.ntmps58
  go_wp2_with (first | (go_at_call 75; (with_reducible refine (HP.out _).mono ?_); rintro e w1 ⟨rfl, hb⟩; have kp := (Blk.new _ _ _).step hb; have e1 := kp.cell; have g1 := kp.froz; have l1 := kp.lt; have hB := ((Below.refl w.heap.size w).alloc (Nat.le_refl _) (.cells #[.int .i64 k, .int .i64 u, .int .i64 s, .int .i64 a, .int .i64 x, .int .i64 y, .int .i64 z, .int .i64 t] 32)).trans (hb.mono (by simp)); clear hb) | (go_at_call 37; ((with_reducible refine (N_session.out _).mono ?_); rintro e w1 ⟨rfl, rfl⟩)))
  go_ret
  exact ⟨rfl, by (repeat (first | exact hB | (with_reducible refine Below.setCell ?_ (by (try simp) <;> omega) _) | (with_reducible refine Below.alloc ?_ (by (try simp) <;> omega) _)))⟩

set_option maxHeartbeats 2000000 in
theorem remay_bad7 (k : Int) (u s a x y z t : Int) (w : World) (HP : ∀ w, Calls Tryd.prog 75 #[.agg #[.int .i64 k, .int .i64 u, .int .i64 s, .int .i64 a, .int .i64 x, .int .i64 y, .int .i64 z, .int .i64 t]] w fun e w' => e = .returned (.tuple #[.agg #[.int .i64 k, .int .i64 u, .int .i64 s, .int .i64 a, .int .i64 x, .int .i64 y, .int .i64 z, .int .i64 t], .bool true]) ∧ Below w.heap.size w w') (l_user : 0 ≤ u) (u_user : u ≤ 7) (l_address : 0 ≤ a) (u_address : a ≤ 15) (l_tick : 0 ≤ t) (u_tick : t ≤ 1048575) (n_session : okNum s = true) (n_a : okNum x = false) :
    Calls Tryd.prog 58 #[.agg #[.int .i64 k, .int .i64 u, .int .i64 s, .int .i64 a, .int .i64 x, .int .i64 y, .int .i64 z, .int .i64 t]] w fun e w' => e = .returned (.bool false) ∧ Below w.heap.size w w' := by
  have HP := Lib.hid HP
  have dl_user : decide (u < 0) = false := by simp; omega
  have du_user : decide ((8 : Int) ≤ u) = false := by simp; omega
  have dl_address : decide (a < 0) = false := by simp; omega
  have du_address : decide ((16 : Int) ≤ a) = false := by simp; omega
  have dl_tick : decide (t < 0) = false := by simp; omega
  have du_tick : decide ((1048575 : Int) < t) = false := by simp; omega
  have N_session := Lib.hid (rnumb s true n_session)
  clear n_session
  have N_a := Lib.hid (rnumb x false n_a)
  clear n_a
  go_enter Tryd.func58, Tryd.ntmps58
  go_wp2_with (first | (go_at_call 75; (with_reducible refine (HP.out _).mono ?_); rintro e w1 ⟨rfl, hb⟩; have kp := (Blk.new _ _ _).step hb; have e1 := kp.cell; have g1 := kp.froz; have l1 := kp.lt; have hB := ((Below.refl w.heap.size w).alloc (Nat.le_refl _) (.cells #[.int .i64 k, .int .i64 u, .int .i64 s, .int .i64 a, .int .i64 x, .int .i64 y, .int .i64 z, .int .i64 t] 32)).trans (hb.mono (by simp)); clear hb) | (go_at_call 37; first | ((with_reducible refine (N_session.out _).mono ?_); rintro e w1 ⟨rfl, rfl⟩) | ((with_reducible refine (N_a.out _).mono ?_); rintro e w1 ⟨rfl, rfl⟩)))
  go_ret
  exact ⟨rfl, by (repeat (first | exact hB | (with_reducible refine Below.setCell ?_ (by (try simp) <;> omega) _) | (with_reducible refine Below.alloc ?_ (by (try simp) <;> omega) _)))⟩

set_option maxHeartbeats 2000000 in
theorem remay_bad8 (k : Int) (u s a x y z t : Int) (w : World) (HP : ∀ w, Calls Tryd.prog 75 #[.agg #[.int .i64 k, .int .i64 u, .int .i64 s, .int .i64 a, .int .i64 x, .int .i64 y, .int .i64 z, .int .i64 t]] w fun e w' => e = .returned (.tuple #[.agg #[.int .i64 k, .int .i64 u, .int .i64 s, .int .i64 a, .int .i64 x, .int .i64 y, .int .i64 z, .int .i64 t], .bool true]) ∧ Below w.heap.size w w') (l_user : 0 ≤ u) (u_user : u ≤ 7) (l_address : 0 ≤ a) (u_address : a ≤ 15) (l_tick : 0 ≤ t) (u_tick : t ≤ 1048575) (n_session : okNum s = true) (n_a : okNum x = true) (n_b : okNum y = false) :
    Calls Tryd.prog 58 #[.agg #[.int .i64 k, .int .i64 u, .int .i64 s, .int .i64 a, .int .i64 x, .int .i64 y, .int .i64 z, .int .i64 t]] w fun e w' => e = .returned (.bool false) ∧ Below w.heap.size w w' := by
  have HP := Lib.hid HP
  have dl_user : decide (u < 0) = false := by simp; omega
  have du_user : decide ((8 : Int) ≤ u) = false := by simp; omega
  have dl_address : decide (a < 0) = false := by simp; omega
  have du_address : decide ((16 : Int) ≤ a) = false := by simp; omega
  have dl_tick : decide (t < 0) = false := by simp; omega
  have du_tick : decide ((1048575 : Int) < t) = false := by simp; omega
  have N_session := Lib.hid (rnumb s true n_session)
  clear n_session
  have N_a := Lib.hid (rnumb x true n_a)
  clear n_a
  have N_b := Lib.hid (rnumb y false n_b)
  clear n_b
  go_enter Tryd.func58, Tryd.ntmps58
  go_wp2_with (first | (go_at_call 75; (with_reducible refine (HP.out _).mono ?_); rintro e w1 ⟨rfl, hb⟩; have kp := (Blk.new _ _ _).step hb; have e1 := kp.cell; have g1 := kp.froz; have l1 := kp.lt; have hB := ((Below.refl w.heap.size w).alloc (Nat.le_refl _) (.cells #[.int .i64 k, .int .i64 u, .int .i64 s, .int .i64 a, .int .i64 x, .int .i64 y, .int .i64 z, .int .i64 t] 32)).trans (hb.mono (by simp)); clear hb) | (go_at_call 37; first | ((with_reducible refine (N_session.out _).mono ?_); rintro e w1 ⟨rfl, rfl⟩) | ((with_reducible refine (N_a.out _).mono ?_); rintro e w1 ⟨rfl, rfl⟩) | ((with_reducible refine (N_b.out _).mono ?_); rintro e w1 ⟨rfl, rfl⟩)))
  go_ret
  exact ⟨rfl, by (repeat (first | exact hB | (with_reducible refine Below.setCell ?_ (by (try simp) <;> omega) _) | (with_reducible refine Below.alloc ?_ (by (try simp) <;> omega) _)))⟩

set_option maxHeartbeats 2000000 in
theorem remay_bad9 (k : Int) (u s a x y z t : Int) (w : World) (HP : ∀ w, Calls Tryd.prog 75 #[.agg #[.int .i64 k, .int .i64 u, .int .i64 s, .int .i64 a, .int .i64 x, .int .i64 y, .int .i64 z, .int .i64 t]] w fun e w' => e = .returned (.tuple #[.agg #[.int .i64 k, .int .i64 u, .int .i64 s, .int .i64 a, .int .i64 x, .int .i64 y, .int .i64 z, .int .i64 t], .bool true]) ∧ Below w.heap.size w w') (l_user : 0 ≤ u) (u_user : u ≤ 7) (l_address : 0 ≤ a) (u_address : a ≤ 15) (l_tick : 0 ≤ t) (u_tick : t ≤ 1048575) (n_session : okNum s = true) (n_a : okNum x = true) (n_b : okNum y = true) (l_c : z < 0) :
    Calls Tryd.prog 58 #[.agg #[.int .i64 k, .int .i64 u, .int .i64 s, .int .i64 a, .int .i64 x, .int .i64 y, .int .i64 z, .int .i64 t]] w fun e w' => e = .returned (.bool false) ∧ Below w.heap.size w w' := by
  have HP := Lib.hid HP
  have dl_user : decide (u < 0) = false := by simp; omega
  have du_user : decide ((8 : Int) ≤ u) = false := by simp; omega
  have dl_address : decide (a < 0) = false := by simp; omega
  have du_address : decide ((16 : Int) ≤ a) = false := by simp; omega
  have dl_tick : decide (t < 0) = false := by simp; omega
  have du_tick : decide ((1048575 : Int) < t) = false := by simp; omega
  have N_session := Lib.hid (rnumb s true n_session)
  clear n_session
  have N_a := Lib.hid (rnumb x true n_a)
  clear n_a
  have N_b := Lib.hid (rnumb y true n_b)
  clear n_b
  have dl_c : decide (z < 0) = true := by simp; omega
  go_enter Tryd.func58, Tryd.ntmps58
  go_wp2_with (first | (go_at_call 75; (with_reducible refine (HP.out _).mono ?_); rintro e w1 ⟨rfl, hb⟩; have kp := (Blk.new _ _ _).step hb; have e1 := kp.cell; have g1 := kp.froz; have l1 := kp.lt; have hB := ((Below.refl w.heap.size w).alloc (Nat.le_refl _) (.cells #[.int .i64 k, .int .i64 u, .int .i64 s, .int .i64 a, .int .i64 x, .int .i64 y, .int .i64 z, .int .i64 t] 32)).trans (hb.mono (by simp)); clear hb) | (go_at_call 37; first | ((with_reducible refine (N_session.out _).mono ?_); rintro e w1 ⟨rfl, rfl⟩) | ((with_reducible refine (N_a.out _).mono ?_); rintro e w1 ⟨rfl, rfl⟩) | ((with_reducible refine (N_b.out _).mono ?_); rintro e w1 ⟨rfl, rfl⟩)))
  go_ret
  exact ⟨rfl, by (repeat (first | exact hB | (with_reducible refine Below.setCell ?_ (by (try simp) <;> omega) _) | (with_reducible refine Below.alloc ?_ (by (try simp) <;> omega) _)))⟩

set_option maxHeartbeats 2000000 in
theorem remay_bad10 (k : Int) (u s a x y z t : Int) (w : World) (HP : ∀ w, Calls Tryd.prog 75 #[.agg #[.int .i64 k, .int .i64 u, .int .i64 s, .int .i64 a, .int .i64 x, .int .i64 y, .int .i64 z, .int .i64 t]] w fun e w' => e = .returned (.tuple #[.agg #[.int .i64 k, .int .i64 u, .int .i64 s, .int .i64 a, .int .i64 x, .int .i64 y, .int .i64 z, .int .i64 t], .bool true]) ∧ Below w.heap.size w w') (l_user : 0 ≤ u) (u_user : u ≤ 7) (l_address : 0 ≤ a) (u_address : a ≤ 15) (l_tick : 0 ≤ t) (u_tick : t ≤ 1048575) (n_session : okNum s = true) (n_a : okNum x = true) (n_b : okNum y = true) (l_c : 0 ≤ z) (u_c : 1048576 < z) :
    Calls Tryd.prog 58 #[.agg #[.int .i64 k, .int .i64 u, .int .i64 s, .int .i64 a, .int .i64 x, .int .i64 y, .int .i64 z, .int .i64 t]] w fun e w' => e = .returned (.bool false) ∧ Below w.heap.size w w' := by
  have HP := Lib.hid HP
  have dl_user : decide (u < 0) = false := by simp; omega
  have du_user : decide ((8 : Int) ≤ u) = false := by simp; omega
  have dl_address : decide (a < 0) = false := by simp; omega
  have du_address : decide ((16 : Int) ≤ a) = false := by simp; omega
  have dl_tick : decide (t < 0) = false := by simp; omega
  have du_tick : decide ((1048575 : Int) < t) = false := by simp; omega
  have N_session := Lib.hid (rnumb s true n_session)
  clear n_session
  have N_a := Lib.hid (rnumb x true n_a)
  clear n_a
  have N_b := Lib.hid (rnumb y true n_b)
  clear n_b
  have dl_c : decide (z < 0) = false := by simp; omega
  have du_c : decide ((1048576 : Int) < z) = true := by simp; omega
  go_enter Tryd.func58, Tryd.ntmps58
  go_wp2_with (first | (go_at_call 75; (with_reducible refine (HP.out _).mono ?_); rintro e w1 ⟨rfl, hb⟩; have kp := (Blk.new _ _ _).step hb; have e1 := kp.cell; have g1 := kp.froz; have l1 := kp.lt; have hB := ((Below.refl w.heap.size w).alloc (Nat.le_refl _) (.cells #[.int .i64 k, .int .i64 u, .int .i64 s, .int .i64 a, .int .i64 x, .int .i64 y, .int .i64 z, .int .i64 t] 32)).trans (hb.mono (by simp)); clear hb) | (go_at_call 37; first | ((with_reducible refine (N_session.out _).mono ?_); rintro e w1 ⟨rfl, rfl⟩) | ((with_reducible refine (N_a.out _).mono ?_); rintro e w1 ⟨rfl, rfl⟩) | ((with_reducible refine (N_b.out _).mono ?_); rintro e w1 ⟨rfl, rfl⟩)))
  go_ret
  exact ⟨rfl, by (repeat (first | exact hB | (with_reducible refine Below.setCell ?_ (by (try simp) <;> omega) _) | (with_reducible refine Below.alloc ?_ (by (try simp) <;> omega) _)))⟩
end Go.Proofs.YtiebpjkppjollaaDoor
