/- Put together: Remay0, Remay1, Remay2, Remay, Reput, Rcref. Conditions: each theorem's own. -/
import Derived.Test.YtbfpfmidjdonjaaGreatDoorBpm
import Derived.Test.YtbfpfmidjdonjaaGreatDoorBrk
import Derived.Test.YtbfpfmidjdonjaaGreatDoorBlk
import Derived.Test.YtbfpfmidjdonjaaGreatDoorBbk
import Derived.Test.YtbfpfmidjdonjaaGreatDoorBfr
import Derived.Test.YtbfpfmidjdonjaaGreatDoorBme
namespace Go.Proofs.YtbfpfmidjdonjaaGreatDoor
open Go Go.RowKit
def Ev.pi (p : Ev) : Bool := p.part.isSome
def Ev.pv (p : Ev) : Ev := p.part.getD ⟨p.kind, 0, 0, 0, 0, 0, 0, 0⟩
theorem remay_part0 (u s a x y z t : Int) (w : World) : Calls Tryz.prog 88 #[.agg #[.int .i64 0, .int .i64 u, .int .i64 s, .int .i64 a, .int .i64 x, .int .i64 y, .int .i64 z, .int .i64 t]] w fun e w' => e = .returned (.tuple #[.agg #[.int .i64 0, .int .i64 0, .int .i64 0, .int .i64 0, .int .i64 0, .int .i64 0, .int .i64 0, .int .i64 t], .bool true]) ∧ Below w.heap.size w w' := by
  go_enter Tryz.func88, Tryz.ntmps88
  go_wp2
  exact bodyPost_ret (v := .tuple #[.agg #[.int .i64 0, .int .i64 0, .int .i64 0, .int .i64 0, .int .i64 0, .int .i64 0, .int .i64 0, .int .i64 t], .bool true]) (by simp [results, Tryz.results88, go_sem]) rfl ⟨rfl, by repeat (first | exact Below.refl _ _ | refine Below.setCell ?_ (by (try simp) <;> omega) _ | refine Below.alloc ?_ (by (try simp) <;> omega) _)⟩
theorem remay_part1 (u s a x y z t : Int) (w : World) : Calls Tryz.prog 88 #[.agg #[.int .i64 1, .int .i64 u, .int .i64 s, .int .i64 a, .int .i64 x, .int .i64 y, .int .i64 z, .int .i64 t]] w fun e w' => e = .returned (.tuple #[.agg #[.int .i64 1, .int .i64 u, .int .i64 0, .int .i64 0, .int .i64 x, .int .i64 y, .int .i64 z, .int .i64 0], .bool true]) ∧ Below w.heap.size w w' := by
  go_enter Tryz.func88, Tryz.ntmps88
  go_wp2
  exact bodyPost_ret (v := .tuple #[.agg #[.int .i64 1, .int .i64 u, .int .i64 0, .int .i64 0, .int .i64 x, .int .i64 y, .int .i64 z, .int .i64 0], .bool true]) (by simp [results, Tryz.results88, go_sem]) rfl ⟨rfl, by repeat (first | exact Below.refl _ _ | refine Below.setCell ?_ (by (try simp) <;> omega) _ | refine Below.alloc ?_ (by (try simp) <;> omega) _)⟩
theorem remay_part2 (u s a x y z t : Int) (w : World) : Calls Tryz.prog 88 #[.agg #[.int .i64 2, .int .i64 u, .int .i64 s, .int .i64 a, .int .i64 x, .int .i64 y, .int .i64 z, .int .i64 t]] w fun e w' => e = .returned (.tuple #[.agg #[.int .i64 2, .int .i64 u, .int .i64 0, .int .i64 0, .int .i64 0, .int .i64 0, .int .i64 0, .int .i64 t], .bool true]) ∧ Below w.heap.size w w' := by
  go_enter Tryz.func88, Tryz.ntmps88
  go_wp2
  exact bodyPost_ret (v := .tuple #[.agg #[.int .i64 2, .int .i64 u, .int .i64 0, .int .i64 0, .int .i64 0, .int .i64 0, .int .i64 0, .int .i64 t], .bool true]) (by simp [results, Tryz.results88, go_sem]) rfl ⟨rfl, by repeat (first | exact Below.refl _ _ | refine Below.setCell ?_ (by (try simp) <;> omega) _ | refine Below.alloc ?_ (by (try simp) <;> omega) _)⟩
theorem remay_part3 (u s a x y z t : Int) (w : World) : Calls Tryz.prog 88 #[.agg #[.int .i64 3, .int .i64 u, .int .i64 s, .int .i64 a, .int .i64 x, .int .i64 y, .int .i64 z, .int .i64 t]] w fun e w' => e = .returned (.tuple #[.agg #[.int .i64 3, .int .i64 u, .int .i64 0, .int .i64 0, .int .i64 x, .int .i64 0, .int .i64 0, .int .i64 0], .bool true]) ∧ Below w.heap.size w w' := by
  go_enter Tryz.func88, Tryz.ntmps88
  go_wp2
  exact bodyPost_ret (v := .tuple #[.agg #[.int .i64 3, .int .i64 u, .int .i64 0, .int .i64 0, .int .i64 x, .int .i64 0, .int .i64 0, .int .i64 0], .bool true]) (by simp [results, Tryz.results88, go_sem]) rfl ⟨rfl, by repeat (first | exact Below.refl _ _ | refine Below.setCell ?_ (by (try simp) <;> omega) _ | refine Below.alloc ?_ (by (try simp) <;> omega) _)⟩
theorem remay_part4 (u s a x y z t : Int) (w : World) : Calls Tryz.prog 88 #[.agg #[.int .i64 4, .int .i64 u, .int .i64 s, .int .i64 a, .int .i64 x, .int .i64 y, .int .i64 z, .int .i64 t]] w fun e w' => e = .returned (.tuple #[.agg #[.int .i64 4, .int .i64 u, .int .i64 0, .int .i64 0, .int .i64 0, .int .i64 0, .int .i64 0, .int .i64 0], .bool true]) ∧ Below w.heap.size w w' := by
  go_enter Tryz.func88, Tryz.ntmps88
  go_wp2
  exact bodyPost_ret (v := .tuple #[.agg #[.int .i64 4, .int .i64 u, .int .i64 0, .int .i64 0, .int .i64 0, .int .i64 0, .int .i64 0, .int .i64 0], .bool true]) (by simp [results, Tryz.results88, go_sem]) rfl ⟨rfl, by repeat (first | exact Below.refl _ _ | refine Below.setCell ?_ (by (try simp) <;> omega) _ | refine Below.alloc ?_ (by (try simp) <;> omega) _)⟩
theorem remay_part5 (u s a x y z t : Int) (w : World) : Calls Tryz.prog 88 #[.agg #[.int .i64 5, .int .i64 u, .int .i64 s, .int .i64 a, .int .i64 x, .int .i64 y, .int .i64 z, .int .i64 t]] w fun e w' => e = .returned (.tuple #[.agg #[.int .i64 5, .int .i64 u, .int .i64 s, .int .i64 a, .int .i64 0, .int .i64 0, .int .i64 0, .int .i64 t], .bool true]) ∧ Below w.heap.size w w' := by
  go_enter Tryz.func88, Tryz.ntmps88
  go_wp2
  exact bodyPost_ret (v := .tuple #[.agg #[.int .i64 5, .int .i64 u, .int .i64 s, .int .i64 a, .int .i64 0, .int .i64 0, .int .i64 0, .int .i64 t], .bool true]) (by simp [results, Tryz.results88, go_sem]) rfl ⟨rfl, by repeat (first | exact Below.refl _ _ | refine Below.setCell ?_ (by (try simp) <;> omega) _ | refine Below.alloc ?_ (by (try simp) <;> omega) _)⟩
theorem remay_part6 (u s a x y z t : Int) (w : World) : Calls Tryz.prog 88 #[.agg #[.int .i64 6, .int .i64 u, .int .i64 s, .int .i64 a, .int .i64 x, .int .i64 y, .int .i64 z, .int .i64 t]] w fun e w' => e = .returned (.tuple #[.agg #[.int .i64 6, .int .i64 0, .int .i64 s, .int .i64 0, .int .i64 x, .int .i64 y, .int .i64 0, .int .i64 t], .bool true]) ∧ Below w.heap.size w w' := by
  go_enter Tryz.func88, Tryz.ntmps88
  go_wp2
  exact bodyPost_ret (v := .tuple #[.agg #[.int .i64 6, .int .i64 0, .int .i64 s, .int .i64 0, .int .i64 x, .int .i64 y, .int .i64 0, .int .i64 t], .bool true]) (by simp [results, Tryz.results88, go_sem]) rfl ⟨rfl, by repeat (first | exact Below.refl _ _ | refine Below.setCell ?_ (by (try simp) <;> omega) _ | refine Below.alloc ?_ (by (try simp) <;> omega) _)⟩
theorem remay_part7 (u s a x y z t : Int) (w : World) : Calls Tryz.prog 88 #[.agg #[.int .i64 7, .int .i64 u, .int .i64 s, .int .i64 a, .int .i64 x, .int .i64 y, .int .i64 z, .int .i64 t]] w fun e w' => e = .returned (.tuple #[.agg #[.int .i64 7, .int .i64 u, .int .i64 0, .int .i64 0, .int .i64 0, .int .i64 0, .int .i64 0, .int .i64 0], .bool true]) ∧ Below w.heap.size w w' := by
  go_enter Tryz.func88, Tryz.ntmps88
  go_wp2
  exact bodyPost_ret (v := .tuple #[.agg #[.int .i64 7, .int .i64 u, .int .i64 0, .int .i64 0, .int .i64 0, .int .i64 0, .int .i64 0, .int .i64 0], .bool true]) (by simp [results, Tryz.results88, go_sem]) rfl ⟨rfl, by repeat (first | exact Below.refl _ _ | refine Below.setCell ?_ (by (try simp) <;> omega) _ | refine Below.alloc ?_ (by (try simp) <;> omega) _)⟩
theorem remay_part8 (u s a x y z t : Int) (w : World) : Calls Tryz.prog 88 #[.agg #[.int .i64 8, .int .i64 u, .int .i64 s, .int .i64 a, .int .i64 x, .int .i64 y, .int .i64 z, .int .i64 t]] w fun e w' => e = .returned (.tuple #[.agg #[.int .i64 8, .int .i64 0, .int .i64 0, .int .i64 0, .int .i64 0, .int .i64 0, .int .i64 0, .int .i64 0], .bool true]) ∧ Below w.heap.size w w' := by
  go_enter Tryz.func88, Tryz.ntmps88
  go_wp2
  exact bodyPost_ret (v := .tuple #[.agg #[.int .i64 8, .int .i64 0, .int .i64 0, .int .i64 0, .int .i64 0, .int .i64 0, .int .i64 0, .int .i64 0], .bool true]) (by simp [results, Tryz.results88, go_sem]) rfl ⟨rfl, by repeat (first | exact Below.refl _ _ | refine Below.setCell ?_ (by (try simp) <;> omega) _ | refine Below.alloc ?_ (by (try simp) <;> omega) _)⟩
theorem remay_part9 (u s a x y z t : Int) (w : World) : Calls Tryz.prog 88 #[.agg #[.int .i64 9, .int .i64 u, .int .i64 s, .int .i64 a, .int .i64 x, .int .i64 y, .int .i64 z, .int .i64 t]] w fun e w' => e = .returned (.tuple #[.agg #[.int .i64 9, .int .i64 0, .int .i64 s, .int .i64 0, .int .i64 0, .int .i64 0, .int .i64 0, .int .i64 0], .bool true]) ∧ Below w.heap.size w w' := by
  go_enter Tryz.func88, Tryz.ntmps88
  go_wp2
  exact bodyPost_ret (v := .tuple #[.agg #[.int .i64 9, .int .i64 0, .int .i64 s, .int .i64 0, .int .i64 0, .int .i64 0, .int .i64 0, .int .i64 0], .bool true]) (by simp [results, Tryz.results88, go_sem]) rfl ⟨rfl, by repeat (first | exact Below.refl _ _ | refine Below.setCell ?_ (by (try simp) <;> omega) _ | refine Below.alloc ?_ (by (try simp) <;> omega) _)⟩
theorem remay_partn (k : Int) (u s a x y z t : Int) (w : World) (h0 : k ≠ 0) (h1 : k ≠ 1) (h2 : k ≠ 2) (h3 : k ≠ 3) (h4 : k ≠ 4) (h5 : k ≠ 5) (h6 : k ≠ 6) (h7 : k ≠ 7) (h8 : k ≠ 8) (h9 : k ≠ 9) : Calls Tryz.prog 88 #[.agg #[.int .i64 k, .int .i64 u, .int .i64 s, .int .i64 a, .int .i64 x, .int .i64 y, .int .i64 z, .int .i64 t]] w fun e w' => e = .returned (.tuple #[.agg #[.int .i64 k, .int .i64 0, .int .i64 0, .int .i64 0, .int .i64 0, .int .i64 0, .int .i64 0, .int .i64 0], .bool false]) ∧ Below w.heap.size w w' := by
  have g0 : (k == 0) = false := by simpa using h0
  clear h0
  have g1 : (k == 1) = false := by simpa using h1
  clear h1
  have g2 : (k == 2) = false := by simpa using h2
  clear h2
  have g3 : (k == 3) = false := by simpa using h3
  clear h3
  have g4 : (k == 4) = false := by simpa using h4
  clear h4
  have g5 : (k == 5) = false := by simpa using h5
  clear h5
  have g6 : (k == 6) = false := by simpa using h6
  clear h6
  have g7 : (k == 7) = false := by simpa using h7
  clear h7
  have g8 : (k == 8) = false := by simpa using h8
  clear h8
  have g9 : (k == 9) = false := by simpa using h9
  clear h9
  go_enter Tryz.func88, Tryz.ntmps88
  go_wp2
  exact bodyPost_ret (v := .tuple #[.agg #[.int .i64 k, .int .i64 0, .int .i64 0, .int .i64 0, .int .i64 0, .int .i64 0, .int .i64 0, .int .i64 0], .bool false]) (by simp [results, Tryz.results88, go_sem]) rfl ⟨rfl, by repeat (first | exact Below.refl _ _ | refine Below.setCell ?_ (by (try simp) <;> omega) _ | refine Below.alloc ?_ (by (try simp) <;> omega) _)⟩
theorem remay_part (p : Ev) (w : World) : Calls Tryz.prog 88 #[p.val] w fun e w' => e = .returned (.tuple #[p.pv.val, .bool p.pi]) ∧ Below w.heap.size w w' := by
  obtain ⟨k, u, s, a, x, y, z, t⟩ := p
  by_cases h0 : k = 0
  · subst h0; exact remay_part0 u s a x y z t w
  by_cases h1 : k = 1
  · subst h1; exact remay_part1 u s a x y z t w
  by_cases h2 : k = 2
  · subst h2; exact remay_part2 u s a x y z t w
  by_cases h3 : k = 3
  · subst h3; exact remay_part3 u s a x y z t w
  by_cases h4 : k = 4
  · subst h4; exact remay_part4 u s a x y z t w
  by_cases h5 : k = 5
  · subst h5; exact remay_part5 u s a x y z t w
  by_cases h6 : k = 6
  · subst h6; exact remay_part6 u s a x y z t w
  by_cases h7 : k = 7
  · subst h7; exact remay_part7 u s a x y z t w
  by_cases h8 : k = 8
  · subst h8; exact remay_part8 u s a x y z t w
  by_cases h9 : k = 9
  · subst h9; exact remay_part9 u s a x y z t w
  have hn : (Ev.mk k u s a x y z t).part = none := by simp [Ev.part, h0, h1, h2, h3, h4, h5, h6, h7, h8, h9]
  unfold Ev.pv Ev.pi
  rw [hn]
  exact remay_partn k u s a x y z t w h0 h1 h2 h3 h4 h5 h6 h7 h8 h9
set_option maxHeartbeats 2000000 in
theorem remay_no (k : Int) (u s a x y z t : Int) (k2 y1 y2 y3 y4 y5 y6 y7 : Int) (w : World) (HP : ∀ w, Calls Tryz.prog 88 #[.agg #[.int .i64 k, .int .i64 u, .int .i64 s, .int .i64 a, .int .i64 x, .int .i64 y, .int .i64 z, .int .i64 t]] w fun e w' => e = .returned (.tuple #[.agg #[.int .i64 k2, .int .i64 y1, .int .i64 y2, .int .i64 y3, .int .i64 y4, .int .i64 y5, .int .i64 y6, .int .i64 y7], .bool false]) ∧ Below w.heap.size w w') :
    Calls Tryz.prog 69 #[.agg #[.int .i64 k, .int .i64 u, .int .i64 s, .int .i64 a, .int .i64 x, .int .i64 y, .int .i64 z, .int .i64 t]] w fun e w' => e = .returned (.bool false) ∧ Below w.heap.size w w' := by
  have HP := Lib.hid HP
  go_enter Tryz.func69, Tryz.ntmps69
  go_wp2_with (first | (go_at_call 88; (with_reducible refine (HP.out _).mono ?_); rintro e w1 ⟨rfl, hb⟩; have kp := (Blk.new _ _ _).step hb; have e1 := kp.cell; have g1 := kp.froz; have l1 := kp.lt; have hB := ((Below.refl w.heap.size w).alloc (Nat.le_refl _) (.cells #[.int .i64 k, .int .i64 u, .int .i64 s, .int .i64 a, .int .i64 x, .int .i64 y, .int .i64 z, .int .i64 t] 61)).trans (hb.mono (by simp)); clear hb))
  go_ret
  exact ⟨rfl, by (repeat (first | exact hB | (with_reducible refine Below.setCell ?_ (by (try simp) <;> omega) _) | (with_reducible refine Below.alloc ?_ (by (try simp) <;> omega) _)))⟩
open Go Go.RowKit
set_option maxHeartbeats 2000000 in
theorem remay_ne0 (k : Int) (u s a x y z t : Int) (k2 y1 y2 y3 y4 y5 y6 y7 : Int) (w : World) (HP : ∀ w, Calls Tryz.prog 88 #[.agg #[.int .i64 k, .int .i64 u, .int .i64 s, .int .i64 a, .int .i64 x, .int .i64 y, .int .i64 z, .int .i64 t]] w fun e w' => e = .returned (.tuple #[.agg #[.int .i64 k2, .int .i64 y1, .int .i64 y2, .int .i64 y3, .int .i64 y4, .int .i64 y5, .int .i64 y6, .int .i64 y7], .bool true]) ∧ Below w.heap.size w w') (hn : k2 ≠ k) :
    Calls Tryz.prog 69 #[.agg #[.int .i64 k, .int .i64 u, .int .i64 s, .int .i64 a, .int .i64 x, .int .i64 y, .int .i64 z, .int .i64 t]] w fun e w' => e = .returned (.bool false) ∧ Below w.heap.size w w' := by
  have HP := Lib.hid HP
  have g0 : (k2 == k) = false := by simpa using hn
  clear hn
  go_enter Tryz.func69, Tryz.ntmps69
  go_wp2_with (go_at_call 88; (with_reducible refine (HP.out _).mono ?_); rintro e w1 ⟨rfl, hb⟩; have kp := (Blk.new _ _ _).step hb; have e1 := kp.cell; have g1 := kp.froz; have l1 := kp.lt; have hB := ((Below.refl w.heap.size w).alloc (Nat.le_refl _) (.cells #[.int .i64 k, .int .i64 u, .int .i64 s, .int .i64 a, .int .i64 x, .int .i64 y, .int .i64 z, .int .i64 t] 61)).trans (hb.mono (by simp)); clear hb)
  go_ret
  exact ⟨rfl, by (repeat (first | exact hB | (with_reducible refine Below.setCell ?_ (by (try simp) <;> omega) _) | (with_reducible refine Below.alloc ?_ (by (try simp) <;> omega) _)))⟩
set_option maxHeartbeats 2000000 in
theorem remay_ne1 (k : Int) (u s a x y z t : Int) (k2 y1 y2 y3 y4 y5 y6 y7 : Int) (w : World) (HP : ∀ w, Calls Tryz.prog 88 #[.agg #[.int .i64 k, .int .i64 u, .int .i64 s, .int .i64 a, .int .i64 x, .int .i64 y, .int .i64 z, .int .i64 t]] w fun e w' => e = .returned (.tuple #[.agg #[.int .i64 k2, .int .i64 y1, .int .i64 y2, .int .i64 y3, .int .i64 y4, .int .i64 y5, .int .i64 y6, .int .i64 y7], .bool true]) ∧ Below w.heap.size w w') (hn : y1 ≠ u) :
    Calls Tryz.prog 69 #[.agg #[.int .i64 k, .int .i64 u, .int .i64 s, .int .i64 a, .int .i64 x, .int .i64 y, .int .i64 z, .int .i64 t]] w fun e w' => e = .returned (.bool false) ∧ Below w.heap.size w w' := by
  have HP := Lib.hid HP
  have g0 : (y1 == u) = false := by simpa using hn
  clear hn
  go_enter Tryz.func69, Tryz.ntmps69
  go_wp2_with (go_at_call 88; (with_reducible refine (HP.out _).mono ?_); rintro e w1 ⟨rfl, hb⟩; have kp := (Blk.new _ _ _).step hb; have e1 := kp.cell; have g1 := kp.froz; have l1 := kp.lt; have hB := ((Below.refl w.heap.size w).alloc (Nat.le_refl _) (.cells #[.int .i64 k, .int .i64 u, .int .i64 s, .int .i64 a, .int .i64 x, .int .i64 y, .int .i64 z, .int .i64 t] 61)).trans (hb.mono (by simp)); clear hb)
  go_ret
  exact ⟨rfl, by (repeat (first | exact hB | (with_reducible refine Below.setCell ?_ (by (try simp) <;> omega) _) | (with_reducible refine Below.alloc ?_ (by (try simp) <;> omega) _)))⟩
set_option maxHeartbeats 2000000 in
theorem remay_ne2 (k : Int) (u s a x y z t : Int) (k2 y1 y2 y3 y4 y5 y6 y7 : Int) (w : World) (HP : ∀ w, Calls Tryz.prog 88 #[.agg #[.int .i64 k, .int .i64 u, .int .i64 s, .int .i64 a, .int .i64 x, .int .i64 y, .int .i64 z, .int .i64 t]] w fun e w' => e = .returned (.tuple #[.agg #[.int .i64 k2, .int .i64 y1, .int .i64 y2, .int .i64 y3, .int .i64 y4, .int .i64 y5, .int .i64 y6, .int .i64 y7], .bool true]) ∧ Below w.heap.size w w') (hn : y2 ≠ s) :
    Calls Tryz.prog 69 #[.agg #[.int .i64 k, .int .i64 u, .int .i64 s, .int .i64 a, .int .i64 x, .int .i64 y, .int .i64 z, .int .i64 t]] w fun e w' => e = .returned (.bool false) ∧ Below w.heap.size w w' := by
  have HP := Lib.hid HP
  have g0 : (y2 == s) = false := by simpa using hn
  clear hn
  go_enter Tryz.func69, Tryz.ntmps69
  go_wp2_with (go_at_call 88; (with_reducible refine (HP.out _).mono ?_); rintro e w1 ⟨rfl, hb⟩; have kp := (Blk.new _ _ _).step hb; have e1 := kp.cell; have g1 := kp.froz; have l1 := kp.lt; have hB := ((Below.refl w.heap.size w).alloc (Nat.le_refl _) (.cells #[.int .i64 k, .int .i64 u, .int .i64 s, .int .i64 a, .int .i64 x, .int .i64 y, .int .i64 z, .int .i64 t] 61)).trans (hb.mono (by simp)); clear hb)
  go_ret
  exact ⟨rfl, by (repeat (first | exact hB | (with_reducible refine Below.setCell ?_ (by (try simp) <;> omega) _) | (with_reducible refine Below.alloc ?_ (by (try simp) <;> omega) _)))⟩
set_option maxHeartbeats 2000000 in
theorem remay_ne3 (k : Int) (u s a x y z t : Int) (k2 y1 y2 y3 y4 y5 y6 y7 : Int) (w : World) (HP : ∀ w, Calls Tryz.prog 88 #[.agg #[.int .i64 k, .int .i64 u, .int .i64 s, .int .i64 a, .int .i64 x, .int .i64 y, .int .i64 z, .int .i64 t]] w fun e w' => e = .returned (.tuple #[.agg #[.int .i64 k2, .int .i64 y1, .int .i64 y2, .int .i64 y3, .int .i64 y4, .int .i64 y5, .int .i64 y6, .int .i64 y7], .bool true]) ∧ Below w.heap.size w w') (hn : y3 ≠ a) :
    Calls Tryz.prog 69 #[.agg #[.int .i64 k, .int .i64 u, .int .i64 s, .int .i64 a, .int .i64 x, .int .i64 y, .int .i64 z, .int .i64 t]] w fun e w' => e = .returned (.bool false) ∧ Below w.heap.size w w' := by
  have HP := Lib.hid HP
  have g0 : (y3 == a) = false := by simpa using hn
  clear hn
  go_enter Tryz.func69, Tryz.ntmps69
  go_wp2_with (go_at_call 88; (with_reducible refine (HP.out _).mono ?_); rintro e w1 ⟨rfl, hb⟩; have kp := (Blk.new _ _ _).step hb; have e1 := kp.cell; have g1 := kp.froz; have l1 := kp.lt; have hB := ((Below.refl w.heap.size w).alloc (Nat.le_refl _) (.cells #[.int .i64 k, .int .i64 u, .int .i64 s, .int .i64 a, .int .i64 x, .int .i64 y, .int .i64 z, .int .i64 t] 61)).trans (hb.mono (by simp)); clear hb)
  go_ret
  exact ⟨rfl, by (repeat (first | exact hB | (with_reducible refine Below.setCell ?_ (by (try simp) <;> omega) _) | (with_reducible refine Below.alloc ?_ (by (try simp) <;> omega) _)))⟩
set_option maxHeartbeats 2000000 in
theorem remay_ne4 (k : Int) (u s a x y z t : Int) (k2 y1 y2 y3 y4 y5 y6 y7 : Int) (w : World) (HP : ∀ w, Calls Tryz.prog 88 #[.agg #[.int .i64 k, .int .i64 u, .int .i64 s, .int .i64 a, .int .i64 x, .int .i64 y, .int .i64 z, .int .i64 t]] w fun e w' => e = .returned (.tuple #[.agg #[.int .i64 k2, .int .i64 y1, .int .i64 y2, .int .i64 y3, .int .i64 y4, .int .i64 y5, .int .i64 y6, .int .i64 y7], .bool true]) ∧ Below w.heap.size w w') (hn : y4 ≠ x) :
    Calls Tryz.prog 69 #[.agg #[.int .i64 k, .int .i64 u, .int .i64 s, .int .i64 a, .int .i64 x, .int .i64 y, .int .i64 z, .int .i64 t]] w fun e w' => e = .returned (.bool false) ∧ Below w.heap.size w w' := by
  have HP := Lib.hid HP
  have g0 : (y4 == x) = false := by simpa using hn
  clear hn
  go_enter Tryz.func69, Tryz.ntmps69
  go_wp2_with (go_at_call 88; (with_reducible refine (HP.out _).mono ?_); rintro e w1 ⟨rfl, hb⟩; have kp := (Blk.new _ _ _).step hb; have e1 := kp.cell; have g1 := kp.froz; have l1 := kp.lt; have hB := ((Below.refl w.heap.size w).alloc (Nat.le_refl _) (.cells #[.int .i64 k, .int .i64 u, .int .i64 s, .int .i64 a, .int .i64 x, .int .i64 y, .int .i64 z, .int .i64 t] 61)).trans (hb.mono (by simp)); clear hb)
  go_ret
  exact ⟨rfl, by (repeat (first | exact hB | (with_reducible refine Below.setCell ?_ (by (try simp) <;> omega) _) | (with_reducible refine Below.alloc ?_ (by (try simp) <;> omega) _)))⟩
set_option maxHeartbeats 2000000 in
theorem remay_ne5 (k : Int) (u s a x y z t : Int) (k2 y1 y2 y3 y4 y5 y6 y7 : Int) (w : World) (HP : ∀ w, Calls Tryz.prog 88 #[.agg #[.int .i64 k, .int .i64 u, .int .i64 s, .int .i64 a, .int .i64 x, .int .i64 y, .int .i64 z, .int .i64 t]] w fun e w' => e = .returned (.tuple #[.agg #[.int .i64 k2, .int .i64 y1, .int .i64 y2, .int .i64 y3, .int .i64 y4, .int .i64 y5, .int .i64 y6, .int .i64 y7], .bool true]) ∧ Below w.heap.size w w') (hn : y5 ≠ y) :
    Calls Tryz.prog 69 #[.agg #[.int .i64 k, .int .i64 u, .int .i64 s, .int .i64 a, .int .i64 x, .int .i64 y, .int .i64 z, .int .i64 t]] w fun e w' => e = .returned (.bool false) ∧ Below w.heap.size w w' := by
  have HP := Lib.hid HP
  have g0 : (y5 == y) = false := by simpa using hn
  clear hn
  go_enter Tryz.func69, Tryz.ntmps69
  go_wp2_with (go_at_call 88; (with_reducible refine (HP.out _).mono ?_); rintro e w1 ⟨rfl, hb⟩; have kp := (Blk.new _ _ _).step hb; have e1 := kp.cell; have g1 := kp.froz; have l1 := kp.lt; have hB := ((Below.refl w.heap.size w).alloc (Nat.le_refl _) (.cells #[.int .i64 k, .int .i64 u, .int .i64 s, .int .i64 a, .int .i64 x, .int .i64 y, .int .i64 z, .int .i64 t] 61)).trans (hb.mono (by simp)); clear hb)
  go_ret
  exact ⟨rfl, by (repeat (first | exact hB | (with_reducible refine Below.setCell ?_ (by (try simp) <;> omega) _) | (with_reducible refine Below.alloc ?_ (by (try simp) <;> omega) _)))⟩
set_option maxHeartbeats 2000000 in
theorem remay_ne6 (k : Int) (u s a x y z t : Int) (k2 y1 y2 y3 y4 y5 y6 y7 : Int) (w : World) (HP : ∀ w, Calls Tryz.prog 88 #[.agg #[.int .i64 k, .int .i64 u, .int .i64 s, .int .i64 a, .int .i64 x, .int .i64 y, .int .i64 z, .int .i64 t]] w fun e w' => e = .returned (.tuple #[.agg #[.int .i64 k2, .int .i64 y1, .int .i64 y2, .int .i64 y3, .int .i64 y4, .int .i64 y5, .int .i64 y6, .int .i64 y7], .bool true]) ∧ Below w.heap.size w w') (hn : y6 ≠ z) :
    Calls Tryz.prog 69 #[.agg #[.int .i64 k, .int .i64 u, .int .i64 s, .int .i64 a, .int .i64 x, .int .i64 y, .int .i64 z, .int .i64 t]] w fun e w' => e = .returned (.bool false) ∧ Below w.heap.size w w' := by
  have HP := Lib.hid HP
  have g0 : (y6 == z) = false := by simpa using hn
  clear hn
  go_enter Tryz.func69, Tryz.ntmps69
  go_wp2_with (go_at_call 88; (with_reducible refine (HP.out _).mono ?_); rintro e w1 ⟨rfl, hb⟩; have kp := (Blk.new _ _ _).step hb; have e1 := kp.cell; have g1 := kp.froz; have l1 := kp.lt; have hB := ((Below.refl w.heap.size w).alloc (Nat.le_refl _) (.cells #[.int .i64 k, .int .i64 u, .int .i64 s, .int .i64 a, .int .i64 x, .int .i64 y, .int .i64 z, .int .i64 t] 61)).trans (hb.mono (by simp)); clear hb)
  go_ret
  exact ⟨rfl, by (repeat (first | exact hB | (with_reducible refine Below.setCell ?_ (by (try simp) <;> omega) _) | (with_reducible refine Below.alloc ?_ (by (try simp) <;> omega) _)))⟩
set_option maxHeartbeats 2000000 in
theorem remay_ne7 (k : Int) (u s a x y z t : Int) (k2 y1 y2 y3 y4 y5 y6 y7 : Int) (w : World) (HP : ∀ w, Calls Tryz.prog 88 #[.agg #[.int .i64 k, .int .i64 u, .int .i64 s, .int .i64 a, .int .i64 x, .int .i64 y, .int .i64 z, .int .i64 t]] w fun e w' => e = .returned (.tuple #[.agg #[.int .i64 k2, .int .i64 y1, .int .i64 y2, .int .i64 y3, .int .i64 y4, .int .i64 y5, .int .i64 y6, .int .i64 y7], .bool true]) ∧ Below w.heap.size w w') (hn : y7 ≠ t) :
    Calls Tryz.prog 69 #[.agg #[.int .i64 k, .int .i64 u, .int .i64 s, .int .i64 a, .int .i64 x, .int .i64 y, .int .i64 z, .int .i64 t]] w fun e w' => e = .returned (.bool false) ∧ Below w.heap.size w w' := by
  have HP := Lib.hid HP
  have g0 : (y7 == t) = false := by simpa using hn
  clear hn
  go_enter Tryz.func69, Tryz.ntmps69
  go_wp2_with (go_at_call 88; (with_reducible refine (HP.out _).mono ?_); rintro e w1 ⟨rfl, hb⟩; have kp := (Blk.new _ _ _).step hb; have e1 := kp.cell; have g1 := kp.froz; have l1 := kp.lt; have hB := ((Below.refl w.heap.size w).alloc (Nat.le_refl _) (.cells #[.int .i64 k, .int .i64 u, .int .i64 s, .int .i64 a, .int .i64 x, .int .i64 y, .int .i64 z, .int .i64 t] 61)).trans (hb.mono (by simp)); clear hb)
  go_ret
  exact ⟨rfl, by (repeat (first | exact hB | (with_reducible refine Below.setCell ?_ (by (try simp) <;> omega) _) | (with_reducible refine Below.alloc ?_ (by (try simp) <;> omega) _)))⟩
theorem remay_ne (k : Int) (u s a x y z t : Int) (k2 y1 y2 y3 y4 y5 y6 y7 : Int) (w : World) (HP : ∀ w, Calls Tryz.prog 88 #[.agg #[.int .i64 k, .int .i64 u, .int .i64 s, .int .i64 a, .int .i64 x, .int .i64 y, .int .i64 z, .int .i64 t]] w fun e w' => e = .returned (.tuple #[.agg #[.int .i64 k2, .int .i64 y1, .int .i64 y2, .int .i64 y3, .int .i64 y4, .int .i64 y5, .int .i64 y6, .int .i64 y7], .bool true]) ∧ Below w.heap.size w w') (hn : k2 = k → y1 = u → y2 = s → y3 = a → y4 = x → y5 = y → y6 = z → y7 = t → False) :
    Calls Tryz.prog 69 #[.agg #[.int .i64 k, .int .i64 u, .int .i64 s, .int .i64 a, .int .i64 x, .int .i64 y, .int .i64 z, .int .i64 t]] w fun e w' => e = .returned (.bool false) ∧ Below w.heap.size w w' := by
  by_cases e0 : k2 = k
  case neg => exact remay_ne0 k u s a x y z t k2 y1 y2 y3 y4 y5 y6 y7 w HP e0
  by_cases e1 : y1 = u
  case neg => exact remay_ne1 k u s a x y z t k2 y1 y2 y3 y4 y5 y6 y7 w HP e1
  by_cases e2 : y2 = s
  case neg => exact remay_ne2 k u s a x y z t k2 y1 y2 y3 y4 y5 y6 y7 w HP e2
  by_cases e3 : y3 = a
  case neg => exact remay_ne3 k u s a x y z t k2 y1 y2 y3 y4 y5 y6 y7 w HP e3
  by_cases e4 : y4 = x
  case neg => exact remay_ne4 k u s a x y z t k2 y1 y2 y3 y4 y5 y6 y7 w HP e4
  by_cases e5 : y5 = y
  case neg => exact remay_ne5 k u s a x y z t k2 y1 y2 y3 y4 y5 y6 y7 w HP e5
  by_cases e6 : y6 = z
  case neg => exact remay_ne6 k u s a x y z t k2 y1 y2 y3 y4 y5 y6 y7 w HP e6
  by_cases e7 : y7 = t
  case neg => exact remay_ne7 k u s a x y z t k2 y1 y2 y3 y4 y5 y6 y7 w HP e7
  exact (hn e0 e1 e2 e3 e4 e5 e6 e7).elim
open Go Go.RowKit
set_option maxHeartbeats 2000000 in
theorem remay_bad0 (k : Int) (u s a x y z t : Int) (w : World) (HP : ∀ w, Calls Tryz.prog 88 #[.agg #[.int .i64 k, .int .i64 u, .int .i64 s, .int .i64 a, .int .i64 x, .int .i64 y, .int .i64 z, .int .i64 t]] w fun e w' => e = .returned (.tuple #[.agg #[.int .i64 k, .int .i64 u, .int .i64 s, .int .i64 a, .int .i64 x, .int .i64 y, .int .i64 z, .int .i64 t], .bool true]) ∧ Below w.heap.size w w')  (l_user : u < 0) :
    Calls Tryz.prog 69 #[.agg #[.int .i64 k, .int .i64 u, .int .i64 s, .int .i64 a, .int .i64 x, .int .i64 y, .int .i64 z, .int .i64 t]] w fun e w' => e = .returned (.bool false) ∧ Below w.heap.size w w' := by
  have HP := Lib.hid HP
  have dl_user : decide (u < 0) = true := by simp; omega
  go_enter Tryz.func69, Tryz.ntmps69
  go_wp2_with (first | (go_at_call 88; (with_reducible refine (HP.out _).mono ?_); rintro e w1 ⟨rfl, hb⟩; have kp := (Blk.new _ _ _).step hb; have e1 := kp.cell; have g1 := kp.froz; have l1 := kp.lt; have hB := ((Below.refl w.heap.size w).alloc (Nat.le_refl _) (.cells #[.int .i64 k, .int .i64 u, .int .i64 s, .int .i64 a, .int .i64 x, .int .i64 y, .int .i64 z, .int .i64 t] 61)).trans (hb.mono (by simp)); clear hb))
  go_ret
  exact ⟨rfl, by (repeat (first | exact hB | (with_reducible refine Below.setCell ?_ (by (try simp) <;> omega) _) | (with_reducible refine Below.alloc ?_ (by (try simp) <;> omega) _)))⟩
set_option maxHeartbeats 2000000 in
theorem remay_bad1 (k : Int) (u s a x y z t : Int) (w : World) (HP : ∀ w, Calls Tryz.prog 88 #[.agg #[.int .i64 k, .int .i64 u, .int .i64 s, .int .i64 a, .int .i64 x, .int .i64 y, .int .i64 z, .int .i64 t]] w fun e w' => e = .returned (.tuple #[.agg #[.int .i64 k, .int .i64 u, .int .i64 s, .int .i64 a, .int .i64 x, .int .i64 y, .int .i64 z, .int .i64 t], .bool true]) ∧ Below w.heap.size w w') (l_user : 0 ≤ u) (u_user : 7 < u) :
    Calls Tryz.prog 69 #[.agg #[.int .i64 k, .int .i64 u, .int .i64 s, .int .i64 a, .int .i64 x, .int .i64 y, .int .i64 z, .int .i64 t]] w fun e w' => e = .returned (.bool false) ∧ Below w.heap.size w w' := by
  have HP := Lib.hid HP
  have dl_user : decide (u < 0) = false := by simp; omega
  have du_user : decide ((8 : Int) ≤ u) = true := by simp; omega
  go_enter Tryz.func69, Tryz.ntmps69
  go_wp2_with (first | (go_at_call 88; (with_reducible refine (HP.out _).mono ?_); rintro e w1 ⟨rfl, hb⟩; have kp := (Blk.new _ _ _).step hb; have e1 := kp.cell; have g1 := kp.froz; have l1 := kp.lt; have hB := ((Below.refl w.heap.size w).alloc (Nat.le_refl _) (.cells #[.int .i64 k, .int .i64 u, .int .i64 s, .int .i64 a, .int .i64 x, .int .i64 y, .int .i64 z, .int .i64 t] 61)).trans (hb.mono (by simp)); clear hb))
  go_ret
  exact ⟨rfl, by (repeat (first | exact hB | (with_reducible refine Below.setCell ?_ (by (try simp) <;> omega) _) | (with_reducible refine Below.alloc ?_ (by (try simp) <;> omega) _)))⟩
set_option maxHeartbeats 2000000 in
theorem remay_bad2 (k : Int) (u s a x y z t : Int) (w : World) (HP : ∀ w, Calls Tryz.prog 88 #[.agg #[.int .i64 k, .int .i64 u, .int .i64 s, .int .i64 a, .int .i64 x, .int .i64 y, .int .i64 z, .int .i64 t]] w fun e w' => e = .returned (.tuple #[.agg #[.int .i64 k, .int .i64 u, .int .i64 s, .int .i64 a, .int .i64 x, .int .i64 y, .int .i64 z, .int .i64 t], .bool true]) ∧ Below w.heap.size w w') (l_user : 0 ≤ u) (u_user : u ≤ 7) (l_address : a < 0) :
    Calls Tryz.prog 69 #[.agg #[.int .i64 k, .int .i64 u, .int .i64 s, .int .i64 a, .int .i64 x, .int .i64 y, .int .i64 z, .int .i64 t]] w fun e w' => e = .returned (.bool false) ∧ Below w.heap.size w w' := by
  have HP := Lib.hid HP
  have dl_user : decide (u < 0) = false := by simp; omega
  have du_user : decide ((8 : Int) ≤ u) = false := by simp; omega
  have dl_address : decide (a < 0) = true := by simp; omega
  go_enter Tryz.func69, Tryz.ntmps69
  go_wp2_with (first | (go_at_call 88; (with_reducible refine (HP.out _).mono ?_); rintro e w1 ⟨rfl, hb⟩; have kp := (Blk.new _ _ _).step hb; have e1 := kp.cell; have g1 := kp.froz; have l1 := kp.lt; have hB := ((Below.refl w.heap.size w).alloc (Nat.le_refl _) (.cells #[.int .i64 k, .int .i64 u, .int .i64 s, .int .i64 a, .int .i64 x, .int .i64 y, .int .i64 z, .int .i64 t] 61)).trans (hb.mono (by simp)); clear hb))
  go_ret
  exact ⟨rfl, by (repeat (first | exact hB | (with_reducible refine Below.setCell ?_ (by (try simp) <;> omega) _) | (with_reducible refine Below.alloc ?_ (by (try simp) <;> omega) _)))⟩
set_option maxHeartbeats 2000000 in
theorem remay_bad3 (k : Int) (u s a x y z t : Int) (w : World) (HP : ∀ w, Calls Tryz.prog 88 #[.agg #[.int .i64 k, .int .i64 u, .int .i64 s, .int .i64 a, .int .i64 x, .int .i64 y, .int .i64 z, .int .i64 t]] w fun e w' => e = .returned (.tuple #[.agg #[.int .i64 k, .int .i64 u, .int .i64 s, .int .i64 a, .int .i64 x, .int .i64 y, .int .i64 z, .int .i64 t], .bool true]) ∧ Below w.heap.size w w') (l_user : 0 ≤ u) (u_user : u ≤ 7) (l_address : 0 ≤ a) (u_address : 15 < a) :
    Calls Tryz.prog 69 #[.agg #[.int .i64 k, .int .i64 u, .int .i64 s, .int .i64 a, .int .i64 x, .int .i64 y, .int .i64 z, .int .i64 t]] w fun e w' => e = .returned (.bool false) ∧ Below w.heap.size w w' := by
  have HP := Lib.hid HP
  have dl_user : decide (u < 0) = false := by simp; omega
  have du_user : decide ((8 : Int) ≤ u) = false := by simp; omega
  have dl_address : decide (a < 0) = false := by simp; omega
  have du_address : decide ((16 : Int) ≤ a) = true := by simp; omega
  go_enter Tryz.func69, Tryz.ntmps69
  go_wp2_with (first | (go_at_call 88; (with_reducible refine (HP.out _).mono ?_); rintro e w1 ⟨rfl, hb⟩; have kp := (Blk.new _ _ _).step hb; have e1 := kp.cell; have g1 := kp.froz; have l1 := kp.lt; have hB := ((Below.refl w.heap.size w).alloc (Nat.le_refl _) (.cells #[.int .i64 k, .int .i64 u, .int .i64 s, .int .i64 a, .int .i64 x, .int .i64 y, .int .i64 z, .int .i64 t] 61)).trans (hb.mono (by simp)); clear hb))
  go_ret
  exact ⟨rfl, by (repeat (first | exact hB | (with_reducible refine Below.setCell ?_ (by (try simp) <;> omega) _) | (with_reducible refine Below.alloc ?_ (by (try simp) <;> omega) _)))⟩
set_option maxHeartbeats 2000000 in
theorem remay_bad4 (k : Int) (u s a x y z t : Int) (w : World) (HP : ∀ w, Calls Tryz.prog 88 #[.agg #[.int .i64 k, .int .i64 u, .int .i64 s, .int .i64 a, .int .i64 x, .int .i64 y, .int .i64 z, .int .i64 t]] w fun e w' => e = .returned (.tuple #[.agg #[.int .i64 k, .int .i64 u, .int .i64 s, .int .i64 a, .int .i64 x, .int .i64 y, .int .i64 z, .int .i64 t], .bool true]) ∧ Below w.heap.size w w') (l_user : 0 ≤ u) (u_user : u ≤ 7) (l_address : 0 ≤ a) (u_address : a ≤ 15) (l_tick : t < 0) :
    Calls Tryz.prog 69 #[.agg #[.int .i64 k, .int .i64 u, .int .i64 s, .int .i64 a, .int .i64 x, .int .i64 y, .int .i64 z, .int .i64 t]] w fun e w' => e = .returned (.bool false) ∧ Below w.heap.size w w' := by
  have HP := Lib.hid HP
  have dl_user : decide (u < 0) = false := by simp; omega
  have du_user : decide ((8 : Int) ≤ u) = false := by simp; omega
  have dl_address : decide (a < 0) = false := by simp; omega
  have du_address : decide ((16 : Int) ≤ a) = false := by simp; omega
  have dl_tick : decide (t < 0) = true := by simp; omega
  go_enter Tryz.func69, Tryz.ntmps69
  go_wp2_with (first | (go_at_call 88; (with_reducible refine (HP.out _).mono ?_); rintro e w1 ⟨rfl, hb⟩; have kp := (Blk.new _ _ _).step hb; have e1 := kp.cell; have g1 := kp.froz; have l1 := kp.lt; have hB := ((Below.refl w.heap.size w).alloc (Nat.le_refl _) (.cells #[.int .i64 k, .int .i64 u, .int .i64 s, .int .i64 a, .int .i64 x, .int .i64 y, .int .i64 z, .int .i64 t] 61)).trans (hb.mono (by simp)); clear hb))
  go_ret
  exact ⟨rfl, by (repeat (first | exact hB | (with_reducible refine Below.setCell ?_ (by (try simp) <;> omega) _) | (with_reducible refine Below.alloc ?_ (by (try simp) <;> omega) _)))⟩
set_option maxHeartbeats 2000000 in
theorem remay_bad5 (k : Int) (u s a x y z t : Int) (w : World) (HP : ∀ w, Calls Tryz.prog 88 #[.agg #[.int .i64 k, .int .i64 u, .int .i64 s, .int .i64 a, .int .i64 x, .int .i64 y, .int .i64 z, .int .i64 t]] w fun e w' => e = .returned (.tuple #[.agg #[.int .i64 k, .int .i64 u, .int .i64 s, .int .i64 a, .int .i64 x, .int .i64 y, .int .i64 z, .int .i64 t], .bool true]) ∧ Below w.heap.size w w') (l_user : 0 ≤ u) (u_user : u ≤ 7) (l_address : 0 ≤ a) (u_address : a ≤ 15) (l_tick : 0 ≤ t) (u_tick : 1048575 < t) :
    Calls Tryz.prog 69 #[.agg #[.int .i64 k, .int .i64 u, .int .i64 s, .int .i64 a, .int .i64 x, .int .i64 y, .int .i64 z, .int .i64 t]] w fun e w' => e = .returned (.bool false) ∧ Below w.heap.size w w' := by
  have HP := Lib.hid HP
  have dl_user : decide (u < 0) = false := by simp; omega
  have du_user : decide ((8 : Int) ≤ u) = false := by simp; omega
  have dl_address : decide (a < 0) = false := by simp; omega
  have du_address : decide ((16 : Int) ≤ a) = false := by simp; omega
  have dl_tick : decide (t < 0) = false := by simp; omega
  have du_tick : decide ((1048575 : Int) < t) = true := by simp; omega
  go_enter Tryz.func69, Tryz.ntmps69
  go_wp2_with (first | (go_at_call 88; (with_reducible refine (HP.out _).mono ?_); rintro e w1 ⟨rfl, hb⟩; have kp := (Blk.new _ _ _).step hb; have e1 := kp.cell; have g1 := kp.froz; have l1 := kp.lt; have hB := ((Below.refl w.heap.size w).alloc (Nat.le_refl _) (.cells #[.int .i64 k, .int .i64 u, .int .i64 s, .int .i64 a, .int .i64 x, .int .i64 y, .int .i64 z, .int .i64 t] 61)).trans (hb.mono (by simp)); clear hb))
  go_ret
  exact ⟨rfl, by (repeat (first | exact hB | (with_reducible refine Below.setCell ?_ (by (try simp) <;> omega) _) | (with_reducible refine Below.alloc ?_ (by (try simp) <;> omega) _)))⟩
set_option maxHeartbeats 2000000 in
theorem remay_bad6 (k : Int) (u s a x y z t : Int) (w : World) (HP : ∀ w, Calls Tryz.prog 88 #[.agg #[.int .i64 k, .int .i64 u, .int .i64 s, .int .i64 a, .int .i64 x, .int .i64 y, .int .i64 z, .int .i64 t]] w fun e w' => e = .returned (.tuple #[.agg #[.int .i64 k, .int .i64 u, .int .i64 s, .int .i64 a, .int .i64 x, .int .i64 y, .int .i64 z, .int .i64 t], .bool true]) ∧ Below w.heap.size w w') (l_user : 0 ≤ u) (u_user : u ≤ 7) (l_address : 0 ≤ a) (u_address : a ≤ 15) (l_tick : 0 ≤ t) (u_tick : t ≤ 1048575) (n_session : okNum s = false) :
    Calls Tryz.prog 69 #[.agg #[.int .i64 k, .int .i64 u, .int .i64 s, .int .i64 a, .int .i64 x, .int .i64 y, .int .i64 z, .int .i64 t]] w fun e w' => e = .returned (.bool false) ∧ Below w.heap.size w w' := by
  have HP := Lib.hid HP
  have dl_user : decide (u < 0) = false := by simp; omega
  have du_user : decide ((8 : Int) ≤ u) = false := by simp; omega
  have dl_address : decide (a < 0) = false := by simp; omega
  have du_address : decide ((16 : Int) ≤ a) = false := by simp; omega
  have dl_tick : decide (t < 0) = false := by simp; omega
  have du_tick : decide ((1048575 : Int) < t) = false := by simp; omega
  have N_session := Lib.hid (rnumb s false n_session)
  clear n_session
  go_enter Tryz.func69, Tryz.ntmps69
  go_wp2_with (first | (go_at_call 88; (with_reducible refine (HP.out _).mono ?_); rintro e w1 ⟨rfl, hb⟩; have kp := (Blk.new _ _ _).step hb; have e1 := kp.cell; have g1 := kp.froz; have l1 := kp.lt; have hB := ((Below.refl w.heap.size w).alloc (Nat.le_refl _) (.cells #[.int .i64 k, .int .i64 u, .int .i64 s, .int .i64 a, .int .i64 x, .int .i64 y, .int .i64 z, .int .i64 t] 61)).trans (hb.mono (by simp)); clear hb) | (go_at_call 89; ((with_reducible refine (N_session.out _).mono ?_); rintro e w1 ⟨rfl, rfl⟩)))
  go_ret
  exact ⟨rfl, by (repeat (first | exact hB | (with_reducible refine Below.setCell ?_ (by (try simp) <;> omega) _) | (with_reducible refine Below.alloc ?_ (by (try simp) <;> omega) _)))⟩
set_option maxHeartbeats 2000000 in
theorem remay_bad7 (k : Int) (u s a x y z t : Int) (w : World) (HP : ∀ w, Calls Tryz.prog 88 #[.agg #[.int .i64 k, .int .i64 u, .int .i64 s, .int .i64 a, .int .i64 x, .int .i64 y, .int .i64 z, .int .i64 t]] w fun e w' => e = .returned (.tuple #[.agg #[.int .i64 k, .int .i64 u, .int .i64 s, .int .i64 a, .int .i64 x, .int .i64 y, .int .i64 z, .int .i64 t], .bool true]) ∧ Below w.heap.size w w') (l_user : 0 ≤ u) (u_user : u ≤ 7) (l_address : 0 ≤ a) (u_address : a ≤ 15) (l_tick : 0 ≤ t) (u_tick : t ≤ 1048575) (n_session : okNum s = true) (n_a : okNum x = false) :
    Calls Tryz.prog 69 #[.agg #[.int .i64 k, .int .i64 u, .int .i64 s, .int .i64 a, .int .i64 x, .int .i64 y, .int .i64 z, .int .i64 t]] w fun e w' => e = .returned (.bool false) ∧ Below w.heap.size w w' := by
  have HP := Lib.hid HP
  have dl_user : decide (u < 0) = false := by simp; omega
  have du_user : decide ((8 : Int) ≤ u) = false := by simp; omega
  have dl_address : decide (a < 0) = false := by simp; omega
  have du_address : decide ((16 : Int) ≤ a) = false := by simp; omega
  have dl_tick : decide (t < 0) = false := by simp; omega
  have du_tick : decide ((1048575 : Int) < t) = false := by simp; omega
  have N_session := Lib.hid (rnumb s true n_session)
  clear n_session
  have N_a := Lib.hid (rnumb x false n_a)
  clear n_a
  go_enter Tryz.func69, Tryz.ntmps69
  go_wp2_with (first | (go_at_call 88; (with_reducible refine (HP.out _).mono ?_); rintro e w1 ⟨rfl, hb⟩; have kp := (Blk.new _ _ _).step hb; have e1 := kp.cell; have g1 := kp.froz; have l1 := kp.lt; have hB := ((Below.refl w.heap.size w).alloc (Nat.le_refl _) (.cells #[.int .i64 k, .int .i64 u, .int .i64 s, .int .i64 a, .int .i64 x, .int .i64 y, .int .i64 z, .int .i64 t] 61)).trans (hb.mono (by simp)); clear hb) | (go_at_call 89; first | ((with_reducible refine (N_session.out _).mono ?_); rintro e w1 ⟨rfl, rfl⟩) | ((with_reducible refine (N_a.out _).mono ?_); rintro e w1 ⟨rfl, rfl⟩)))
  go_ret
  exact ⟨rfl, by (repeat (first | exact hB | (with_reducible refine Below.setCell ?_ (by (try simp) <;> omega) _) | (with_reducible refine Below.alloc ?_ (by (try simp) <;> omega) _)))⟩
set_option maxHeartbeats 2000000 in
theorem remay_bad8 (k : Int) (u s a x y z t : Int) (w : World) (HP : ∀ w, Calls Tryz.prog 88 #[.agg #[.int .i64 k, .int .i64 u, .int .i64 s, .int .i64 a, .int .i64 x, .int .i64 y, .int .i64 z, .int .i64 t]] w fun e w' => e = .returned (.tuple #[.agg #[.int .i64 k, .int .i64 u, .int .i64 s, .int .i64 a, .int .i64 x, .int .i64 y, .int .i64 z, .int .i64 t], .bool true]) ∧ Below w.heap.size w w') (l_user : 0 ≤ u) (u_user : u ≤ 7) (l_address : 0 ≤ a) (u_address : a ≤ 15) (l_tick : 0 ≤ t) (u_tick : t ≤ 1048575) (n_session : okNum s = true) (n_a : okNum x = true) (n_b : okNum y = false) :
    Calls Tryz.prog 69 #[.agg #[.int .i64 k, .int .i64 u, .int .i64 s, .int .i64 a, .int .i64 x, .int .i64 y, .int .i64 z, .int .i64 t]] w fun e w' => e = .returned (.bool false) ∧ Below w.heap.size w w' := by
  have HP := Lib.hid HP
  have dl_user : decide (u < 0) = false := by simp; omega
  have du_user : decide ((8 : Int) ≤ u) = false := by simp; omega
  have dl_address : decide (a < 0) = false := by simp; omega
  have du_address : decide ((16 : Int) ≤ a) = false := by simp; omega
  have dl_tick : decide (t < 0) = false := by simp; omega
  have du_tick : decide ((1048575 : Int) < t) = false := by simp; omega
  have N_session := Lib.hid (rnumb s true n_session)
  clear n_session
  have N_a := Lib.hid (rnumb x true n_a)
  clear n_a
  have N_b := Lib.hid (rnumb y false n_b)
  clear n_b
  go_enter Tryz.func69, Tryz.ntmps69
  go_wp2_with (first | (go_at_call 88; (with_reducible refine (HP.out _).mono ?_); rintro e w1 ⟨rfl, hb⟩; have kp := (Blk.new _ _ _).step hb; have e1 := kp.cell; have g1 := kp.froz; have l1 := kp.lt; have hB := ((Below.refl w.heap.size w).alloc (Nat.le_refl _) (.cells #[.int .i64 k, .int .i64 u, .int .i64 s, .int .i64 a, .int .i64 x, .int .i64 y, .int .i64 z, .int .i64 t] 61)).trans (hb.mono (by simp)); clear hb) | (go_at_call 89; first | ((with_reducible refine (N_session.out _).mono ?_); rintro e w1 ⟨rfl, rfl⟩) | ((with_reducible refine (N_a.out _).mono ?_); rintro e w1 ⟨rfl, rfl⟩) | ((with_reducible refine (N_b.out _).mono ?_); rintro e w1 ⟨rfl, rfl⟩)))
  go_ret
  exact ⟨rfl, by (repeat (first | exact hB | (with_reducible refine Below.setCell ?_ (by (try simp) <;> omega) _) | (with_reducible refine Below.alloc ?_ (by (try simp) <;> omega) _)))⟩
set_option maxHeartbeats 2000000 in
theorem remay_bad9 (k : Int) (u s a x y z t : Int) (w : World) (HP : ∀ w, Calls Tryz.prog 88 #[.agg #[.int .i64 k, .int .i64 u, .int .i64 s, .int .i64 a, .int .i64 x, .int .i64 y, .int .i64 z, .int .i64 t]] w fun e w' => e = .returned (.tuple #[.agg #[.int .i64 k, .int .i64 u, .int .i64 s, .int .i64 a, .int .i64 x, .int .i64 y, .int .i64 z, .int .i64 t], .bool true]) ∧ Below w.heap.size w w') (l_user : 0 ≤ u) (u_user : u ≤ 7) (l_address : 0 ≤ a) (u_address : a ≤ 15) (l_tick : 0 ≤ t) (u_tick : t ≤ 1048575) (n_session : okNum s = true) (n_a : okNum x = true) (n_b : okNum y = true) (l_c : z < 0) :
    Calls Tryz.prog 69 #[.agg #[.int .i64 k, .int .i64 u, .int .i64 s, .int .i64 a, .int .i64 x, .int .i64 y, .int .i64 z, .int .i64 t]] w fun e w' => e = .returned (.bool false) ∧ Below w.heap.size w w' := by
  have HP := Lib.hid HP
  have dl_user : decide (u < 0) = false := by simp; omega
  have du_user : decide ((8 : Int) ≤ u) = false := by simp; omega
  have dl_address : decide (a < 0) = false := by simp; omega
  have du_address : decide ((16 : Int) ≤ a) = false := by simp; omega
  have dl_tick : decide (t < 0) = false := by simp; omega
  have du_tick : decide ((1048575 : Int) < t) = false := by simp; omega
  have N_session := Lib.hid (rnumb s true n_session)
  clear n_session
  have N_a := Lib.hid (rnumb x true n_a)
  clear n_a
  have N_b := Lib.hid (rnumb y true n_b)
  clear n_b
  have dl_c : decide (z < 0) = true := by simp; omega
  go_enter Tryz.func69, Tryz.ntmps69
  go_wp2_with (first | (go_at_call 88; (with_reducible refine (HP.out _).mono ?_); rintro e w1 ⟨rfl, hb⟩; have kp := (Blk.new _ _ _).step hb; have e1 := kp.cell; have g1 := kp.froz; have l1 := kp.lt; have hB := ((Below.refl w.heap.size w).alloc (Nat.le_refl _) (.cells #[.int .i64 k, .int .i64 u, .int .i64 s, .int .i64 a, .int .i64 x, .int .i64 y, .int .i64 z, .int .i64 t] 61)).trans (hb.mono (by simp)); clear hb) | (go_at_call 89; first | ((with_reducible refine (N_session.out _).mono ?_); rintro e w1 ⟨rfl, rfl⟩) | ((with_reducible refine (N_a.out _).mono ?_); rintro e w1 ⟨rfl, rfl⟩) | ((with_reducible refine (N_b.out _).mono ?_); rintro e w1 ⟨rfl, rfl⟩)))
  go_ret
  exact ⟨rfl, by (repeat (first | exact hB | (with_reducible refine Below.setCell ?_ (by (try simp) <;> omega) _) | (with_reducible refine Below.alloc ?_ (by (try simp) <;> omega) _)))⟩
set_option maxHeartbeats 2000000 in
theorem remay_bad10 (k : Int) (u s a x y z t : Int) (w : World) (HP : ∀ w, Calls Tryz.prog 88 #[.agg #[.int .i64 k, .int .i64 u, .int .i64 s, .int .i64 a, .int .i64 x, .int .i64 y, .int .i64 z, .int .i64 t]] w fun e w' => e = .returned (.tuple #[.agg #[.int .i64 k, .int .i64 u, .int .i64 s, .int .i64 a, .int .i64 x, .int .i64 y, .int .i64 z, .int .i64 t], .bool true]) ∧ Below w.heap.size w w') (l_user : 0 ≤ u) (u_user : u ≤ 7) (l_address : 0 ≤ a) (u_address : a ≤ 15) (l_tick : 0 ≤ t) (u_tick : t ≤ 1048575) (n_session : okNum s = true) (n_a : okNum x = true) (n_b : okNum y = true) (l_c : 0 ≤ z) (u_c : 1048576 < z) :
    Calls Tryz.prog 69 #[.agg #[.int .i64 k, .int .i64 u, .int .i64 s, .int .i64 a, .int .i64 x, .int .i64 y, .int .i64 z, .int .i64 t]] w fun e w' => e = .returned (.bool false) ∧ Below w.heap.size w w' := by
  have HP := Lib.hid HP
  have dl_user : decide (u < 0) = false := by simp; omega
  have du_user : decide ((8 : Int) ≤ u) = false := by simp; omega
  have dl_address : decide (a < 0) = false := by simp; omega
  have du_address : decide ((16 : Int) ≤ a) = false := by simp; omega
  have dl_tick : decide (t < 0) = false := by simp; omega
  have du_tick : decide ((1048575 : Int) < t) = false := by simp; omega
  have N_session := Lib.hid (rnumb s true n_session)
  clear n_session
  have N_a := Lib.hid (rnumb x true n_a)
  clear n_a
  have N_b := Lib.hid (rnumb y true n_b)
  clear n_b
  have dl_c : decide (z < 0) = false := by simp; omega
  have du_c : decide ((1048576 : Int) < z) = true := by simp; omega
  go_enter Tryz.func69, Tryz.ntmps69
  go_wp2_with (first | (go_at_call 88; (with_reducible refine (HP.out _).mono ?_); rintro e w1 ⟨rfl, hb⟩; have kp := (Blk.new _ _ _).step hb; have e1 := kp.cell; have g1 := kp.froz; have l1 := kp.lt; have hB := ((Below.refl w.heap.size w).alloc (Nat.le_refl _) (.cells #[.int .i64 k, .int .i64 u, .int .i64 s, .int .i64 a, .int .i64 x, .int .i64 y, .int .i64 z, .int .i64 t] 61)).trans (hb.mono (by simp)); clear hb) | (go_at_call 89; first | ((with_reducible refine (N_session.out _).mono ?_); rintro e w1 ⟨rfl, rfl⟩) | ((with_reducible refine (N_a.out _).mono ?_); rintro e w1 ⟨rfl, rfl⟩) | ((with_reducible refine (N_b.out _).mono ?_); rintro e w1 ⟨rfl, rfl⟩)))
  go_ret
  exact ⟨rfl, by (repeat (first | exact hB | (with_reducible refine Below.setCell ?_ (by (try simp) <;> omega) _) | (with_reducible refine Below.alloc ?_ (by (try simp) <;> omega) _)))⟩
open Go Go.RowKit
set_option maxHeartbeats 2000000 in
theorem remay_ok6 (u s a x y z t : Int) (w : World) (HP : ∀ w, Calls Tryz.prog 88 #[.agg #[.int .i64 6, .int .i64 u, .int .i64 s, .int .i64 a, .int .i64 x, .int .i64 y, .int .i64 z, .int .i64 t]] w fun e w' => e = .returned (.tuple #[.agg #[.int .i64 6, .int .i64 u, .int .i64 s, .int .i64 a, .int .i64 x, .int .i64 y, .int .i64 z, .int .i64 t], .bool true]) ∧ Below w.heap.size w w') (l_user : 0 ≤ u) (u_user : u ≤ 7) (l_address : 0 ≤ a) (u_address : a ≤ 15) (l_tick : 0 ≤ t) (u_tick : t ≤ 1048575) (n_session : okNum s = true) (n_a : okNum x = true) (n_b : okNum y = true) (l_c : 0 ≤ z) (u_c : z ≤ 1048576) :
    Calls Tryz.prog 69 #[.agg #[.int .i64 6, .int .i64 u, .int .i64 s, .int .i64 a, .int .i64 x, .int .i64 y, .int .i64 z, .int .i64 t]] w fun e w' => e = .returned (.bool (decide (y ≤ 4))) ∧ Below w.heap.size w w' := by
  have HP := Lib.hid HP
  have dl_user : decide (u < 0) = false := by simp; omega
  have du_user : decide ((8 : Int) ≤ u) = false := by simp; omega
  have dl_address : decide (a < 0) = false := by simp; omega
  have du_address : decide ((16 : Int) ≤ a) = false := by simp; omega
  have dl_tick : decide (t < 0) = false := by simp; omega
  have du_tick : decide ((1048575 : Int) < t) = false := by simp; omega
  have N_session := Lib.hid (rnumb s true n_session)
  clear n_session
  have N_a := Lib.hid (rnumb x true n_a)
  clear n_a
  have N_b := Lib.hid (rnumb y true n_b)
  clear n_b
  have dl_c : decide (z < 0) = false := by simp; omega
  have du_c : decide ((1048576 : Int) < z) = false := by simp; omega
  go_enter Tryz.func69, Tryz.ntmps69
  go_wp2_with (first | (go_at_call 88; (with_reducible refine (HP.out _).mono ?_); rintro e w1 ⟨rfl, hb⟩; have kp := (Blk.new _ _ _).step hb; have e1 := kp.cell; have g1 := kp.froz; have l1 := kp.lt; have hB := ((Below.refl w.heap.size w).alloc (Nat.le_refl _) (.cells #[.int .i64 6, .int .i64 u, .int .i64 s, .int .i64 a, .int .i64 x, .int .i64 y, .int .i64 z, .int .i64 t] 61)).trans (hb.mono (by simp)); clear hb) | (go_at_call 89; first | ((with_reducible refine (N_session.out _).mono ?_); rintro e w1 ⟨rfl, rfl⟩) | ((with_reducible refine (N_a.out _).mono ?_); rintro e w1 ⟨rfl, rfl⟩) | ((with_reducible refine (N_b.out _).mono ?_); rintro e w1 ⟨rfl, rfl⟩)))
  go_ret
  exact ⟨rfl, by (repeat (first | exact hB | (with_reducible refine Below.setCell ?_ (by (try simp) <;> omega) _) | (with_reducible refine Below.alloc ?_ (by (try simp) <;> omega) _)))⟩
set_option maxHeartbeats 2000000 in
theorem remay_ok (k : Int) (u s a x y z t : Int) (w : World) (HP : ∀ w, Calls Tryz.prog 88 #[.agg #[.int .i64 k, .int .i64 u, .int .i64 s, .int .i64 a, .int .i64 x, .int .i64 y, .int .i64 z, .int .i64 t]] w fun e w' => e = .returned (.tuple #[.agg #[.int .i64 k, .int .i64 u, .int .i64 s, .int .i64 a, .int .i64 x, .int .i64 y, .int .i64 z, .int .i64 t], .bool true]) ∧ Below w.heap.size w w') (l_user : 0 ≤ u) (u_user : u ≤ 7) (l_address : 0 ≤ a) (u_address : a ≤ 15) (l_tick : 0 ≤ t) (u_tick : t ≤ 1048575) (n_session : okNum s = true) (n_a : okNum x = true) (n_b : okNum y = true) (l_c : 0 ≤ z) (u_c : z ≤ 1048576) (hk : k ≠ 6) :
    Calls Tryz.prog 69 #[.agg #[.int .i64 k, .int .i64 u, .int .i64 s, .int .i64 a, .int .i64 x, .int .i64 y, .int .i64 z, .int .i64 t]] w fun e w' => e = .returned (.bool true) ∧ Below w.heap.size w w' := by
  have HP := Lib.hid HP
  have dl_user : decide (u < 0) = false := by simp; omega
  have du_user : decide ((8 : Int) ≤ u) = false := by simp; omega
  have dl_address : decide (a < 0) = false := by simp; omega
  have du_address : decide ((16 : Int) ≤ a) = false := by simp; omega
  have dl_tick : decide (t < 0) = false := by simp; omega
  have du_tick : decide ((1048575 : Int) < t) = false := by simp; omega
  have N_session := Lib.hid (rnumb s true n_session)
  clear n_session
  have N_a := Lib.hid (rnumb x true n_a)
  clear n_a
  have N_b := Lib.hid (rnumb y true n_b)
  clear n_b
  have dl_c : decide (z < 0) = false := by simp; omega
  have du_c : decide ((1048576 : Int) < z) = false := by simp; omega
  have gk : (k != 6) = true := by simpa using hk
  have gk2 : (k == 6) = false := by simpa using hk
  clear hk
  go_enter Tryz.func69, Tryz.ntmps69
  go_wp2_with (first | (go_at_call 88; (with_reducible refine (HP.out _).mono ?_); rintro e w1 ⟨rfl, hb⟩; have kp := (Blk.new _ _ _).step hb; have e1 := kp.cell; have g1 := kp.froz; have l1 := kp.lt; have hB := ((Below.refl w.heap.size w).alloc (Nat.le_refl _) (.cells #[.int .i64 k, .int .i64 u, .int .i64 s, .int .i64 a, .int .i64 x, .int .i64 y, .int .i64 z, .int .i64 t] 61)).trans (hb.mono (by simp)); clear hb) | (go_at_call 89; first | ((with_reducible refine (N_session.out _).mono ?_); rintro e w1 ⟨rfl, rfl⟩) | ((with_reducible refine (N_a.out _).mono ?_); rintro e w1 ⟨rfl, rfl⟩) | ((with_reducible refine (N_b.out _).mono ?_); rintro e w1 ⟨rfl, rfl⟩)))
  go_ret
  exact ⟨rfl, by (repeat (first | exact hB | (with_reducible refine Below.setCell ?_ (by (try simp) <;> omega) _) | (with_reducible refine Below.alloc ?_ (by (try simp) <;> omega) _)))⟩
theorem remay_rng {p : Ev} (h : p.rng = false) : p.may = false := by unfold Ev.may; rw [h]; rfl
set_option maxHeartbeats 2000000 in
theorem remay (p : Ev) (w : World) : Calls Tryz.prog 69 #[p.val] w fun e w' => e = .returned (.bool p.may) ∧ Below w.heap.size w w' := by
  have HP := fun w => remay_part p w
  cases hp : p.part with
  | none =>
    rw [show p.pi = false by unfold Ev.pi; rw [hp]; rfl] at HP
    rw [show p.may = false by unfold Ev.may; rw [hp]; simp]
    generalize p.pv = v at *
    obtain ⟨k, u, s, a, x, y, z, t⟩ := p
    obtain ⟨k2, y1, y2, y3, y4, y5, y6, y7⟩ := v
    exact remay_no k u s a x y z t k2 y1 y2 y3 y4 y5 y6 y7 w HP
  | some v =>
    rw [show p.pi = true by unfold Ev.pi; rw [hp]; rfl, show p.pv = v by unfold Ev.pv; rw [hp]; rfl] at HP
    by_cases hv : v = p
    · subst hv
      obtain ⟨k, u, s, a, x, y, z, t⟩ := v
      by_cases l_user : u < 0
      · rw [remay_rng (by unfold Ev.rng; simp; omega)]; exact remay_bad0 k u s a x y z t w HP l_user
      replace l_user : 0 ≤ u := by omega
      by_cases u_user : 7 < u
      · rw [remay_rng (by unfold Ev.rng; simp; omega)]; exact remay_bad1 k u s a x y z t w HP l_user u_user
      replace u_user : u ≤ 7 := by omega
      by_cases l_address : a < 0
      · rw [remay_rng (by unfold Ev.rng; simp; omega)]; exact remay_bad2 k u s a x y z t w HP l_user u_user l_address
      replace l_address : 0 ≤ a := by omega
      by_cases u_address : 15 < a
      · rw [remay_rng (by unfold Ev.rng; simp; omega)]; exact remay_bad3 k u s a x y z t w HP l_user u_user l_address u_address
      replace u_address : a ≤ 15 := by omega
      by_cases l_tick : t < 0
      · rw [remay_rng (by unfold Ev.rng; simp; omega)]; exact remay_bad4 k u s a x y z t w HP l_user u_user l_address u_address l_tick
      replace l_tick : 0 ≤ t := by omega
      by_cases u_tick : 1048575 < t
      · rw [remay_rng (by unfold Ev.rng; simp; omega)]; exact remay_bad5 k u s a x y z t w HP l_user u_user l_address u_address l_tick u_tick
      replace u_tick : t ≤ 1048575 := by omega
      by_cases n_session : okNum s = false
      · rw [remay_rng (by unfold Ev.rng; simp [n_session])]; exact remay_bad6 k u s a x y z t w HP l_user u_user l_address u_address l_tick u_tick n_session
      replace n_session : okNum s = true := by simpa using n_session
      by_cases n_a : okNum x = false
      · rw [remay_rng (by unfold Ev.rng; simp [n_a])]; exact remay_bad7 k u s a x y z t w HP l_user u_user l_address u_address l_tick u_tick n_session n_a
      replace n_a : okNum x = true := by simpa using n_a
      by_cases n_b : okNum y = false
      · rw [remay_rng (by unfold Ev.rng; simp [n_b])]; exact remay_bad8 k u s a x y z t w HP l_user u_user l_address u_address l_tick u_tick n_session n_a n_b
      replace n_b : okNum y = true := by simpa using n_b
      by_cases l_c : z < 0
      · rw [remay_rng (by unfold Ev.rng; simp; omega)]; exact remay_bad9 k u s a x y z t w HP l_user u_user l_address u_address l_tick u_tick n_session n_a n_b l_c
      replace l_c : 0 ≤ z := by omega
      by_cases u_c : 1048576 < z
      · rw [remay_rng (by unfold Ev.rng; simp; omega)]; exact remay_bad10 k u s a x y z t w HP l_user u_user l_address u_address l_tick u_tick n_session n_a n_b l_c u_c
      replace u_c : z ≤ 1048576 := by omega
      have hr : (Ev.mk k u s a x y z t).rng = true := (Ev.rng_iff _).2 ⟨l_user, u_user, l_address, u_address, l_tick, u_tick, l_c, u_c, n_session, n_a, n_b⟩
      have hm : (Ev.mk k u s a x y z t).may = (Ev.mk k u s a x y z t).lim := by unfold Ev.may; rw [hr, hp]; simp
      rw [hm]
      by_cases hk : k = 6
      · subst hk
        rw [show (Ev.mk 6 u s a x y z t).lim = decide (y ≤ 4) by simp [Ev.lim]]
        exact remay_ok6 u s a x y z t w HP l_user u_user l_address u_address l_tick u_tick n_session n_a n_b l_c u_c
      · rw [show (Ev.mk k u s a x y z t).lim = true by simp [Ev.lim, hk]]
        exact remay_ok k u s a x y z t w HP l_user u_user l_address u_address l_tick u_tick n_session n_a n_b l_c u_c hk
    · rw [show p.may = false by unfold Ev.may; rw [hp]; simp [hv]]
      obtain ⟨k, u, s, a, x, y, z, t⟩ := p
      obtain ⟨k2, y1, y2, y3, y4, y5, y6, y7⟩ := v
      exact remay_ne k u s a x y z t k2 y1 y2 y3 y4 y5 y6 y7 w HP (fun e0 e1 e2 e3 e4 e5 e6 e7 => hv (by rw [e0, e1, e2, e3, e4, e5, e6, e7]))
open Go Go.RowKit
theorem reput_no (p : Ev) (w : World) (hm : p.may = false) : Calls Tryz.prog 90 #[p.val] w fun e w' => e = .returned (.tuple #[.string ⟨#[]⟩, .int .i64 700]) ∧ Below w.heap.size w w' := by
  have HM := fun w => remay p w
  rw [hm] at HM
  obtain ⟨k, u, s, a, x, y, z, t⟩ := p
  have HM := Lib.hid (HM)
  unfold Ev.val at HM
  unfold Ev.val
  clear hm
  go_enter Tryz.func90, Tryz.ntmps90
  go_wp2_with (go_at_call 69; (with_reducible refine (HM.out _).mono ?_); rintro e w1 ⟨rfl, hb⟩; have hS := (Held.start w _).step hb)
  go_ret2
  exact ⟨rfl, hS.bel⟩
set_option maxHeartbeats 4000000 in
theorem reput_0 (t : Int) (w : World) (r_t : okNum t = true) (hm : (Ev.mk 0 0 0 0 0 0 0 t).may = true) :
    Calls Tryz.prog 90 #[(Ev.mk 0 0 0 0 0 0 0 t).val] w fun e w' => e = .returned (.tuple #[.string (encL (.n 0 :: [.n t])), .int .i64 0]) ∧ Below w.heap.size w w' := by
  have hM := fun w => remay (Ev.mk 0 0 0 0 0 0 0 t) w
  rw [hm] at hM
  have H1 := Lib.hid (fun w => rn1 0 3 w (by decide) (by decide))
  have z1 : (numsB [0]).size ≤ 5 := numsB_size [0]
  have H2 := Lib.hid (fun w => rn1 t 3 w (okn r_t).1 (okn r_t).2)
  have z2 : (numsB [t]).size ≤ 5 := numsB_size [t]
  have HF := Lib.hid (enc_nums 0 [t])
  have HM := Lib.hid hM
  unfold Ev.val at HM
  unfold Ev.val
  clear hm hM r_t
  generalize numsB [0] = e1 at *
  generalize numsB [t] = e2 at *
  go_enter Tryz.func90, Tryz.ntmps90
  go_wp2_with (first
    | (go_at_call 69; (with_reducible refine (HM.out _).mono ?_); rintro e w1 ⟨rfl, hb⟩; have hS := (Held.start w _).step hb; have c0 := hS.cell (i := 0) rfl; have c7 := hS.cell (i := 7) rfl; clear hb)
    | (go_at_call 82; first | ((with_reducible refine (H1.out _).mono ?_); rintro e w1 ⟨rfl, hb⟩; replace hS := hS.step hb; have c0 := hS.cell (i := 0) rfl; have c7 := hS.cell (i := 7) rfl; clear hb) | ((with_reducible refine (H2.out _).mono ?_); rintro e w1 ⟨rfl, hb⟩; replace hS := hS.step hb; have c0 := hS.cell (i := 0) rfl; have c7 := hS.cell (i := 7) rfl; clear hb))
    | fail)
  go_ret2
  exact ⟨ret_s2 HF.out, hS.bel⟩
set_option maxHeartbeats 4000000 in
theorem reput_1 (u x y z : Int) (w : World) (r_u : okNum u = true) (r_x : okNum x = true) (r_y : okNum y = true) (r_z : okNum z = true) (hm : (Ev.mk 1 u 0 0 x y z 0).may = true) :
    Calls Tryz.prog 90 #[(Ev.mk 1 u 0 0 x y z 0).val] w fun e w' => e = .returned (.tuple #[.string (encL (.n 1 :: [.n u, .n x, .n y, .n z])), .int .i64 0]) ∧ Below w.heap.size w w' := by
  have hM := fun w => remay (Ev.mk 1 u 0 0 x y z 0) w
  rw [hm] at hM
  have H1 := Lib.hid (fun w => rn1 1 3 w (by decide) (by decide))
  have z1 : (numsB [1]).size ≤ 5 := numsB_size [1]
  have H2 := Lib.hid (fun w => rn4 u x y z 3 w (okn r_u).1 (okn r_u).2 (okn r_x).1 (okn r_x).2 (okn r_y).1 (okn r_y).2 (okn r_z).1 (okn r_z).2)
  have z2 : (numsB [u, x, y, z]).size ≤ 20 := numsB_size [u, x, y, z]
  have HF := Lib.hid (enc_nums 1 [u, x, y, z])
  have HM := Lib.hid hM
  unfold Ev.val at HM
  unfold Ev.val
  clear hm hM r_u r_x r_y r_z
  generalize numsB [1] = e1 at *
  generalize numsB [u, x, y, z] = e2 at *
  go_enter Tryz.func90, Tryz.ntmps90
  go_wp2_with (first
    | (go_at_call 69; (with_reducible refine (HM.out _).mono ?_); rintro e w1 ⟨rfl, hb⟩; have hS := (Held.start w _).step hb; have c0 := hS.cell (i := 0) rfl; have c1 := hS.cell (i := 1) rfl; have c4 := hS.cell (i := 4) rfl; have c5 := hS.cell (i := 5) rfl; have c6 := hS.cell (i := 6) rfl; clear hb)
    | (go_at_call 82; first | ((with_reducible refine (H1.out _).mono ?_); rintro e w1 ⟨rfl, hb⟩; replace hS := hS.step hb; have c0 := hS.cell (i := 0) rfl; have c1 := hS.cell (i := 1) rfl; have c4 := hS.cell (i := 4) rfl; have c5 := hS.cell (i := 5) rfl; have c6 := hS.cell (i := 6) rfl; clear hb) | ((with_reducible refine (H2.out _).mono ?_); rintro e w1 ⟨rfl, hb⟩; replace hS := hS.step hb; have c0 := hS.cell (i := 0) rfl; have c1 := hS.cell (i := 1) rfl; have c4 := hS.cell (i := 4) rfl; have c5 := hS.cell (i := 5) rfl; have c6 := hS.cell (i := 6) rfl; clear hb))
    | fail)
  go_ret2
  exact ⟨ret_s2 HF.out, hS.bel⟩
set_option maxHeartbeats 4000000 in
theorem reput_2 (u t : Int) (w : World) (r_u : okNum u = true) (r_t : okNum t = true) (hm : (Ev.mk 2 u 0 0 0 0 0 t).may = true) :
    Calls Tryz.prog 90 #[(Ev.mk 2 u 0 0 0 0 0 t).val] w fun e w' => e = .returned (.tuple #[.string (encL (.n 2 :: [.n u, .n t])), .int .i64 0]) ∧ Below w.heap.size w w' := by
  have hM := fun w => remay (Ev.mk 2 u 0 0 0 0 0 t) w
  rw [hm] at hM
  have H1 := Lib.hid (fun w => rn1 2 3 w (by decide) (by decide))
  have z1 : (numsB [2]).size ≤ 5 := numsB_size [2]
  have H2 := Lib.hid (fun w => rn2 u t 3 w (okn r_u).1 (okn r_u).2 (okn r_t).1 (okn r_t).2)
  have z2 : (numsB [u, t]).size ≤ 10 := numsB_size [u, t]
  have HF := Lib.hid (enc_nums 2 [u, t])
  have HM := Lib.hid hM
  unfold Ev.val at HM
  unfold Ev.val
  clear hm hM r_u r_t
  generalize numsB [2] = e1 at *
  generalize numsB [u, t] = e2 at *
  go_enter Tryz.func90, Tryz.ntmps90
  go_wp2_with (first
    | (go_at_call 69; (with_reducible refine (HM.out _).mono ?_); rintro e w1 ⟨rfl, hb⟩; have hS := (Held.start w _).step hb; have c0 := hS.cell (i := 0) rfl; have c1 := hS.cell (i := 1) rfl; have c7 := hS.cell (i := 7) rfl; clear hb)
    | (go_at_call 82; first | ((with_reducible refine (H1.out _).mono ?_); rintro e w1 ⟨rfl, hb⟩; replace hS := hS.step hb; have c0 := hS.cell (i := 0) rfl; have c1 := hS.cell (i := 1) rfl; have c7 := hS.cell (i := 7) rfl; clear hb) | ((with_reducible refine (H2.out _).mono ?_); rintro e w1 ⟨rfl, hb⟩; replace hS := hS.step hb; have c0 := hS.cell (i := 0) rfl; have c1 := hS.cell (i := 1) rfl; have c7 := hS.cell (i := 7) rfl; clear hb))
    | fail)
  go_ret2
  exact ⟨ret_s2 HF.out, hS.bel⟩
set_option maxHeartbeats 4000000 in
theorem reput_3 (u x : Int) (w : World) (r_u : okNum u = true) (r_x : okNum x = true) (hm : (Ev.mk 3 u 0 0 x 0 0 0).may = true) :
    Calls Tryz.prog 90 #[(Ev.mk 3 u 0 0 x 0 0 0).val] w fun e w' => e = .returned (.tuple #[.string (encL (.n 3 :: [.n u, .n x])), .int .i64 0]) ∧ Below w.heap.size w w' := by
  have hM := fun w => remay (Ev.mk 3 u 0 0 x 0 0 0) w
  rw [hm] at hM
  have H1 := Lib.hid (fun w => rn1 3 3 w (by decide) (by decide))
  have z1 : (numsB [3]).size ≤ 5 := numsB_size [3]
  have H2 := Lib.hid (fun w => rn2 u x 3 w (okn r_u).1 (okn r_u).2 (okn r_x).1 (okn r_x).2)
  have z2 : (numsB [u, x]).size ≤ 10 := numsB_size [u, x]
  have HF := Lib.hid (enc_nums 3 [u, x])
  have HM := Lib.hid hM
  unfold Ev.val at HM
  unfold Ev.val
  clear hm hM r_u r_x
  generalize numsB [3] = e1 at *
  generalize numsB [u, x] = e2 at *
  go_enter Tryz.func90, Tryz.ntmps90
  go_wp2_with (first
    | (go_at_call 69; (with_reducible refine (HM.out _).mono ?_); rintro e w1 ⟨rfl, hb⟩; have hS := (Held.start w _).step hb; have c0 := hS.cell (i := 0) rfl; have c1 := hS.cell (i := 1) rfl; have c4 := hS.cell (i := 4) rfl; clear hb)
    | (go_at_call 82; first | ((with_reducible refine (H1.out _).mono ?_); rintro e w1 ⟨rfl, hb⟩; replace hS := hS.step hb; have c0 := hS.cell (i := 0) rfl; have c1 := hS.cell (i := 1) rfl; have c4 := hS.cell (i := 4) rfl; clear hb) | ((with_reducible refine (H2.out _).mono ?_); rintro e w1 ⟨rfl, hb⟩; replace hS := hS.step hb; have c0 := hS.cell (i := 0) rfl; have c1 := hS.cell (i := 1) rfl; have c4 := hS.cell (i := 4) rfl; clear hb))
    | fail)
  go_ret2
  exact ⟨ret_s2 HF.out, hS.bel⟩
set_option maxHeartbeats 4000000 in
theorem reput_4 (u : Int) (w : World) (r_u : okNum u = true) (hm : (Ev.mk 4 u 0 0 0 0 0 0).may = true) :
    Calls Tryz.prog 90 #[(Ev.mk 4 u 0 0 0 0 0 0).val] w fun e w' => e = .returned (.tuple #[.string (encL (.n 4 :: [.n u])), .int .i64 0]) ∧ Below w.heap.size w w' := by
  have hM := fun w => remay (Ev.mk 4 u 0 0 0 0 0 0) w
  rw [hm] at hM
  have H1 := Lib.hid (fun w => rn1 4 3 w (by decide) (by decide))
  have z1 : (numsB [4]).size ≤ 5 := numsB_size [4]
  have H2 := Lib.hid (fun w => rn1 u 3 w (okn r_u).1 (okn r_u).2)
  have z2 : (numsB [u]).size ≤ 5 := numsB_size [u]
  have HF := Lib.hid (enc_nums 4 [u])
  have HM := Lib.hid hM
  unfold Ev.val at HM
  unfold Ev.val
  clear hm hM r_u
  generalize numsB [4] = e1 at *
  generalize numsB [u] = e2 at *
  go_enter Tryz.func90, Tryz.ntmps90
  go_wp2_with (first
    | (go_at_call 69; (with_reducible refine (HM.out _).mono ?_); rintro e w1 ⟨rfl, hb⟩; have hS := (Held.start w _).step hb; have c0 := hS.cell (i := 0) rfl; have c1 := hS.cell (i := 1) rfl; clear hb)
    | (go_at_call 82; first | ((with_reducible refine (H1.out _).mono ?_); rintro e w1 ⟨rfl, hb⟩; replace hS := hS.step hb; have c0 := hS.cell (i := 0) rfl; have c1 := hS.cell (i := 1) rfl; clear hb) | ((with_reducible refine (H2.out _).mono ?_); rintro e w1 ⟨rfl, hb⟩; replace hS := hS.step hb; have c0 := hS.cell (i := 0) rfl; have c1 := hS.cell (i := 1) rfl; clear hb))
    | fail)
  go_ret2
  exact ⟨ret_s2 HF.out, hS.bel⟩
set_option maxHeartbeats 4000000 in
theorem reput_5 (s u a t : Int) (w : World) (r_s : okNum s = true) (r_u : okNum u = true) (r_a : okNum a = true) (r_t : okNum t = true) (hm : (Ev.mk 5 u s a 0 0 0 t).may = true) :
    Calls Tryz.prog 90 #[(Ev.mk 5 u s a 0 0 0 t).val] w fun e w' => e = .returned (.tuple #[.string (encL (.n 5 :: [.n s, .n u, .n a, .n t])), .int .i64 0]) ∧ Below w.heap.size w w' := by
  have hM := fun w => remay (Ev.mk 5 u s a 0 0 0 t) w
  rw [hm] at hM
  have H1 := Lib.hid (fun w => rn1 5 3 w (by decide) (by decide))
  have z1 : (numsB [5]).size ≤ 5 := numsB_size [5]
  have H2 := Lib.hid (fun w => rn4 s u a t 3 w (okn r_s).1 (okn r_s).2 (okn r_u).1 (okn r_u).2 (okn r_a).1 (okn r_a).2 (okn r_t).1 (okn r_t).2)
  have z2 : (numsB [s, u, a, t]).size ≤ 20 := numsB_size [s, u, a, t]
  have HF := Lib.hid (enc_nums 5 [s, u, a, t])
  have HM := Lib.hid hM
  unfold Ev.val at HM
  unfold Ev.val
  clear hm hM r_s r_u r_a r_t
  generalize numsB [5] = e1 at *
  generalize numsB [s, u, a, t] = e2 at *
  go_enter Tryz.func90, Tryz.ntmps90
  go_wp2_with (first
    | (go_at_call 69; (with_reducible refine (HM.out _).mono ?_); rintro e w1 ⟨rfl, hb⟩; have hS := (Held.start w _).step hb; have c0 := hS.cell (i := 0) rfl; have c1 := hS.cell (i := 1) rfl; have c2 := hS.cell (i := 2) rfl; have c3 := hS.cell (i := 3) rfl; have c7 := hS.cell (i := 7) rfl; clear hb)
    | (go_at_call 82; first | ((with_reducible refine (H1.out _).mono ?_); rintro e w1 ⟨rfl, hb⟩; replace hS := hS.step hb; have c0 := hS.cell (i := 0) rfl; have c1 := hS.cell (i := 1) rfl; have c2 := hS.cell (i := 2) rfl; have c3 := hS.cell (i := 3) rfl; have c7 := hS.cell (i := 7) rfl; clear hb) | ((with_reducible refine (H2.out _).mono ?_); rintro e w1 ⟨rfl, hb⟩; replace hS := hS.step hb; have c0 := hS.cell (i := 0) rfl; have c1 := hS.cell (i := 1) rfl; have c2 := hS.cell (i := 2) rfl; have c3 := hS.cell (i := 3) rfl; have c7 := hS.cell (i := 7) rfl; clear hb))
    | fail)
  go_ret2
  exact ⟨ret_s2 HF.out, hS.bel⟩
set_option maxHeartbeats 4000000 in
theorem reput_6 (s x y t : Int) (w : World) (r_s : okNum s = true) (r_x : okNum x = true) (r_y : okNum y = true) (r_t : okNum t = true) (hm : (Ev.mk 6 0 s 0 x y 0 t).may = true) :
    Calls Tryz.prog 90 #[(Ev.mk 6 0 s 0 x y 0 t).val] w fun e w' => e = .returned (.tuple #[.string (encL (.n 6 :: [.n s, .n x, .n y, .n t])), .int .i64 0]) ∧ Below w.heap.size w w' := by
  have hM := fun w => remay (Ev.mk 6 0 s 0 x y 0 t) w
  rw [hm] at hM
  have H1 := Lib.hid (fun w => rn1 6 3 w (by decide) (by decide))
  have z1 : (numsB [6]).size ≤ 5 := numsB_size [6]
  have H2 := Lib.hid (fun w => rn4 s x y t 3 w (okn r_s).1 (okn r_s).2 (okn r_x).1 (okn r_x).2 (okn r_y).1 (okn r_y).2 (okn r_t).1 (okn r_t).2)
  have z2 : (numsB [s, x, y, t]).size ≤ 20 := numsB_size [s, x, y, t]
  have HF := Lib.hid (enc_nums 6 [s, x, y, t])
  have HM := Lib.hid hM
  unfold Ev.val at HM
  unfold Ev.val
  clear hm hM r_s r_x r_y r_t
  generalize numsB [6] = e1 at *
  generalize numsB [s, x, y, t] = e2 at *
  go_enter Tryz.func90, Tryz.ntmps90
  go_wp2_with (first
    | (go_at_call 69; (with_reducible refine (HM.out _).mono ?_); rintro e w1 ⟨rfl, hb⟩; have hS := (Held.start w _).step hb; have c0 := hS.cell (i := 0) rfl; have c2 := hS.cell (i := 2) rfl; have c4 := hS.cell (i := 4) rfl; have c5 := hS.cell (i := 5) rfl; have c7 := hS.cell (i := 7) rfl; clear hb)
    | (go_at_call 82; first | ((with_reducible refine (H1.out _).mono ?_); rintro e w1 ⟨rfl, hb⟩; replace hS := hS.step hb; have c0 := hS.cell (i := 0) rfl; have c2 := hS.cell (i := 2) rfl; have c4 := hS.cell (i := 4) rfl; have c5 := hS.cell (i := 5) rfl; have c7 := hS.cell (i := 7) rfl; clear hb) | ((with_reducible refine (H2.out _).mono ?_); rintro e w1 ⟨rfl, hb⟩; replace hS := hS.step hb; have c0 := hS.cell (i := 0) rfl; have c2 := hS.cell (i := 2) rfl; have c4 := hS.cell (i := 4) rfl; have c5 := hS.cell (i := 5) rfl; have c7 := hS.cell (i := 7) rfl; clear hb))
    | fail)
  go_ret2
  exact ⟨ret_s2 HF.out, hS.bel⟩
set_option maxHeartbeats 4000000 in
theorem reput_7 (u : Int) (w : World) (r_u : okNum u = true) (hm : (Ev.mk 7 u 0 0 0 0 0 0).may = true) :
    Calls Tryz.prog 90 #[(Ev.mk 7 u 0 0 0 0 0 0).val] w fun e w' => e = .returned (.tuple #[.string (encL (.n 7 :: [.n u])), .int .i64 0]) ∧ Below w.heap.size w w' := by
  have hM := fun w => remay (Ev.mk 7 u 0 0 0 0 0 0) w
  rw [hm] at hM
  have H1 := Lib.hid (fun w => rn1 7 3 w (by decide) (by decide))
  have z1 : (numsB [7]).size ≤ 5 := numsB_size [7]
  have H2 := Lib.hid (fun w => rn1 u 3 w (okn r_u).1 (okn r_u).2)
  have z2 : (numsB [u]).size ≤ 5 := numsB_size [u]
  have HF := Lib.hid (enc_nums 7 [u])
  have HM := Lib.hid hM
  unfold Ev.val at HM
  unfold Ev.val
  clear hm hM r_u
  generalize numsB [7] = e1 at *
  generalize numsB [u] = e2 at *
  go_enter Tryz.func90, Tryz.ntmps90
  go_wp2_with (first
    | (go_at_call 69; (with_reducible refine (HM.out _).mono ?_); rintro e w1 ⟨rfl, hb⟩; have hS := (Held.start w _).step hb; have c0 := hS.cell (i := 0) rfl; have c1 := hS.cell (i := 1) rfl; clear hb)
    | (go_at_call 82; first | ((with_reducible refine (H1.out _).mono ?_); rintro e w1 ⟨rfl, hb⟩; replace hS := hS.step hb; have c0 := hS.cell (i := 0) rfl; have c1 := hS.cell (i := 1) rfl; clear hb) | ((with_reducible refine (H2.out _).mono ?_); rintro e w1 ⟨rfl, hb⟩; replace hS := hS.step hb; have c0 := hS.cell (i := 0) rfl; have c1 := hS.cell (i := 1) rfl; clear hb))
    | fail)
  go_ret2
  exact ⟨ret_s2 HF.out, hS.bel⟩
set_option maxHeartbeats 4000000 in
theorem reput_8 (w : World)  (hm : (Ev.mk 8 0 0 0 0 0 0 0).may = true) :
    Calls Tryz.prog 90 #[(Ev.mk 8 0 0 0 0 0 0 0).val] w fun e w' => e = .returned (.tuple #[.string (encL (.n 8 :: [])), .int .i64 0]) ∧ Below w.heap.size w w' := by
  have hM := fun w => remay (Ev.mk 8 0 0 0 0 0 0 0) w
  rw [hm] at hM
  have H1 := Lib.hid (fun w => rn1 8 3 w (by decide) (by decide))
  have z1 : (numsB [8]).size ≤ 5 := numsB_size [8]
  have HF := Lib.hid (enc_nums 8 [])
  rw [show numsB [8] ++ numsB [] = numsB [8] from ba_nil _] at HF
  have HM := Lib.hid hM
  unfold Ev.val at HM
  unfold Ev.val
  clear hm hM 
  generalize numsB [8] = e1 at *
  go_enter Tryz.func90, Tryz.ntmps90
  go_wp2_with (first
    | (go_at_call 69; (with_reducible refine (HM.out _).mono ?_); rintro e w1 ⟨rfl, hb⟩; have hS := (Held.start w _).step hb; have c0 := hS.cell (i := 0) rfl; clear hb)
    | (go_at_call 82; ((with_reducible refine (H1.out _).mono ?_); rintro e w1 ⟨rfl, hb⟩; replace hS := hS.step hb; have c0 := hS.cell (i := 0) rfl; clear hb))
    | fail)
  go_ret2
  exact ⟨ret_s2 HF.out, hS.bel⟩
set_option maxHeartbeats 4000000 in
theorem reput_9 (s : Int) (w : World) (r_s : okNum s = true) (hm : (Ev.mk 9 0 s 0 0 0 0 0).may = true) :
    Calls Tryz.prog 90 #[(Ev.mk 9 0 s 0 0 0 0 0).val] w fun e w' => e = .returned (.tuple #[.string (encL (.n 9 :: [.n s])), .int .i64 0]) ∧ Below w.heap.size w w' := by
  have hM := fun w => remay (Ev.mk 9 0 s 0 0 0 0 0) w
  rw [hm] at hM
  have H1 := Lib.hid (fun w => rn1 9 3 w (by decide) (by decide))
  have z1 : (numsB [9]).size ≤ 5 := numsB_size [9]
  have H2 := Lib.hid (fun w => rn1 s 3 w (okn r_s).1 (okn r_s).2)
  have z2 : (numsB [s]).size ≤ 5 := numsB_size [s]
  have HF := Lib.hid (enc_nums 9 [s])
  have HM := Lib.hid hM
  unfold Ev.val at HM
  unfold Ev.val
  clear hm hM r_s
  generalize numsB [9] = e1 at *
  generalize numsB [s] = e2 at *
  go_enter Tryz.func90, Tryz.ntmps90
  go_wp2_with (first
    | (go_at_call 69; (with_reducible refine (HM.out _).mono ?_); rintro e w1 ⟨rfl, hb⟩; have hS := (Held.start w _).step hb; have c0 := hS.cell (i := 0) rfl; have c2 := hS.cell (i := 2) rfl; clear hb)
    | (go_at_call 82; first | ((with_reducible refine (H1.out _).mono ?_); rintro e w1 ⟨rfl, hb⟩; replace hS := hS.step hb; have c0 := hS.cell (i := 0) rfl; have c2 := hS.cell (i := 2) rfl; clear hb) | ((with_reducible refine (H2.out _).mono ?_); rintro e w1 ⟨rfl, hb⟩; replace hS := hS.step hb; have c0 := hS.cell (i := 0) rfl; have c2 := hS.cell (i := 2) rfl; clear hb))
    | fail)
  go_ret2
  exact ⟨ret_s2 HF.out, hS.bel⟩
theorem Ev.norm {p : Ev} (h : p.part = some p) : (p.kind = 0 → p = (Ev.mk 0 0 0 0 0 0 0 p.tick)) ∧ (p.kind = 1 → p = (Ev.mk 1 p.user 0 0 p.a p.b p.c 0)) ∧ (p.kind = 2 → p = (Ev.mk 2 p.user 0 0 0 0 0 p.tick)) ∧ (p.kind = 3 → p = (Ev.mk 3 p.user 0 0 p.a 0 0 0)) ∧ (p.kind = 4 → p = (Ev.mk 4 p.user 0 0 0 0 0 0)) ∧ (p.kind = 5 → p = (Ev.mk 5 p.user p.session p.address 0 0 0 p.tick)) ∧ (p.kind = 6 → p = (Ev.mk 6 0 p.session 0 p.a p.b 0 p.tick)) ∧ (p.kind = 7 → p = (Ev.mk 7 p.user 0 0 0 0 0 0)) ∧ (p.kind = 8 → p = (Ev.mk 8 0 0 0 0 0 0 0)) ∧ (p.kind = 9 → p = (Ev.mk 9 0 p.session 0 0 0 0 0)) := by
  refine ⟨?_, ?_, ?_, ?_, ?_, ?_, ?_, ?_, ?_, ?_⟩ <;> intro e <;> unfold Ev.part at h <;> rw [e] at h <;> exact (Option.some.inj h).symm
theorem reput (p : Ev) (w : World) : Calls Tryz.prog 90 #[p.val] w fun e w' => e = .returned (.tuple #[.string p.putS, .int .i64 p.putE]) ∧ Below w.heap.size w w' := by
  cases hm : p.may with
  | false => rw [show p.putS = ⟨#[]⟩ by unfold Ev.putS; rw [hm]; rfl, show p.putE = 700 by unfold Ev.putE; rw [hm]; rfl]; exact reput_no p w hm
  | true =>
    rw [show p.putS = encL p.fl by unfold Ev.putS; rw [hm]; rfl, show p.putE = 0 by unfold Ev.putE; rw [hm]; rfl]
    obtain ⟨hr, hk, -⟩ := (Ev.may_iff p).1 hm
    obtain ⟨l_user, u_user, l_address, u_address, l_tick, u_tick, l_c, u_c, n_session, n_a, n_b⟩ := (Ev.rng_iff p).1 hr
    have n_user : okNum p.user = true := (okNum_iff _).2 ⟨l_user, by omega⟩
    have n_address : okNum p.address = true := (okNum_iff _).2 ⟨l_address, by omega⟩
    have n_tick : okNum p.tick = true := (okNum_iff _).2 ⟨l_tick, by omega⟩
    have n_c : okNum p.c = true := (okNum_iff _).2 ⟨l_c, by omega⟩
    obtain ⟨n0, n1, n2, n3, n4, n5, n6, n7, n8, n9⟩ := Ev.norm hk
    obtain ⟨k, u, s, a, x, y, z, t⟩ := p
    rcases Ev.kinds hk with e | e | e | e | e | e | e | e | e | e
    · have := n0 e
      rw [this] at hm ⊢
      exact reput_0 t w n_tick hm
    · have := n1 e
      rw [this] at hm ⊢
      exact reput_1 u x y z w n_user n_a n_b n_c hm
    · have := n2 e
      rw [this] at hm ⊢
      exact reput_2 u t w n_user n_tick hm
    · have := n3 e
      rw [this] at hm ⊢
      exact reput_3 u x w n_user n_a hm
    · have := n4 e
      rw [this] at hm ⊢
      exact reput_4 u w n_user hm
    · have := n5 e
      rw [this] at hm ⊢
      exact reput_5 s u a t w n_session n_user n_address n_tick hm
    · have := n6 e
      rw [this] at hm ⊢
      exact reput_6 s x y t w n_session n_a n_b n_tick hm
    · have := n7 e
      rw [this] at hm ⊢
      exact reput_7 u w n_user hm
    · have := n8 e
      rw [this] at hm ⊢
      exact reput_8 w hm
    · have := n9 e
      rw [this] at hm ⊢
      exact reput_9 s w n_session hm
open Go Go.RowKit
theorem rsector (s : ByteArray) (w : World) (h : s.size ≤ 64) : Calls Tryz.prog 83 #[.string s] w fun e w' => e = .returned (.string (padS s)) ∧ Below w.heap.size w w' := by
  obtain ⟨k, hk, hkn⟩ : ∃ k : Nat, (64 : Int) - (s.size : Int) = (k : Int) ∧ k = 64 - s.size := ⟨64 - s.size, by omega, rfl⟩
  have hmk := zk_made k (by omega)
  have hcv := zk_conv k (by omega)
  have hz : (zerN k).size = k := zerN_size k
  have h1 : ¬ 9223372036854775807 < s.size + k := by omega
  unfold padS
  rw [← hkn]
  clear hkn
  go_enter Tryz.func83, Tryz.ntmps83
  go_wp2
  go_ret
  exact ⟨rfl, (Below.refl _ _).alloc (Nat.le_refl _) _⟩
theorem Rc.body_parts (r : Rc) : r.body = numsB [r.seq, r.boot, r.prev] ++ textS r.ev.put := by
  simp only [Rc.body, Rc.fl, encL, numsB, Fld.enc]
  simp only [ba_assoc]
  rw [ba_nil, nil_ba]
theorem Rc.may_why {seq boot prev : Int} {ev : Ev} (h : (Rc.mk seq boot prev ev).may = false) : seq < 1 ∨ (1 ≤ seq ∧ okNum seq = false) ∨ (1 ≤ seq ∧ okNum seq = true ∧ boot < 1) ∨ (1 ≤ seq ∧ okNum seq = true ∧ 1 ≤ boot ∧ okNum boot = false) ∨
    (1 ≤ seq ∧ okNum seq = true ∧ 1 ≤ boot ∧ okNum boot = true ∧ okNum prev = false) ∨ (1 ≤ seq ∧ okNum seq = true ∧ 1 ≤ boot ∧ okNum boot = true ∧ okNum prev = true ∧ ev.may = false) := by
  have hn : ¬ (1 ≤ seq ∧ okNum seq = true ∧ 1 ≤ boot ∧ okNum boot = true ∧ okNum prev = true ∧ ev.may = true) := fun c => by rw [(Rc.may_iff _).2 c] at h; cases h
  by_cases h1 : 1 ≤ seq
  · cases h2 : okNum seq with
    | false => exact .inr (.inl ⟨h1, rfl⟩)
    | true =>
      by_cases h3 : 1 ≤ boot
      · cases h4 : okNum boot with
        | false => exact .inr (.inr (.inr (.inl ⟨h1, rfl, h3, rfl⟩)))
        | true =>
          cases h5 : okNum prev with
          | false => exact .inr (.inr (.inr (.inr (.inl ⟨h1, rfl, h3, rfl, rfl⟩))))
          | true =>
            cases h6 : ev.may with
            | false => exact .inr (.inr (.inr (.inr (.inr ⟨h1, rfl, h3, rfl, rfl, rfl⟩))))
            | true => exact absurd ⟨h1, h2, h3, h4, h5, h6⟩ hn
      · exact .inr (.inr (.inl ⟨h1, rfl, by omega⟩))
  · exact .inl (by omega)
set_option maxRecDepth 100000 in
set_option maxHeartbeats 8000000 in
theorem drput_no (p : Nat) (most : Int) (ts : List ByteArray) (r : Rc) (hm : r.may = false) : Does Tryz.prog (refA p most ts) 70 #[.pointer (some ⟨p, 0, none⟩), r.val] (.returned (.tuple #[.string ⟨#[]⟩, .int .i64 0, .int .i64 900])) (refA p most ts) := by
  intro w F h
  have hS : Becomes F (refA p most ts) w w := Becomes.refl h
  clear h
  obtain ⟨seq, boot, prev, ev⟩ := r
  have hwhy := Rc.may_why hm
  clear hm
  have HP := Lib.hid (fun w => reput ev w)
  have hE : ev.may = false → ev.putE = 700 := fun h => by unfold Ev.putE; rw [h]; rfl
  have HE := Lib.hid hE
  have hsz : ev.putS.size ≤ 44 := by
    unfold Ev.putS
    split
    · have := Ev.put_small ev; omega
    · exact Nat.zero_le _
  clear hE
  generalize ev.putS = S at *
  obtain ⟨k, u, s, a, x, y, z, t⟩ := ev
  unfold Rc.val
  simp only [Ev.val] at HP ⊢
  rcases hwhy with c1 | ⟨c1, c2⟩ | ⟨c1, c2, c3⟩ | ⟨c1, c2, c3, c4⟩ | ⟨c1, c2, c3, c4, c5⟩ | ⟨c1, c2, c3, c4, c5, c6⟩
  case' inr.inr.inr.inr.inr => have hE := HE.out c6; rw [hE] at HP; clear hE c6
  all_goals
    clear HE
    generalize Ev.putE ⟨k, u, s, a, x, y, z, t⟩ = E at HP
    go_enter Tryz.func70, Tryz.ntmps70
    go_wp2_with (first
      | (go_at_call 90; (with_reducible refine (HP.out _).mono ?_); rintro e w1 ⟨rfl, hb⟩; have hH := (Held.start w _).step hb; have c0 := hH.cell (i := 0) rfl; have c11 := hH.cell (i := 1) rfl; have c12 := hH.cell (i := 2) rfl; replace hS := hS.lay (refA_good _ _ _) (((Below.refl _ _).alloc (Nat.le_refl _) _).trans (hb.mono (by simp))); clear hb)
      | (go_at_call 89; (with_reducible refine (rnum0 _ _).mono ?_); rintro e w1 ⟨rfl, rfl⟩))
    go_ret3
    exact ⟨rfl, hS⟩
set_option maxRecDepth 100000 in
set_option maxHeartbeats 8000000 in
theorem drput_yes (p : Nat) (most : Int) (ts : List ByteArray) (r : Rc) (hl : ts.length ≤ 1000000) (hm : r.may = true) : Does Tryz.prog (refA p most ts) 70 #[.pointer (some ⟨p, 0, none⟩), r.val] (.returned (.tuple #[.string (rcS most ts r), .int .i64 (rcN most ts r), .int .i64 (rcE most ts r)])) (refA p most (rcT most ts r)) := by
  intro w F h
  have hS : Becomes F (refA p most ts) w w := Becomes.refl h
  clear h
  have hbody := r.body_parts
  have htm : r.tm = tmK cH none (markR ++ r.body) := rfl
  have hsm := r.body_small
  have hln := fun own => r.line_small own
  obtain ⟨n0, n1⟩ := nmX_bd most ts r.tm
  rw [show rcT most ts r = nmT most ts r.tm by unfold rcT; rw [hm]; rfl]
  have hSS : nmE most ts r.tm = 0 → rcS most ts r = padS (r.body ++ numS (nmX most ts r.tm)) ∧ rcN most ts r = nmX most ts r.tm ∧ rcE most ts r = 0 := fun e => by
    have hk : rcOk most ts r = true := by unfold rcOk; rw [hm, e]; rfl
    unfold rcS rcN rcE; rw [hk]; exact ⟨rfl, rfl, rfl⟩
  have hSN : nmE most ts r.tm ≠ 0 → rcS most ts r = ⟨#[]⟩ ∧ rcN most ts r = 0 ∧ rcE most ts r = 900 := fun e => by
    have hk : rcOk most ts r = false := by unfold rcOk; rw [hm]; simp [e]
    unfold rcS rcN rcE; rw [hk]; exact ⟨rfl, rfl, rfl⟩
  generalize rcS most ts r = RS at *
  generalize rcN most ts r = RN at *
  generalize rcE most ts r = RE at *
  have hK : ckX most ts true r.tm = (if nmE most ts r.tm = 0 then nmX most ts r.tm else 0) ∧ ckE most ts true r.tm = (if nmE most ts r.tm = 0 then 0 else 300) := by
    unfold ckX ckE; by_cases e : nmE most ts r.tm = 0 <;> simp [e]
  have hH := drhash p most ts (markR ++ r.body) (by rw [ByteArray.size_append, show markR.size = 6 from rfl]; omega)
  rw [show okK none = true from rfl, ← htm, show ckT most ts true r.tm = nmT most ts r.tm from rfl, hK.1, hK.2] at hH
  clear hK htm
  obtain ⟨m1, m2, m3, m4, m5, m6⟩ := (Rc.may_iff r).1 hm
  clear hm
  generalize nmT most ts r.tm = T' at *
  generalize nmX most ts r.tm = own at *
  generalize nmE most ts r.tm = en at *
  obtain ⟨s0, s1⟩ := (okNum_iff _).1 m2
  obtain ⟨s2, s3⟩ := (okNum_iff _).1 m4
  obtain ⟨s4, s5⟩ := (okNum_iff _).1 m5
  have H3 := Lib.hid (fun w => rn3 r.seq r.boot r.prev 3 w (by omega) (by omega) (by omega) (by omega) (by omega) (by omega))
  have hP := fun w => reput r.ev w
  rw [show r.ev.putE = 0 by unfold Ev.putE; rw [m6]; rfl, show r.ev.putS = r.ev.put by unfold Ev.putS; rw [m6]; rfl] at hP
  have hps := Ev.put_small r.ev
  have HT := Lib.hid (fun w => rtext r.ev.put w (by omega))
  have htz := textS_size hps
  have hnz : (numsB [r.seq, r.boot, r.prev]).size ≤ 15 := numsB_size [r.seq, r.boot, r.prev]
  have HP := Lib.hid hP
  have hO := fun w => rn1 own 3 w (by omega) (by omega)
  rw [numsB_one] at hO
  have HO := Lib.hid hO
  have hoz := numS_size5 own
  have hl50 := hln own
  have HX := Lib.hid (fun w => rsector (r.body ++ numS own) w (by omega))
  clear hP hO hln
  rw [hbody] at *
  clear hbody hl
  obtain ⟨seq, boot, prev, ev⟩ := r
  obtain ⟨k, u, s, a, x, y, z, t⟩ := ev
  unfold Rc.val
  simp only [Ev.val] at HP ⊢ H3 HT hps htz hnz HX hl50 hsm hSS m1 m2 m3 m4 m5 hH
  generalize Ev.put ⟨k, u, s, a, x, y, z, t⟩ = P at *
  generalize textS P = TX at *
  generalize numsB [seq, boot, prev] = N3 at *
  clear m6 s0 s1 s2 s3 s4 s5
  by_cases hen : en = 0
  · obtain ⟨q1, q2, q3⟩ := hSS hen
    rw [q1, q2, q3]
    rw [if_pos hen, if_pos hen] at hH
    unfold markR at hH
    have HH := Lib.hid hH
    clear hH hSS hSN q1 q2 q3
    go_enter Tryz.func70, Tryz.ntmps70
    go_wp2_with (first
      | (go_at_call 90; (with_reducible refine (HP.out _).mono ?_); rintro e w1 ⟨rfl, hb⟩; have hD := (Held.start w _).step hb; have c0 := hD.cell (i := 0) rfl; have c11 := hD.cell (i := 1) rfl; have c12 := hD.cell (i := 2) rfl; replace hS := hS.lay (refA_good _ _ _) (((Below.refl _ _).alloc (Nat.le_refl _) _).trans (hb.mono (by simp))); clear hb)
      | (go_at_call 89; (with_reducible refine (rnum0 _ _).mono ?_); rintro e w1 ⟨rfl, rfl⟩)
      | (go_at_call 91; (with_reducible refine (HT.out _).mono ?_); rintro e w1 ⟨rfl, hb⟩; replace hD := hD.step hb; have c0 := hD.cell (i := 0) rfl; have c11 := hD.cell (i := 1) rfl; have c12 := hD.cell (i := 2) rfl; replace hS := hS.lay (refA_good _ _ _) hb; clear hb)
      | (go_at_call 82; first
          | ((with_reducible refine (H3.out _).mono ?_); rintro e w1 ⟨rfl, hb⟩; replace hS := hS.lay (refA_good _ _ _) hb; clear hb)
          | ((with_reducible refine (HO.out _).mono ?_); rintro e w1 ⟨rfl, hb⟩; replace hS := hS.lay (refA_good _ _ _) hb; clear hb))
      | (go_at_call 81; (with_reducible refine (Becomes.op HH.out hS).mono ?_); rintro e w1 ⟨rfl, hS1⟩; replace hS := hS1; clear hS1)
      | (go_at_call 83; (with_reducible refine (HX.out _).mono ?_); rintro e w1 ⟨rfl, hb⟩; replace hS := hS.lay (refA_good _ _ _) hb; clear hb))
    go_ret3
    exact ⟨rfl, hS⟩
  · obtain ⟨q1, q2, q3⟩ := hSN hen
    rw [q1, q2, q3]
    rw [if_neg hen, if_neg hen] at hH
    unfold markR at hH
    have HH := Lib.hid hH
    clear hH hSS hSN q1 q2 q3
    go_enter Tryz.func70, Tryz.ntmps70
    go_wp2_with (first
      | (go_at_call 90; (with_reducible refine (HP.out _).mono ?_); rintro e w1 ⟨rfl, hb⟩; have hD := (Held.start w _).step hb; have c0 := hD.cell (i := 0) rfl; have c11 := hD.cell (i := 1) rfl; have c12 := hD.cell (i := 2) rfl; replace hS := hS.lay (refA_good _ _ _) (((Below.refl _ _).alloc (Nat.le_refl _) _).trans (hb.mono (by simp))); clear hb)
      | (go_at_call 89; (with_reducible refine (rnum0 _ _).mono ?_); rintro e w1 ⟨rfl, rfl⟩)
      | (go_at_call 91; (with_reducible refine (HT.out _).mono ?_); rintro e w1 ⟨rfl, hb⟩; replace hD := hD.step hb; have c0 := hD.cell (i := 0) rfl; have c11 := hD.cell (i := 1) rfl; have c12 := hD.cell (i := 2) rfl; replace hS := hS.lay (refA_good _ _ _) hb; clear hb)
      | (go_at_call 82; (with_reducible refine (H3.out _).mono ?_); rintro e w1 ⟨rfl, hb⟩; replace hS := hS.lay (refA_good _ _ _) hb; clear hb)
      | (go_at_call 81; (with_reducible refine (Becomes.op HH.out hS).mono ?_); rintro e w1 ⟨rfl, hS1⟩; replace hS := hS1; clear hS1))
    go_ret3
    exact ⟨rfl, hS⟩
theorem drput (p : Nat) (most : Int) (ts : List ByteArray) (r : Rc) (hl : ts.length ≤ 1000000) : Does Tryz.prog (refA p most ts) 70 #[.pointer (some ⟨p, 0, none⟩), r.val] (.returned (.tuple #[.string (rcS most ts r), .int .i64 (rcN most ts r), .int .i64 (rcE most ts r)])) (refA p most (rcT most ts r)) := by
  cases hm : r.may with
  | true => exact drput_yes p most ts r hl hm
  | false =>
    have hk : rcOk most ts r = false := by unfold rcOk; rw [hm]; rfl
    rw [show rcS most ts r = ⟨#[]⟩ by unfold rcS; rw [hk]; rfl, show rcN most ts r = 0 by unfold rcN; rw [hk]; rfl, show rcE most ts r = 900 by unfold rcE; rw [hk]; rfl, show rcT most ts r = ts by unfold rcT; rw [hm]; rfl]
    exact drput_no p most ts r hm
end Go.Proofs.YtbfpfmidjdonjaaGreatDoor
