/- Put together: Remay0, Remay1, Remay2, Remay. Conditions: each theorem's own. -/
import Derived.Test.YtopkcaflmpjhgaaGreatBpl
import Derived.Test.YtopkcaflmpjhgaaGreatRnb
import Derived.Lib.Hide
import Derived.Great.Walk
import Derived.OwnWalk
import Derived.IntWalk
import Derived.Below
import Derived.Test.YtopkcaflmpjhgaaGreatBsp
namespace Go.Proofs.YtopkcaflmpjhgaaGreat
open Go Go.RowKit

def Ev.pi (p : Ev) : Bool := p.part.isSome
def Ev.pv (p : Ev) : Ev := p.part.getD ⟨p.kind, 0, 0, 0, 0, 0, 0, 0⟩
theorem remay_part0 (u s a x y z t : Int) (w : World) : Calls Tryz.prog 44 #[.agg #[.int .i64 0, .int .i64 u, .int .i64 s, .int .i64 a, .int .i64 x, .int .i64 y, .int .i64 z, .int .i64 t]] w fun e w' => e = .returned (.tuple #[.agg #[.int .i64 0, .int .i64 0, .int .i64 0, .int .i64 0, .int .i64 0, .int .i64 0, .int .i64 0, .int .i64 t], .bool true]) ∧ Below w.heap.size w w' := by
  go_enter Tryz.func44, Tryz.ntmps44
  go_wp2
  exact bodyPost_ret (v := .tuple #[.agg #[.int .i64 0, .int .i64 0, .int .i64 0, .int .i64 0, .int .i64 0, .int .i64 0, .int .i64 0, .int .i64 t], .bool true]) (by simp [results, Tryz.results44, go_sem]) rfl ⟨rfl, by repeat (first | exact Below.refl _ _ | refine Below.setCell ?_ (by (try simp) <;> omega) _ | refine Below.alloc ?_ (by (try simp) <;> omega) _)⟩
theorem remay_part1 (u s a x y z t : Int) (w : World) : Calls Tryz.prog 44 #[.agg #[.int .i64 1, .int .i64 u, .int .i64 s, .int .i64 a, .int .i64 x, .int .i64 y, .int .i64 z, .int .i64 t]] w fun e w' => e = .returned (.tuple #[.agg #[.int .i64 1, .int .i64 u, .int .i64 0, .int .i64 0, .int .i64 x, .int .i64 y, .int .i64 z, .int .i64 0], .bool true]) ∧ Below w.heap.size w w' := by
  go_enter Tryz.func44, Tryz.ntmps44
  go_wp2
  exact bodyPost_ret (v := .tuple #[.agg #[.int .i64 1, .int .i64 u, .int .i64 0, .int .i64 0, .int .i64 x, .int .i64 y, .int .i64 z, .int .i64 0], .bool true]) (by simp [results, Tryz.results44, go_sem]) rfl ⟨rfl, by repeat (first | exact Below.refl _ _ | refine Below.setCell ?_ (by (try simp) <;> omega) _ | refine Below.alloc ?_ (by (try simp) <;> omega) _)⟩
theorem remay_part2 (u s a x y z t : Int) (w : World) : Calls Tryz.prog 44 #[.agg #[.int .i64 2, .int .i64 u, .int .i64 s, .int .i64 a, .int .i64 x, .int .i64 y, .int .i64 z, .int .i64 t]] w fun e w' => e = .returned (.tuple #[.agg #[.int .i64 2, .int .i64 u, .int .i64 0, .int .i64 0, .int .i64 0, .int .i64 0, .int .i64 0, .int .i64 t], .bool true]) ∧ Below w.heap.size w w' := by
  go_enter Tryz.func44, Tryz.ntmps44
  go_wp2
  exact bodyPost_ret (v := .tuple #[.agg #[.int .i64 2, .int .i64 u, .int .i64 0, .int .i64 0, .int .i64 0, .int .i64 0, .int .i64 0, .int .i64 t], .bool true]) (by simp [results, Tryz.results44, go_sem]) rfl ⟨rfl, by repeat (first | exact Below.refl _ _ | refine Below.setCell ?_ (by (try simp) <;> omega) _ | refine Below.alloc ?_ (by (try simp) <;> omega) _)⟩
theorem remay_part3 (u s a x y z t : Int) (w : World) : Calls Tryz.prog 44 #[.agg #[.int .i64 3, .int .i64 u, .int .i64 s, .int .i64 a, .int .i64 x, .int .i64 y, .int .i64 z, .int .i64 t]] w fun e w' => e = .returned (.tuple #[.agg #[.int .i64 3, .int .i64 u, .int .i64 0, .int .i64 0, .int .i64 x, .int .i64 0, .int .i64 0, .int .i64 0], .bool true]) ∧ Below w.heap.size w w' := by
  go_enter Tryz.func44, Tryz.ntmps44
  go_wp2
  exact bodyPost_ret (v := .tuple #[.agg #[.int .i64 3, .int .i64 u, .int .i64 0, .int .i64 0, .int .i64 x, .int .i64 0, .int .i64 0, .int .i64 0], .bool true]) (by simp [results, Tryz.results44, go_sem]) rfl ⟨rfl, by repeat (first | exact Below.refl _ _ | refine Below.setCell ?_ (by (try simp) <;> omega) _ | refine Below.alloc ?_ (by (try simp) <;> omega) _)⟩
theorem remay_part4 (u s a x y z t : Int) (w : World) : Calls Tryz.prog 44 #[.agg #[.int .i64 4, .int .i64 u, .int .i64 s, .int .i64 a, .int .i64 x, .int .i64 y, .int .i64 z, .int .i64 t]] w fun e w' => e = .returned (.tuple #[.agg #[.int .i64 4, .int .i64 u, .int .i64 0, .int .i64 0, .int .i64 0, .int .i64 0, .int .i64 0, .int .i64 0], .bool true]) ∧ Below w.heap.size w w' := by
  go_enter Tryz.func44, Tryz.ntmps44
  go_wp2
  exact bodyPost_ret (v := .tuple #[.agg #[.int .i64 4, .int .i64 u, .int .i64 0, .int .i64 0, .int .i64 0, .int .i64 0, .int .i64 0, .int .i64 0], .bool true]) (by simp [results, Tryz.results44, go_sem]) rfl ⟨rfl, by repeat (first | exact Below.refl _ _ | refine Below.setCell ?_ (by (try simp) <;> omega) _ | refine Below.alloc ?_ (by (try simp) <;> omega) _)⟩
theorem remay_part5 (u s a x y z t : Int) (w : World) : Calls Tryz.prog 44 #[.agg #[.int .i64 5, .int .i64 u, .int .i64 s, .int .i64 a, .int .i64 x, .int .i64 y, .int .i64 z, .int .i64 t]] w fun e w' => e = .returned (.tuple #[.agg #[.int .i64 5, .int .i64 u, .int .i64 s, .int .i64 a, .int .i64 0, .int .i64 0, .int .i64 0, .int .i64 t], .bool true]) ∧ Below w.heap.size w w' := by
  go_enter Tryz.func44, Tryz.ntmps44
  go_wp2
  exact bodyPost_ret (v := .tuple #[.agg #[.int .i64 5, .int .i64 u, .int .i64 s, .int .i64 a, .int .i64 0, .int .i64 0, .int .i64 0, .int .i64 t], .bool true]) (by simp [results, Tryz.results44, go_sem]) rfl ⟨rfl, by repeat (first | exact Below.refl _ _ | refine Below.setCell ?_ (by (try simp) <;> omega) _ | refine Below.alloc ?_ (by (try simp) <;> omega) _)⟩
theorem remay_part6 (u s a x y z t : Int) (w : World) : Calls Tryz.prog 44 #[.agg #[.int .i64 6, .int .i64 u, .int .i64 s, .int .i64 a, .int .i64 x, .int .i64 y, .int .i64 z, .int .i64 t]] w fun e w' => e = .returned (.tuple #[.agg #[.int .i64 6, .int .i64 0, .int .i64 s, .int .i64 0, .int .i64 x, .int .i64 y, .int .i64 0, .int .i64 t], .bool true]) ∧ Below w.heap.size w w' := by
  go_enter Tryz.func44, Tryz.ntmps44
  go_wp2
  exact bodyPost_ret (v := .tuple #[.agg #[.int .i64 6, .int .i64 0, .int .i64 s, .int .i64 0, .int .i64 x, .int .i64 y, .int .i64 0, .int .i64 t], .bool true]) (by simp [results, Tryz.results44, go_sem]) rfl ⟨rfl, by repeat (first | exact Below.refl _ _ | refine Below.setCell ?_ (by (try simp) <;> omega) _ | refine Below.alloc ?_ (by (try simp) <;> omega) _)⟩
theorem remay_part7 (u s a x y z t : Int) (w : World) : Calls Tryz.prog 44 #[.agg #[.int .i64 7, .int .i64 u, .int .i64 s, .int .i64 a, .int .i64 x, .int .i64 y, .int .i64 z, .int .i64 t]] w fun e w' => e = .returned (.tuple #[.agg #[.int .i64 7, .int .i64 u, .int .i64 0, .int .i64 0, .int .i64 0, .int .i64 0, .int .i64 0, .int .i64 0], .bool true]) ∧ Below w.heap.size w w' := by
  go_enter Tryz.func44, Tryz.ntmps44
  go_wp2
  exact bodyPost_ret (v := .tuple #[.agg #[.int .i64 7, .int .i64 u, .int .i64 0, .int .i64 0, .int .i64 0, .int .i64 0, .int .i64 0, .int .i64 0], .bool true]) (by simp [results, Tryz.results44, go_sem]) rfl ⟨rfl, by repeat (first | exact Below.refl _ _ | refine Below.setCell ?_ (by (try simp) <;> omega) _ | refine Below.alloc ?_ (by (try simp) <;> omega) _)⟩
theorem remay_part8 (u s a x y z t : Int) (w : World) : Calls Tryz.prog 44 #[.agg #[.int .i64 8, .int .i64 u, .int .i64 s, .int .i64 a, .int .i64 x, .int .i64 y, .int .i64 z, .int .i64 t]] w fun e w' => e = .returned (.tuple #[.agg #[.int .i64 8, .int .i64 0, .int .i64 0, .int .i64 0, .int .i64 0, .int .i64 0, .int .i64 0, .int .i64 0], .bool true]) ∧ Below w.heap.size w w' := by
  go_enter Tryz.func44, Tryz.ntmps44
  go_wp2
  exact bodyPost_ret (v := .tuple #[.agg #[.int .i64 8, .int .i64 0, .int .i64 0, .int .i64 0, .int .i64 0, .int .i64 0, .int .i64 0, .int .i64 0], .bool true]) (by simp [results, Tryz.results44, go_sem]) rfl ⟨rfl, by repeat (first | exact Below.refl _ _ | refine Below.setCell ?_ (by (try simp) <;> omega) _ | refine Below.alloc ?_ (by (try simp) <;> omega) _)⟩
theorem remay_part9 (u s a x y z t : Int) (w : World) : Calls Tryz.prog 44 #[.agg #[.int .i64 9, .int .i64 u, .int .i64 s, .int .i64 a, .int .i64 x, .int .i64 y, .int .i64 z, .int .i64 t]] w fun e w' => e = .returned (.tuple #[.agg #[.int .i64 9, .int .i64 0, .int .i64 s, .int .i64 0, .int .i64 0, .int .i64 0, .int .i64 0, .int .i64 0], .bool true]) ∧ Below w.heap.size w w' := by
  go_enter Tryz.func44, Tryz.ntmps44
  go_wp2
  exact bodyPost_ret (v := .tuple #[.agg #[.int .i64 9, .int .i64 0, .int .i64 s, .int .i64 0, .int .i64 0, .int .i64 0, .int .i64 0, .int .i64 0], .bool true]) (by simp [results, Tryz.results44, go_sem]) rfl ⟨rfl, by repeat (first | exact Below.refl _ _ | refine Below.setCell ?_ (by (try simp) <;> omega) _ | refine Below.alloc ?_ (by (try simp) <;> omega) _)⟩
theorem remay_partn (k : Int) (u s a x y z t : Int) (w : World) (h0 : k ≠ 0) (h1 : k ≠ 1) (h2 : k ≠ 2) (h3 : k ≠ 3) (h4 : k ≠ 4) (h5 : k ≠ 5) (h6 : k ≠ 6) (h7 : k ≠ 7) (h8 : k ≠ 8) (h9 : k ≠ 9) : Calls Tryz.prog 44 #[.agg #[.int .i64 k, .int .i64 u, .int .i64 s, .int .i64 a, .int .i64 x, .int .i64 y, .int .i64 z, .int .i64 t]] w fun e w' => e = .returned (.tuple #[.agg #[.int .i64 k, .int .i64 0, .int .i64 0, .int .i64 0, .int .i64 0, .int .i64 0, .int .i64 0, .int .i64 0], .bool false]) ∧ Below w.heap.size w w' := by
  have g0 : (k == 0) = false := by simpa using h0
  clear h0
  have g1 : (k == 1) = false := by simpa using h1
  clear h1
  have g2 : (k == 2) = false := by simpa using h2
  clear h2
  have g3 : (k == 3) = false := by simpa using h3
  clear h3
  have g4 : (k == 4) = false := by simpa using h4
  clear h4
  have g5 : (k == 5) = false := by simpa using h5
  clear h5
  have g6 : (k == 6) = false := by simpa using h6
  clear h6
  have g7 : (k == 7) = false := by simpa using h7
  clear h7
  have g8 : (k == 8) = false := by simpa using h8
  clear h8
  have g9 : (k == 9) = false := by simpa using h9
  clear h9
  go_enter Tryz.func44, Tryz.ntmps44
  go_wp2
  exact bodyPost_ret (v := .tuple #[.agg #[.int .i64 k, .int .i64 0, .int .i64 0, .int .i64 0, .int .i64 0, .int .i64 0, .int .i64 0, .int .i64 0], .bool false]) (by simp [results, Tryz.results44, go_sem]) rfl ⟨rfl, by repeat (first | exact Below.refl _ _ | refine Below.setCell ?_ (by (try simp) <;> omega) _ | refine Below.alloc ?_ (by (try simp) <;> omega) _)⟩
theorem remay_part (p : Ev) (w : World) : Calls Tryz.prog 44 #[p.val] w fun e w' => e = .returned (.tuple #[p.pv.val, .bool p.pi]) ∧ Below w.heap.size w w' := by
  obtain ⟨k, u, s, a, x, y, z, t⟩ := p
  by_cases h0 : k = 0
  · subst h0; exact remay_part0 u s a x y z t w
  by_cases h1 : k = 1
  · subst h1; exact remay_part1 u s a x y z t w
  by_cases h2 : k = 2
  · subst h2; exact remay_part2 u s a x y z t w
  by_cases h3 : k = 3
  · subst h3; exact remay_part3 u s a x y z t w
  by_cases h4 : k = 4
  · subst h4; exact remay_part4 u s a x y z t w
  by_cases h5 : k = 5
  · subst h5; exact remay_part5 u s a x y z t w
  by_cases h6 : k = 6
  · subst h6; exact remay_part6 u s a x y z t w
  by_cases h7 : k = 7
  · subst h7; exact remay_part7 u s a x y z t w
  by_cases h8 : k = 8
  · subst h8; exact remay_part8 u s a x y z t w
  by_cases h9 : k = 9
  · subst h9; exact remay_part9 u s a x y z t w
  have hn : (Ev.mk k u s a x y z t).part = none := by simp [Ev.part, h0, h1, h2, h3, h4, h5, h6, h7, h8, h9]
  unfold Ev.pv Ev.pi
  rw [hn]
  exact remay_partn k u s a x y z t w h0 h1 h2 h3 h4 h5 h6 h7 h8 h9

set_option maxHeartbeats 2000000 in
theorem remay_no (k : Int) (u s a x y z t : Int) (k2 y1 y2 y3 y4 y5 y6 y7 : Int) (w : World) (HP : ∀ w, Calls Tryz.prog 44 #[.agg #[.int .i64 k, .int .i64 u, .int .i64 s, .int .i64 a, .int .i64 x, .int .i64 y, .int .i64 z, .int .i64 t]] w fun e w' => e = .returned (.tuple #[.agg #[.int .i64 k2, .int .i64 y1, .int .i64 y2, .int .i64 y3, .int .i64 y4, .int .i64 y5, .int .i64 y6, .int .i64 y7], .bool false]) ∧ Below w.heap.size w w') :
    Calls Tryz.prog 31 #[.agg #[.int .i64 k, .int .i64 u, .int .i64 s, .int .i64 a, .int .i64 x, .int .i64 y, .int .i64 z, .int .i64 t]] w fun e w' => e = .returned (.bool false) ∧ Below w.heap.size w w' := by
  have HP := Lib.hid HP
  go_enter Tryz.func31, Tryz.ntmps31
  go_wp2_with (first | (go_at_call 44; (with_reducible refine (HP.out _).mono ?_); rintro e w1 ⟨rfl, hb⟩; have kp := (Blk.new _ _ _).step hb; have e1 := kp.cell; have g1 := kp.froz; have l1 := kp.lt; have hB := ((Below.refl w.heap.size w).alloc (Nat.le_refl _) (.cells #[.int .i64 k, .int .i64 u, .int .i64 s, .int .i64 a, .int .i64 x, .int .i64 y, .int .i64 z, .int .i64 t] 45)).trans (hb.mono (by simp)); clear hb))
  go_ret
  exact ⟨rfl, by (repeat (first | exact hB | (with_reducible refine Below.setCell ?_ (by (try simp) <;> omega) _) | (with_reducible refine Below.alloc ?_ (by (try simp) <;> omega) _)))⟩
end Go.Proofs.YtopkcaflmpjhgaaGreat

namespace Go.Proofs.YtopkcaflmpjhgaaGreat
open Go Go.RowKit

set_option maxHeartbeats 2000000 in
theorem remay_ne0 (k : Int) (u s a x y z t : Int) (k2 y1 y2 y3 y4 y5 y6 y7 : Int) (w : World) (HP : ∀ w, Calls Tryz.prog 44 #[.agg #[.int .i64 k, .int .i64 u, .int .i64 s, .int .i64 a, .int .i64 x, .int .i64 y, .int .i64 z, .int .i64 t]] w fun e w' => e = .returned (.tuple #[.agg #[.int .i64 k2, .int .i64 y1, .int .i64 y2, .int .i64 y3, .int .i64 y4, .int .i64 y5, .int .i64 y6, .int .i64 y7], .bool true]) ∧ Below w.heap.size w w') (hn : k2 ≠ k) :
    Calls Tryz.prog 31 #[.agg #[.int .i64 k, .int .i64 u, .int .i64 s, .int .i64 a, .int .i64 x, .int .i64 y, .int .i64 z, .int .i64 t]] w fun e w' => e = .returned (.bool false) ∧ Below w.heap.size w w' := by
  have HP := Lib.hid HP
  have g0 : (k2 == k) = false := by simpa using hn
  clear hn
  go_enter Tryz.func31, Tryz.ntmps31
  go_wp2_with (go_at_call 44; (with_reducible refine (HP.out _).mono ?_); rintro e w1 ⟨rfl, hb⟩; have kp := (Blk.new _ _ _).step hb; have e1 := kp.cell; have g1 := kp.froz; have l1 := kp.lt; have hB := ((Below.refl w.heap.size w).alloc (Nat.le_refl _) (.cells #[.int .i64 k, .int .i64 u, .int .i64 s, .int .i64 a, .int .i64 x, .int .i64 y, .int .i64 z, .int .i64 t] 45)).trans (hb.mono (by simp)); clear hb)
  go_ret
  exact ⟨rfl, by (repeat (first | exact hB | (with_reducible refine Below.setCell ?_ (by (try simp) <;> omega) _) | (with_reducible refine Below.alloc ?_ (by (try simp) <;> omega) _)))⟩

set_option maxHeartbeats 2000000 in
theorem remay_ne1 (k : Int) (u s a x y z t : Int) (k2 y1 y2 y3 y4 y5 y6 y7 : Int) (w : World) (HP : ∀ w, Calls Tryz.prog 44 #[.agg #[.int .i64 k, .int .i64 u, .int .i64 s, .int .i64 a, .int .i64 x, .int .i64 y, .int .i64 z, .int .i64 t]] w fun e w' => e = .returned (.tuple #[.agg #[.int .i64 k2, .int .i64 y1, .int .i64 y2, .int .i64 y3, .int .i64 y4, .int .i64 y5, .int .i64 y6, .int .i64 y7], .bool true]) ∧ Below w.heap.size w w') (hn : y1 ≠ u) :
    Calls Tryz.prog 31 #[.agg #[.int .i64 k, .int .i64 u, .int .i64 s, .int .i64 a, .int .i64 x, .int .i64 y, .int .i64 z, .int .i64 t]] w fun e w' => e = .returned (.bool false) ∧ Below w.heap.size w w' := by
  have HP := Lib.hid HP
  have g0 : (y1 == u) = false := by simpa using hn
  clear hn
  go_enter Tryz.func31, Tryz.ntmps31
  go_wp2_with (go_at_call 44; (with_reducible refine (HP.out _).mono ?_); rintro e w1 ⟨rfl, hb⟩; have kp := (Blk.new _ _ _).step hb; have e1 := kp.cell; have g1 := kp.froz; have l1 := kp.lt; have hB := ((Below.refl w.heap.size w).alloc (Nat.le_refl _) (.cells #[.int .i64 k, .int .i64 u, .int .i64 s, .int .i64 a, .int .i64 x, .int .i64 y, .int .i64 z, .int .i64 t] 45)).trans (hb.mono (by simp)); clear hb)
  go_ret
  exact ⟨rfl, by (repeat (first | exact hB | (with_reducible refine Below.setCell ?_ (by (try simp) <;> omega) _) | (with_reducible refine Below.alloc ?_ (by (try simp) <;> omega) _)))⟩

set_option maxHeartbeats 2000000 in
theorem remay_ne2 (k : Int) (u s a x y z t : Int) (k2 y1 y2 y3 y4 y5 y6 y7 : Int) (w : World) (HP : ∀ w, Calls Tryz.prog 44 #[.agg #[.int .i64 k, .int .i64 u, .int .i64 s, .int .i64 a, .int .i64 x, .int .i64 y, .int .i64 z, .int .i64 t]] w fun e w' => e = .returned (.tuple #[.agg #[.int .i64 k2, .int .i64 y1, .int .i64 y2, .int .i64 y3, .int .i64 y4, .int .i64 y5, .int .i64 y6, .int .i64 y7], .bool true]) ∧ Below w.heap.size w w') (hn : y2 ≠ s) :
    Calls Tryz.prog 31 #[.agg #[.int .i64 k, .int .i64 u, .int .i64 s, .int .i64 a, .int .i64 x, .int .i64 y, .int .i64 z, .int .i64 t]] w fun e w' => e = .returned (.bool false) ∧ Below w.heap.size w w' := by
  have HP := Lib.hid HP
  have g0 : (y2 == s) = false := by simpa using hn
  clear hn
  go_enter Tryz.func31, Tryz.ntmps31
  go_wp2_with (go_at_call 44; (with_reducible refine (HP.out _).mono ?_); rintro e w1 ⟨rfl, hb⟩; have kp := (Blk.new _ _ _).step hb; have e1 := kp.cell; have g1 := kp.froz; have l1 := kp.lt; have hB := ((Below.refl w.heap.size w).alloc (Nat.le_refl _) (.cells #[.int .i64 k, .int .i64 u, .int .i64 s, .int .i64 a, .int .i64 x, .int .i64 y, .int .i64 z, .int .i64 t] 45)).trans (hb.mono (by simp)); clear hb)
  go_ret
  exact ⟨rfl, by (repeat (first | exact hB | (with_reducible refine Below.setCell ?_ (by (try simp) <;> omega) _) | (with_reducible refine Below.alloc ?_ (by (try simp) <;> omega) _)))⟩

set_option maxHeartbeats 2000000 in
theorem remay_ne3 (k : Int) (u s a x y z t : Int) (k2 y1 y2 y3 y4 y5 y6 y7 : Int) (w : World) (HP : ∀ w, Calls Tryz.prog 44 #[.agg #[.int .i64 k, .int .i64 u, .int .i64 s, .int .i64 a, .int .i64 x, .int .i64 y, .int .i64 z, .int .i64 t]] w fun e w' => e = .returned (.tuple #[.agg #[.int .i64 k2, .int .i64 y1, .int .i64 y2, .int .i64 y3, .int .i64 y4, .int .i64 y5, .int .i64 y6, .int .i64 y7], .bool true]) ∧ Below w.heap.size w w') (hn : y3 ≠ a) :
    Calls Tryz.prog 31 #[.agg #[.int .i64 k, .int .i64 u, .int .i64 s, .int .i64 a, .int .i64 x, .int .i64 y, .int .i64 z, .int .i64 t]] w fun e w' => e = .returned (.bool false) ∧ Below w.heap.size w w' := by
  have HP := Lib.hid HP
  have g0 : (y3 == a) = false := by simpa using hn
  clear hn
  go_enter Tryz.func31, Tryz.ntmps31
  go_wp2_with (go_at_call 44; (with_reducible refine (HP.out _).mono ?_); rintro e w1 ⟨rfl, hb⟩; have kp := (Blk.new _ _ _).step hb; have e1 := kp.cell; have g1 := kp.froz; have l1 := kp.lt; have hB := ((Below.refl w.heap.size w).alloc (Nat.le_refl _) (.cells #[.int .i64 k, .int .i64 u, .int .i64 s, .int .i64 a, .int .i64 x, .int .i64 y, .int .i64 z, .int .i64 t] 45)).trans (hb.mono (by simp)); clear hb)
  go_ret
  exact ⟨rfl, by (repeat (first | exact hB | (with_reducible refine Below.setCell ?_ (by (try simp) <;> omega) _) | (with_reducible refine Below.alloc ?_ (by (try simp) <;> omega) _)))⟩

set_option maxHeartbeats 2000000 in
theorem remay_ne4 (k : Int) (u s a x y z t : Int) (k2 y1 y2 y3 y4 y5 y6 y7 : Int) (w : World) (HP : ∀ w, Calls Tryz.prog 44 #[.agg #[.int .i64 k, .int .i64 u, .int .i64 s, .int .i64 a, .int .i64 x, .int .i64 y, .int .i64 z, .int .i64 t]] w fun e w' => e = .returned (.tuple #[.agg #[.int .i64 k2, .int .i64 y1, .int .i64 y2, .int .i64 y3, .int .i64 y4, .int .i64 y5, .int .i64 y6, .int .i64 y7], .bool true]) ∧ Below w.heap.size w w') (hn : y4 ≠ x) :
    Calls Tryz.prog 31 #[.agg #[.int .i64 k, .int .i64 u, .int .i64 s, .int .i64 a, .int .i64 x, .int .i64 y, .int .i64 z, .int .i64 t]] w fun e w' => e = .returned (.bool false) ∧ Below w.heap.size w w' := by
  have HP := Lib.hid HP
  have g0 : (y4 == x) = false := by simpa using hn
  clear hn
  go_enter Tryz.func31, Tryz.ntmps31
  go_wp2_with (go_at_call 44; (with_reducible refine (HP.out _).mono ?_); rintro e w1 ⟨rfl, hb⟩; have kp := (Blk.new _ _ _).step hb; have e1 := kp.cell; have g1 := kp.froz; have l1 := kp.lt; have hB := ((Below.refl w.heap.size w).alloc (Nat.le_refl _) (.cells #[.int .i64 k, .int .i64 u, .int .i64 s, .int .i64 a, .int .i64 x, .int .i64 y, .int .i64 z, .int .i64 t] 45)).trans (hb.mono (by simp)); clear hb)
  go_ret
  exact ⟨rfl, by (repeat (first | exact hB | (with_reducible refine Below.setCell ?_ (by (try simp) <;> omega) _) | (with_reducible refine Below.alloc ?_ (by (try simp) <;> omega) _)))⟩

set_option maxHeartbeats 2000000 in
theorem remay_ne5 (k : Int) (u s a x y z t : Int) (k2 y1 y2 y3 y4 y5 y6 y7 : Int) (w : World) (HP : ∀ w, Calls Tryz.prog 44 #[.agg #[.int .i64 k, .int .i64 u, .int .i64 s, .int .i64 a, .int .i64 x, .int .i64 y, .int .i64 z, .int .i64 t]] w fun e w' => e = .returned (.tuple #[.agg #[.int .i64 k2, .int .i64 y1, .int .i64 y2, .int .i64 y3, .int .i64 y4, .int .i64 y5, .int .i64 y6, .int .i64 y7], .bool true]) ∧ Below w.heap.size w w') (hn : y5 ≠ y) :
    Calls Tryz.prog 31 #[.agg #[.int .i64 k, .int .i64 u, .int .i64 s, .int .i64 a, .int .i64 x, .int .i64 y, .int .i64 z, .int .i64 t]] w fun e w' => e = .returned (.bool false) ∧ Below w.heap.size w w' := by
  have HP := Lib.hid HP
  have g0 : (y5 == y) = false := by simpa using hn
  clear hn
  go_enter Tryz.func31, Tryz.ntmps31
  go_wp2_with (go_at_call 44; (with_reducible refine (HP.out _).mono ?_); rintro e w1 ⟨rfl, hb⟩; have kp := (Blk.new _ _ _).step hb; have e1 := kp.cell; have g1 := kp.froz; have l1 := kp.lt; have hB := ((Below.refl w.heap.size w).alloc (Nat.le_refl _) (.cells #[.int .i64 k, .int .i64 u, .int .i64 s, .int .i64 a, .int .i64 x, .int .i64 y, .int .i64 z, .int .i64 t] 45)).trans (hb.mono (by simp)); clear hb)
  go_ret
  exact ⟨rfl, by (repeat (first | exact hB | (with_reducible refine Below.setCell ?_ (by (try simp) <;> omega) _) | (with_reducible refine Below.alloc ?_ (by (try simp) <;> omega) _)))⟩

set_option maxHeartbeats 2000000 in
theorem remay_ne6 (k : Int) (u s a x y z t : Int) (k2 y1 y2 y3 y4 y5 y6 y7 : Int) (w : World) (HP : ∀ w, Calls Tryz.prog 44 #[.agg #[.int .i64 k, .int .i64 u, .int .i64 s, .int .i64 a, .int .i64 x, .int .i64 y, .int .i64 z, .int .i64 t]] w fun e w' => e = .returned (.tuple #[.agg #[.int .i64 k2, .int .i64 y1, .int .i64 y2, .int .i64 y3, .int .i64 y4, .int .i64 y5, .int .i64 y6, .int .i64 y7], .bool true]) ∧ Below w.heap.size w w') (hn : y6 ≠ z) :
    Calls Tryz.prog 31 #[.agg #[.int .i64 k, .int .i64 u, .int .i64 s, .int .i64 a, .int .i64 x, .int .i64 y, .int .i64 z, .int .i64 t]] w fun e w' => e = .returned (.bool false) ∧ Below w.heap.size w w' := by
  have HP := Lib.hid HP
  have g0 : (y6 == z) = false := by simpa using hn
  clear hn
  go_enter Tryz.func31, Tryz.ntmps31
  go_wp2_with (go_at_call 44; (with_reducible refine (HP.out _).mono ?_); rintro e w1 ⟨rfl, hb⟩; have kp := (Blk.new _ _ _).step hb; have e1 := kp.cell; have g1 := kp.froz; have l1 := kp.lt; have hB := ((Below.refl w.heap.size w).alloc (Nat.le_refl _) (.cells #[.int .i64 k, .int .i64 u, .int .i64 s, .int .i64 a, .int .i64 x, .int .i64 y, .int .i64 z, .int .i64 t] 45)).trans (hb.mono (by simp)); clear hb)
  go_ret
  exact ⟨rfl, by (repeat (first | exact hB | (with_reducible refine Below.setCell ?_ (by (try simp) <;> omega) _) | (with_reducible refine Below.alloc ?_ (by (try simp) <;> omega) _)))⟩

set_option maxHeartbeats 2000000 in
theorem remay_ne7 (k : Int) (u s a x y z t : Int) (k2 y1 y2 y3 y4 y5 y6 y7 : Int) (w : World) (HP : ∀ w, Calls Tryz.prog 44 #[.agg #[.int .i64 k, .int .i64 u, .int .i64 s, .int .i64 a, .int .i64 x, .int .i64 y, .int .i64 z, .int .i64 t]] w fun e w' => e = .returned (.tuple #[.agg #[.int .i64 k2, .int .i64 y1, .int .i64 y2, .int .i64 y3, .int .i64 y4, .int .i64 y5, .int .i64 y6, .int .i64 y7], .bool true]) ∧ Below w.heap.size w w') (hn : y7 ≠ t) :
    Calls Tryz.prog 31 #[.agg #[.int .i64 k, .int .i64 u, .int .i64 s, .int .i64 a, .int .i64 x, .int .i64 y, .int .i64 z, .int .i64 t]] w fun e w' => e = .returned (.bool false) ∧ Below w.heap.size w w' := by
  have HP := Lib.hid HP
  have g0 : (y7 == t) = false := by simpa using hn
  clear hn
  go_enter Tryz.func31, Tryz.ntmps31
  go_wp2_with (go_at_call 44; (with_reducible refine (HP.out _).mono ?_); rintro e w1 ⟨rfl, hb⟩; have kp := (Blk.new _ _ _).step hb; have e1 := kp.cell; have g1 := kp.froz; have l1 := kp.lt; have hB := ((Below.refl w.heap.size w).alloc (Nat.le_refl _) (.cells #[.int .i64 k, .int .i64 u, .int .i64 s, .int .i64 a, .int .i64 x, .int .i64 y, .int .i64 z, .int .i64 t] 45)).trans (hb.mono (by simp)); clear hb)
  go_ret
  exact ⟨rfl, by (repeat (first | exact hB | (with_reducible refine Below.setCell ?_ (by (try simp) <;> omega) _) | (with_reducible refine Below.alloc ?_ (by (try simp) <;> omega) _)))⟩

theorem remay_ne (k : Int) (u s a x y z t : Int) (k2 y1 y2 y3 y4 y5 y6 y7 : Int) (w : World) (HP : ∀ w, Calls Tryz.prog 44 #[.agg #[.int .i64 k, .int .i64 u, .int .i64 s, .int .i64 a, .int .i64 x, .int .i64 y, .int .i64 z, .int .i64 t]] w fun e w' => e = .returned (.tuple #[.agg #[.int .i64 k2, .int .i64 y1, .int .i64 y2, .int .i64 y3, .int .i64 y4, .int .i64 y5, .int .i64 y6, .int .i64 y7], .bool true]) ∧ Below w.heap.size w w') (hn : k2 = k → y1 = u → y2 = s → y3 = a → y4 = x → y5 = y → y6 = z → y7 = t → False) :
    Calls Tryz.prog 31 #[.agg #[.int .i64 k, .int .i64 u, .int .i64 s, .int .i64 a, .int .i64 x, .int .i64 y, .int .i64 z, .int .i64 t]] w fun e w' => e = .returned (.bool false) ∧ Below w.heap.size w w' := by
  by_cases e0 : k2 = k
  case neg => exact remay_ne0 k u s a x y z t k2 y1 y2 y3 y4 y5 y6 y7 w HP e0
  by_cases e1 : y1 = u
  case neg => exact remay_ne1 k u s a x y z t k2 y1 y2 y3 y4 y5 y6 y7 w HP e1
  by_cases e2 : y2 = s
  case neg => exact remay_ne2 k u s a x y z t k2 y1 y2 y3 y4 y5 y6 y7 w HP e2
  by_cases e3 : y3 = a
  case neg => exact remay_ne3 k u s a x y z t k2 y1 y2 y3 y4 y5 y6 y7 w HP e3
  by_cases e4 : y4 = x
  case neg => exact remay_ne4 k u s a x y z t k2 y1 y2 y3 y4 y5 y6 y7 w HP e4
  by_cases e5 : y5 = y
  case neg => exact remay_ne5 k u s a x y z t k2 y1 y2 y3 y4 y5 y6 y7 w HP e5
  by_cases e6 : y6 = z
  case neg => exact remay_ne6 k u s a x y z t k2 y1 y2 y3 y4 y5 y6 y7 w HP e6
  by_cases e7 : y7 = t
  case neg => exact remay_ne7 k u s a x y z t k2 y1 y2 y3 y4 y5 y6 y7 w HP e7
  exact (hn e0 e1 e2 e3 e4 e5 e6 e7).elim
end Go.Proofs.YtopkcaflmpjhgaaGreat

namespace Go.Proofs.YtopkcaflmpjhgaaGreat
open Go Go.RowKit

set_option maxHeartbeats 2000000 in
theorem remay_bad0 (k : Int) (u s a x y z t : Int) (w : World) (HP : ∀ w, Calls Tryz.prog 44 #[.agg #[.int .i64 k, .int .i64 u, .int .i64 s, .int .i64 a, .int .i64 x, .int .i64 y, .int .i64 z, .int .i64 t]] w fun e w' => e = .returned (.tuple #[.agg #[.int .i64 k, .int .i64 u, .int .i64 s, .int .i64 a, .int .i64 x, .int .i64 y, .int .i64 z, .int .i64 t], .bool true]) ∧ Below w.heap.size w w')  (l_user : u < 0) :
    Calls Tryz.prog 31 #[.agg #[.int .i64 k, .int .i64 u, .int .i64 s, .int .i64 a, .int .i64 x, .int .i64 y, .int .i64 z, .int .i64 t]] w fun e w' => e = .returned (.bool false) ∧ Below w.heap.size w w' := by
  have HP := Lib.hid HP
  have dl_user : decide (u < 0) = true := by simp; omega
  go_enter Tryz.func31, Tryz.ntmps31
  go_wp2_with (first | (go_at_call 44; (with_reducible refine (HP.out _).mono ?_); rintro e w1 ⟨rfl, hb⟩; have kp := (Blk.new _ _ _).step hb; have e1 := kp.cell; have g1 := kp.froz; have l1 := kp.lt; have hB := ((Below.refl w.heap.size w).alloc (Nat.le_refl _) (.cells #[.int .i64 k, .int .i64 u, .int .i64 s, .int .i64 a, .int .i64 x, .int .i64 y, .int .i64 z, .int .i64 t] 45)).trans (hb.mono (by simp)); clear hb))
  go_ret
  exact ⟨rfl, by (repeat (first | exact hB | (with_reducible refine Below.setCell ?_ (by (try simp) <;> omega) _) | (with_reducible refine Below.alloc ?_ (by (try simp) <;> omega) _)))⟩

set_option maxHeartbeats 2000000 in
theorem remay_bad1 (k : Int) (u s a x y z t : Int) (w : World) (HP : ∀ w, Calls Tryz.prog 44 #[.agg #[.int .i64 k, .int .i64 u, .int .i64 s, .int .i64 a, .int .i64 x, .int .i64 y, .int .i64 z, .int .i64 t]] w fun e w' => e = .returned (.tuple #[.agg #[.int .i64 k, .int .i64 u, .int .i64 s, .int .i64 a, .int .i64 x, .int .i64 y, .int .i64 z, .int .i64 t], .bool true]) ∧ Below w.heap.size w w') (l_user : 0 ≤ u) (u_user : 7 < u) :
    Calls Tryz.prog 31 #[.agg #[.int .i64 k, .int .i64 u, .int .i64 s, .int .i64 a, .int .i64 x, .int .i64 y, .int .i64 z, .int .i64 t]] w fun e w' => e = .returned (.bool false) ∧ Below w.heap.size w w' := by
  have HP := Lib.hid HP
  have dl_user : decide (u < 0) = false := by simp; omega
  have du_user : decide ((8 : Int) ≤ u) = true := by simp; omega
  go_enter Tryz.func31, Tryz.ntmps31
  go_wp2_with (first | (go_at_call 44; (with_reducible refine (HP.out _).mono ?_); rintro e w1 ⟨rfl, hb⟩; have kp := (Blk.new _ _ _).step hb; have e1 := kp.cell; have g1 := kp.froz; have l1 := kp.lt; have hB := ((Below.refl w.heap.size w).alloc (Nat.le_refl _) (.cells #[.int .i64 k, .int .i64 u, .int .i64 s, .int .i64 a, .int .i64 x, .int .i64 y, .int .i64 z, .int .i64 t] 45)).trans (hb.mono (by simp)); clear hb))
  go_ret
  exact ⟨rfl, by (repeat (first | exact hB | (with_reducible refine Below.setCell ?_ (by (try simp) <;> omega) _) | (with_reducible refine Below.alloc ?_ (by (try simp) <;> omega) _)))⟩

set_option maxHeartbeats 2000000 in
theorem remay_bad2 (k : Int) (u s a x y z t : Int) (w : World) (HP : ∀ w, Calls Tryz.prog 44 #[.agg #[.int .i64 k, .int .i64 u, .int .i64 s, .int .i64 a, .int .i64 x, .int .i64 y, .int .i64 z, .int .i64 t]] w fun e w' => e = .returned (.tuple #[.agg #[.int .i64 k, .int .i64 u, .int .i64 s, .int .i64 a, .int .i64 x, .int .i64 y, .int .i64 z, .int .i64 t], .bool true]) ∧ Below w.heap.size w w') (l_user : 0 ≤ u) (u_user : u ≤ 7) (l_address : a < 0) :
    Calls Tryz.prog 31 #[.agg #[.int .i64 k, .int .i64 u, .int .i64 s, .int .i64 a, .int .i64 x, .int .i64 y, .int .i64 z, .int .i64 t]] w fun e w' => e = .returned (.bool false) ∧ Below w.heap.size w w' := by
  have HP := Lib.hid HP
  have dl_user : decide (u < 0) = false := by simp; omega
  have du_user : decide ((8 : Int) ≤ u) = false := by simp; omega
  have dl_address : decide (a < 0) = true := by simp; omega
  go_enter Tryz.func31, Tryz.ntmps31
  go_wp2_with (first | (go_at_call 44; (with_reducible refine (HP.out _).mono ?_); rintro e w1 ⟨rfl, hb⟩; have kp := (Blk.new _ _ _).step hb; have e1 := kp.cell; have g1 := kp.froz; have l1 := kp.lt; have hB := ((Below.refl w.heap.size w).alloc (Nat.le_refl _) (.cells #[.int .i64 k, .int .i64 u, .int .i64 s, .int .i64 a, .int .i64 x, .int .i64 y, .int .i64 z, .int .i64 t] 45)).trans (hb.mono (by simp)); clear hb))
  go_ret
  exact ⟨rfl, by (repeat (first | exact hB | (with_reducible refine Below.setCell ?_ (by (try simp) <;> omega) _) | (with_reducible refine Below.alloc ?_ (by (try simp) <;> omega) _)))⟩

set_option maxHeartbeats 2000000 in
theorem remay_bad3 (k : Int) (u s a x y z t : Int) (w : World) (HP : ∀ w, Calls Tryz.prog 44 #[.agg #[.int .i64 k, .int .i64 u, .int .i64 s, .int .i64 a, .int .i64 x, .int .i64 y, .int .i64 z, .int .i64 t]] w fun e w' => e = .returned (.tuple #[.agg #[.int .i64 k, .int .i64 u, .int .i64 s, .int .i64 a, .int .i64 x, .int .i64 y, .int .i64 z, .int .i64 t], .bool true]) ∧ Below w.heap.size w w') (l_user : 0 ≤ u) (u_user : u ≤ 7) (l_address : 0 ≤ a) (u_address : 15 < a) :
    Calls Tryz.prog 31 #[.agg #[.int .i64 k, .int .i64 u, .int .i64 s, .int .i64 a, .int .i64 x, .int .i64 y, .int .i64 z, .int .i64 t]] w fun e w' => e = .returned (.bool false) ∧ Below w.heap.size w w' := by
  have HP := Lib.hid HP
  have dl_user : decide (u < 0) = false := by simp; omega
  have du_user : decide ((8 : Int) ≤ u) = false := by simp; omega
  have dl_address : decide (a < 0) = false := by simp; omega
  have du_address : decide ((16 : Int) ≤ a) = true := by simp; omega
  go_enter Tryz.func31, Tryz.ntmps31
  go_wp2_with (first | (go_at_call 44; (with_reducible refine (HP.out _).mono ?_); rintro e w1 ⟨rfl, hb⟩; have kp := (Blk.new _ _ _).step hb; have e1 := kp.cell; have g1 := kp.froz; have l1 := kp.lt; have hB := ((Below.refl w.heap.size w).alloc (Nat.le_refl _) (.cells #[.int .i64 k, .int .i64 u, .int .i64 s, .int .i64 a, .int .i64 x, .int .i64 y, .int .i64 z, .int .i64 t] 45)).trans (hb.mono (by simp)); clear hb))
  go_ret
  exact ⟨rfl, by (repeat (first | exact hB | (with_reducible refine Below.setCell ?_ (by (try simp) <;> omega) _) | (with_reducible refine Below.alloc ?_ (by (try simp) <;> omega) _)))⟩

set_option maxHeartbeats 2000000 in
theorem remay_bad4 (k : Int) (u s a x y z t : Int) (w : World) (HP : ∀ w, Calls Tryz.prog 44 #[.agg #[.int .i64 k, .int .i64 u, .int .i64 s, .int .i64 a, .int .i64 x, .int .i64 y, .int .i64 z, .int .i64 t]] w fun e w' => e = .returned (.tuple #[.agg #[.int .i64 k, .int .i64 u, .int .i64 s, .int .i64 a, .int .i64 x, .int .i64 y, .int .i64 z, .int .i64 t], .bool true]) ∧ Below w.heap.size w w') (l_user : 0 ≤ u) (u_user : u ≤ 7) (l_address : 0 ≤ a) (u_address : a ≤ 15) (l_tick : t < 0) :
    Calls Tryz.prog 31 #[.agg #[.int .i64 k, .int .i64 u, .int .i64 s, .int .i64 a, .int .i64 x, .int .i64 y, .int .i64 z, .int .i64 t]] w fun e w' => e = .returned (.bool false) ∧ Below w.heap.size w w' := by
  have HP := Lib.hid HP
  have dl_user : decide (u < 0) = false := by simp; omega
  have du_user : decide ((8 : Int) ≤ u) = false := by simp; omega
  have dl_address : decide (a < 0) = false := by simp; omega
  have du_address : decide ((16 : Int) ≤ a) = false := by simp; omega
  have dl_tick : decide (t < 0) = true := by simp; omega
  go_enter Tryz.func31, Tryz.ntmps31
  go_wp2_with (first | (go_at_call 44; (with_reducible refine (HP.out _).mono ?_); rintro e w1 ⟨rfl, hb⟩; have kp := (Blk.new _ _ _).step hb; have e1 := kp.cell; have g1 := kp.froz; have l1 := kp.lt; have hB := ((Below.refl w.heap.size w).alloc (Nat.le_refl _) (.cells #[.int .i64 k, .int .i64 u, .int .i64 s, .int .i64 a, .int .i64 x, .int .i64 y, .int .i64 z, .int .i64 t] 45)).trans (hb.mono (by simp)); clear hb))
  go_ret
  exact ⟨rfl, by (repeat (first | exact hB | (with_reducible refine Below.setCell ?_ (by (try simp) <;> omega) _) | (with_reducible refine Below.alloc ?_ (by (try simp) <;> omega) _)))⟩

set_option maxHeartbeats 2000000 in
theorem remay_bad5 (k : Int) (u s a x y z t : Int) (w : World) (HP : ∀ w, Calls Tryz.prog 44 #[.agg #[.int .i64 k, .int .i64 u, .int .i64 s, .int .i64 a, .int .i64 x, .int .i64 y, .int .i64 z, .int .i64 t]] w fun e w' => e = .returned (.tuple #[.agg #[.int .i64 k, .int .i64 u, .int .i64 s, .int .i64 a, .int .i64 x, .int .i64 y, .int .i64 z, .int .i64 t], .bool true]) ∧ Below w.heap.size w w') (l_user : 0 ≤ u) (u_user : u ≤ 7) (l_address : 0 ≤ a) (u_address : a ≤ 15) (l_tick : 0 ≤ t) (u_tick : 1048575 < t) :
    Calls Tryz.prog 31 #[.agg #[.int .i64 k, .int .i64 u, .int .i64 s, .int .i64 a, .int .i64 x, .int .i64 y, .int .i64 z, .int .i64 t]] w fun e w' => e = .returned (.bool false) ∧ Below w.heap.size w w' := by
  have HP := Lib.hid HP
  have dl_user : decide (u < 0) = false := by simp; omega
  have du_user : decide ((8 : Int) ≤ u) = false := by simp; omega
  have dl_address : decide (a < 0) = false := by simp; omega
  have du_address : decide ((16 : Int) ≤ a) = false := by simp; omega
  have dl_tick : decide (t < 0) = false := by simp; omega
  have du_tick : decide ((1048575 : Int) < t) = true := by simp; omega
  go_enter Tryz.func31, Tryz.ntmps31
  go_wp2_with (first | (go_at_call 44; (with_reducible refine (HP.out _).mono ?_); rintro e w1 ⟨rfl, hb⟩; have kp := (Blk.new _ _ _).step hb; have e1 := kp.cell; have g1 := kp.froz; have l1 := kp.lt; have hB := ((Below.refl w.heap.size w).alloc (Nat.le_refl _) (.cells #[.int .i64 k, .int .i64 u, .int .i64 s, .int .i64 a, .int .i64 x, .int .i64 y, .int .i64 z, .int .i64 t] 45)).trans (hb.mono (by simp)); clear hb))
  go_ret
  exact ⟨rfl, by (repeat (first | exact hB | (with_reducible refine Below.setCell ?_ (by (try simp) <;> omega) _) | (with_reducible refine Below.alloc ?_ (by (try simp) <;> omega) _)))⟩

set_option maxHeartbeats 2000000 in
theorem remay_bad6 (k : Int) (u s a x y z t : Int) (w : World) (HP : ∀ w, Calls Tryz.prog 44 #[.agg #[.int .i64 k, .int .i64 u, .int .i64 s, .int .i64 a, .int .i64 x, .int .i64 y, .int .i64 z, .int .i64 t]] w fun e w' => e = .returned (.tuple #[.agg #[.int .i64 k, .int .i64 u, .int .i64 s, .int .i64 a, .int .i64 x, .int .i64 y, .int .i64 z, .int .i64 t], .bool true]) ∧ Below w.heap.size w w') (l_user : 0 ≤ u) (u_user : u ≤ 7) (l_address : 0 ≤ a) (u_address : a ≤ 15) (l_tick : 0 ≤ t) (u_tick : t ≤ 1048575) (n_session : okNum s = false) :
    Calls Tryz.prog 31 #[.agg #[.int .i64 k, .int .i64 u, .int .i64 s, .int .i64 a, .int .i64 x, .int .i64 y, .int .i64 z, .int .i64 t]] w fun e w' => e = .returned (.bool false) ∧ Below w.heap.size w w' := by
  have HP := Lib.hid HP
  have dl_user : decide (u < 0) = false := by simp; omega
  have du_user : decide ((8 : Int) ≤ u) = false := by simp; omega
  have dl_address : decide (a < 0) = false := by simp; omega
  have du_address : decide ((16 : Int) ≤ a) = false := by simp; omega
  have dl_tick : decide (t < 0) = false := by simp; omega
  have du_tick : decide ((1048575 : Int) < t) = false := by simp; omega
  have N_session := Lib.hid (rnumb s false n_session)
  clear n_session
  go_enter Tryz.func31, Tryz.ntmps31
  go_wp2_with (first | (go_at_call 44; (with_reducible refine (HP.out _).mono ?_); rintro e w1 ⟨rfl, hb⟩; have kp := (Blk.new _ _ _).step hb; have e1 := kp.cell; have g1 := kp.froz; have l1 := kp.lt; have hB := ((Below.refl w.heap.size w).alloc (Nat.le_refl _) (.cells #[.int .i64 k, .int .i64 u, .int .i64 s, .int .i64 a, .int .i64 x, .int .i64 y, .int .i64 z, .int .i64 t] 45)).trans (hb.mono (by simp)); clear hb) | (go_at_call 45; ((with_reducible refine (N_session.out _).mono ?_); rintro e w1 ⟨rfl, rfl⟩)))
  go_ret
  exact ⟨rfl, by (repeat (first | exact hB | (with_reducible refine Below.setCell ?_ (by (try simp) <;> omega) _) | (with_reducible refine Below.alloc ?_ (by (try simp) <;> omega) _)))⟩

set_option maxHeartbeats 2000000 in
theorem remay_bad7 (k : Int) (u s a x y z t : Int) (w : World) (HP : ∀ w, Calls Tryz.prog 44 #[.agg #[.int .i64 k, .int .i64 u, .int .i64 s, .int .i64 a, .int .i64 x, .int .i64 y, .int .i64 z, .int .i64 t]] w fun e w' => e = .returned (.tuple #[.agg #[.int .i64 k, .int .i64 u, .int .i64 s, .int .i64 a, .int .i64 x, .int .i64 y, .int .i64 z, .int .i64 t], .bool true]) ∧ Below w.heap.size w w') (l_user : 0 ≤ u) (u_user : u ≤ 7) (l_address : 0 ≤ a) (u_address : a ≤ 15) (l_tick : 0 ≤ t) (u_tick : t ≤ 1048575) (n_session : okNum s = true) (n_a : okNum x = false) :
    Calls Tryz.prog 31 #[.agg #[.int .i64 k, .int .i64 u, .int .i64 s, .int .i64 a, .int .i64 x, .int .i64 y, .int .i64 z, .int .i64 t]] w fun e w' => e = .returned (.bool false) ∧ Below w.heap.size w w' := by
  have HP := Lib.hid HP
  have dl_user : decide (u < 0) = false := by simp; omega
  have du_user : decide ((8 : Int) ≤ u) = false := by simp; omega
  have dl_address : decide (a < 0) = false := by simp; omega
  have du_address : decide ((16 : Int) ≤ a) = false := by simp; omega
  have dl_tick : decide (t < 0) = false := by simp; omega
  have du_tick : decide ((1048575 : Int) < t) = false := by simp; omega
  have N_session := Lib.hid (rnumb s true n_session)
  clear n_session
  have N_a := Lib.hid (rnumb x false n_a)
  clear n_a
  go_enter Tryz.func31, Tryz.ntmps31
  go_wp2_with (first | (go_at_call 44; (with_reducible refine (HP.out _).mono ?_); rintro e w1 ⟨rfl, hb⟩; have kp := (Blk.new _ _ _).step hb; have e1 := kp.cell; have g1 := kp.froz; have l1 := kp.lt; have hB := ((Below.refl w.heap.size w).alloc (Nat.le_refl _) (.cells #[.int .i64 k, .int .i64 u, .int .i64 s, .int .i64 a, .int .i64 x, .int .i64 y, .int .i64 z, .int .i64 t] 45)).trans (hb.mono (by simp)); clear hb) | (go_at_call 45; first | ((with_reducible refine (N_session.out _).mono ?_); rintro e w1 ⟨rfl, rfl⟩) | ((with_reducible refine (N_a.out _).mono ?_); rintro e w1 ⟨rfl, rfl⟩)))
  go_ret
  exact ⟨rfl, by (repeat (first | exact hB | (with_reducible refine Below.setCell ?_ (by (try simp) <;> omega) _) | (with_reducible refine Below.alloc ?_ (by (try simp) <;> omega) _)))⟩

set_option maxHeartbeats 2000000 in
theorem remay_bad8 (k : Int) (u s a x y z t : Int) (w : World) (HP : ∀ w, Calls Tryz.prog 44 #[.agg #[.int .i64 k, .int .i64 u, .int .i64 s, .int .i64 a, .int .i64 x, .int .i64 y, .int .i64 z, .int .i64 t]] w fun e w' => e = .returned (.tuple #[.agg #[.int .i64 k, .int .i64 u, .int .i64 s, .int .i64 a, .int .i64 x, .int .i64 y, .int .i64 z, .int .i64 t], .bool true]) ∧ Below w.heap.size w w') (l_user : 0 ≤ u) (u_user : u ≤ 7) (l_address : 0 ≤ a) (u_address : a ≤ 15) (l_tick : 0 ≤ t) (u_tick : t ≤ 1048575) (n_session : okNum s = true) (n_a : okNum x = true) (n_b : okNum y = false) :
    Calls Tryz.prog 31 #[.agg #[.int .i64 k, .int .i64 u, .int .i64 s, .int .i64 a, .int .i64 x, .int .i64 y, .int .i64 z, .int .i64 t]] w fun e w' => e = .returned (.bool false) ∧ Below w.heap.size w w' := by
  have HP := Lib.hid HP
  have dl_user : decide (u < 0) = false := by simp; omega
  have du_user : decide ((8 : Int) ≤ u) = false := by simp; omega
  have dl_address : decide (a < 0) = false := by simp; omega
  have du_address : decide ((16 : Int) ≤ a) = false := by simp; omega
  have dl_tick : decide (t < 0) = false := by simp; omega
  have du_tick : decide ((1048575 : Int) < t) = false := by simp; omega
  have N_session := Lib.hid (rnumb s true n_session)
  clear n_session
  have N_a := Lib.hid (rnumb x true n_a)
  clear n_a
  have N_b := Lib.hid (rnumb y false n_b)
  clear n_b
  go_enter Tryz.func31, Tryz.ntmps31
  go_wp2_with (first | (go_at_call 44; (with_reducible refine (HP.out _).mono ?_); rintro e w1 ⟨rfl, hb⟩; have kp := (Blk.new _ _ _).step hb; have e1 := kp.cell; have g1 := kp.froz; have l1 := kp.lt; have hB := ((Below.refl w.heap.size w).alloc (Nat.le_refl _) (.cells #[.int .i64 k, .int .i64 u, .int .i64 s, .int .i64 a, .int .i64 x, .int .i64 y, .int .i64 z, .int .i64 t] 45)).trans (hb.mono (by simp)); clear hb) | (go_at_call 45; first | ((with_reducible refine (N_session.out _).mono ?_); rintro e w1 ⟨rfl, rfl⟩) | ((with_reducible refine (N_a.out _).mono ?_); rintro e w1 ⟨rfl, rfl⟩) | ((with_reducible refine (N_b.out _).mono ?_); rintro e w1 ⟨rfl, rfl⟩)))
  go_ret
  exact ⟨rfl, by (repeat (first | exact hB | (with_reducible refine Below.setCell ?_ (by (try simp) <;> omega) _) | (with_reducible refine Below.alloc ?_ (by (try simp) <;> omega) _)))⟩

set_option maxHeartbeats 2000000 in
theorem remay_bad9 (k : Int) (u s a x y z t : Int) (w : World) (HP : ∀ w, Calls Tryz.prog 44 #[.agg #[.int .i64 k, .int .i64 u, .int .i64 s, .int .i64 a, .int .i64 x, .int .i64 y, .int .i64 z, .int .i64 t]] w fun e w' => e = .returned (.tuple #[.agg #[.int .i64 k, .int .i64 u, .int .i64 s, .int .i64 a, .int .i64 x, .int .i64 y, .int .i64 z, .int .i64 t], .bool true]) ∧ Below w.heap.size w w') (l_user : 0 ≤ u) (u_user : u ≤ 7) (l_address : 0 ≤ a) (u_address : a ≤ 15) (l_tick : 0 ≤ t) (u_tick : t ≤ 1048575) (n_session : okNum s = true) (n_a : okNum x = true) (n_b : okNum y = true) (l_c : z < 0) :
    Calls Tryz.prog 31 #[.agg #[.int .i64 k, .int .i64 u, .int .i64 s, .int .i64 a, .int .i64 x, .int .i64 y, .int .i64 z, .int .i64 t]] w fun e w' => e = .returned (.bool false) ∧ Below w.heap.size w w' := by
  have HP := Lib.hid HP
  have dl_user : decide (u < 0) = false := by simp; omega
  have du_user : decide ((8 : Int) ≤ u) = false := by simp; omega
  have dl_address : decide (a < 0) = false := by simp; omega
  have du_address : decide ((16 : Int) ≤ a) = false := by simp; omega
  have dl_tick : decide (t < 0) = false := by simp; omega
  have du_tick : decide ((1048575 : Int) < t) = false := by simp; omega
  have N_session := Lib.hid (rnumb s true n_session)
  clear n_session
  have N_a := Lib.hid (rnumb x true n_a)
  clear n_a
  have N_b := Lib.hid (rnumb y true n_b)
  clear n_b
  have dl_c : decide (z < 0) = true := by simp; omega
  go_enter Tryz.func31, Tryz.ntmps31
  go_wp2_with (first | (go_at_call 44; (with_reducible refine (HP.out _).mono ?_); rintro e w1 ⟨rfl, hb⟩; have kp := (Blk.new _ _ _).step hb; have e1 := kp.cell; have g1 := kp.froz; have l1 := kp.lt; have hB := ((Below.refl w.heap.size w).alloc (Nat.le_refl _) (.cells #[.int .i64 k, .int .i64 u, .int .i64 s, .int .i64 a, .int .i64 x, .int .i64 y, .int .i64 z, .int .i64 t] 45)).trans (hb.mono (by simp)); clear hb) | (go_at_call 45; first | ((with_reducible refine (N_session.out _).mono ?_); rintro e w1 ⟨rfl, rfl⟩) | ((with_reducible refine (N_a.out _).mono ?_); rintro e w1 ⟨rfl, rfl⟩) | ((with_reducible refine (N_b.out _).mono ?_); rintro e w1 ⟨rfl, rfl⟩)))
  go_ret
  exact ⟨rfl, by (repeat (first | exact hB | (with_reducible refine Below.setCell ?_ (by (try simp) <;> omega) _) | (with_reducible refine Below.alloc ?_ (by (try simp) <;> omega) _)))⟩

set_option maxHeartbeats 2000000 in
theorem remay_bad10 (k : Int) (u s a x y z t : Int) (w : World) (HP : ∀ w, Calls Tryz.prog 44 #[.agg #[.int .i64 k, .int .i64 u, .int .i64 s, .int .i64 a, .int .i64 x, .int .i64 y, .int .i64 z, .int .i64 t]] w fun e w' => e = .returned (.tuple #[.agg #[.int .i64 k, .int .i64 u, .int .i64 s, .int .i64 a, .int .i64 x, .int .i64 y, .int .i64 z, .int .i64 t], .bool true]) ∧ Below w.heap.size w w') (l_user : 0 ≤ u) (u_user : u ≤ 7) (l_address : 0 ≤ a) (u_address : a ≤ 15) (l_tick : 0 ≤ t) (u_tick : t ≤ 1048575) (n_session : okNum s = true) (n_a : okNum x = true) (n_b : okNum y = true) (l_c : 0 ≤ z) (u_c : 1048576 < z) :
    Calls Tryz.prog 31 #[.agg #[.int .i64 k, .int .i64 u, .int .i64 s, .int .i64 a, .int .i64 x, .int .i64 y, .int .i64 z, .int .i64 t]] w fun e w' => e = .returned (.bool false) ∧ Below w.heap.size w w' := by
  have HP := Lib.hid HP
  have dl_user : decide (u < 0) = false := by simp; omega
  have du_user : decide ((8 : Int) ≤ u) = false := by simp; omega
  have dl_address : decide (a < 0) = false := by simp; omega
  have du_address : decide ((16 : Int) ≤ a) = false := by simp; omega
  have dl_tick : decide (t < 0) = false := by simp; omega
  have du_tick : decide ((1048575 : Int) < t) = false := by simp; omega
  have N_session := Lib.hid (rnumb s true n_session)
  clear n_session
  have N_a := Lib.hid (rnumb x true n_a)
  clear n_a
  have N_b := Lib.hid (rnumb y true n_b)
  clear n_b
  have dl_c : decide (z < 0) = false := by simp; omega
  have du_c : decide ((1048576 : Int) < z) = true := by simp; omega
  go_enter Tryz.func31, Tryz.ntmps31
  go_wp2_with (first | (go_at_call 44; (with_reducible refine (HP.out _).mono ?_); rintro e w1 ⟨rfl, hb⟩; have kp := (Blk.new _ _ _).step hb; have e1 := kp.cell; have g1 := kp.froz; have l1 := kp.lt; have hB := ((Below.refl w.heap.size w).alloc (Nat.le_refl _) (.cells #[.int .i64 k, .int .i64 u, .int .i64 s, .int .i64 a, .int .i64 x, .int .i64 y, .int .i64 z, .int .i64 t] 45)).trans (hb.mono (by simp)); clear hb) | (go_at_call 45; first | ((with_reducible refine (N_session.out _).mono ?_); rintro e w1 ⟨rfl, rfl⟩) | ((with_reducible refine (N_a.out _).mono ?_); rintro e w1 ⟨rfl, rfl⟩) | ((with_reducible refine (N_b.out _).mono ?_); rintro e w1 ⟨rfl, rfl⟩)))
  go_ret
  exact ⟨rfl, by (repeat (first | exact hB | (with_reducible refine Below.setCell ?_ (by (try simp) <;> omega) _) | (with_reducible refine Below.alloc ?_ (by (try simp) <;> omega) _)))⟩
end Go.Proofs.YtopkcaflmpjhgaaGreat

namespace Go.Proofs.YtopkcaflmpjhgaaGreat
open Go Go.RowKit

set_option maxHeartbeats 2000000 in
theorem remay_ok6 (u s a x y z t : Int) (w : World) (HP : ∀ w, Calls Tryz.prog 44 #[.agg #[.int .i64 6, .int .i64 u, .int .i64 s, .int .i64 a, .int .i64 x, .int .i64 y, .int .i64 z, .int .i64 t]] w fun e w' => e = .returned (.tuple #[.agg #[.int .i64 6, .int .i64 u, .int .i64 s, .int .i64 a, .int .i64 x, .int .i64 y, .int .i64 z, .int .i64 t], .bool true]) ∧ Below w.heap.size w w') (l_user : 0 ≤ u) (u_user : u ≤ 7) (l_address : 0 ≤ a) (u_address : a ≤ 15) (l_tick : 0 ≤ t) (u_tick : t ≤ 1048575) (n_session : okNum s = true) (n_a : okNum x = true) (n_b : okNum y = true) (l_c : 0 ≤ z) (u_c : z ≤ 1048576) :
    Calls Tryz.prog 31 #[.agg #[.int .i64 6, .int .i64 u, .int .i64 s, .int .i64 a, .int .i64 x, .int .i64 y, .int .i64 z, .int .i64 t]] w fun e w' => e = .returned (.bool (decide (y ≤ 4))) ∧ Below w.heap.size w w' := by
  have HP := Lib.hid HP
  have dl_user : decide (u < 0) = false := by simp; omega
  have du_user : decide ((8 : Int) ≤ u) = false := by simp; omega
  have dl_address : decide (a < 0) = false := by simp; omega
  have du_address : decide ((16 : Int) ≤ a) = false := by simp; omega
  have dl_tick : decide (t < 0) = false := by simp; omega
  have du_tick : decide ((1048575 : Int) < t) = false := by simp; omega
  have N_session := Lib.hid (rnumb s true n_session)
  clear n_session
  have N_a := Lib.hid (rnumb x true n_a)
  clear n_a
  have N_b := Lib.hid (rnumb y true n_b)
  clear n_b
  have dl_c : decide (z < 0) = false := by simp; omega
  have du_c : decide ((1048576 : Int) < z) = false := by simp; omega
  go_enter Tryz.func31, Tryz.ntmps31
  go_wp2_with (first | (go_at_call 44; (with_reducible refine (HP.out _).mono ?_); rintro e w1 ⟨rfl, hb⟩; have kp := (Blk.new _ _ _).step hb; have e1 := kp.cell; have g1 := kp.froz; have l1 := kp.lt; have hB := ((Below.refl w.heap.size w).alloc (Nat.le_refl _) (.cells #[.int .i64 6, .int .i64 u, .int .i64 s, .int .i64 a, .int .i64 x, .int .i64 y, .int .i64 z, .int .i64 t] 45)).trans (hb.mono (by simp)); clear hb) | (go_at_call 45; first | ((with_reducible refine (N_session.out _).mono ?_); rintro e w1 ⟨rfl, rfl⟩) | ((with_reducible refine (N_a.out _).mono ?_); rintro e w1 ⟨rfl, rfl⟩) | ((with_reducible refine (N_b.out _).mono ?_); rintro e w1 ⟨rfl, rfl⟩)))
  go_ret
  exact ⟨rfl, by (repeat (first | exact hB | (with_reducible refine Below.setCell ?_ (by (try simp) <;> omega) _) | (with_reducible refine Below.alloc ?_ (by (try simp) <;> omega) _)))⟩

set_option maxHeartbeats 2000000 in
theorem remay_ok (k : Int) (u s a x y z t : Int) (w : World) (HP : ∀ w, Calls Tryz.prog 44 #[.agg #[.int .i64 k, .int .i64 u, .int .i64 s, .int .i64 a, .int .i64 x, .int .i64 y, .int .i64 z, .int .i64 t]] w fun e w' => e = .returned (.tuple #[.agg #[.int .i64 k, .int .i64 u, .int .i64 s, .int .i64 a, .int .i64 x, .int .i64 y, .int .i64 z, .int .i64 t], .bool true]) ∧ Below w.heap.size w w') (l_user : 0 ≤ u) (u_user : u ≤ 7) (l_address : 0 ≤ a) (u_address : a ≤ 15) (l_tick : 0 ≤ t) (u_tick : t ≤ 1048575) (n_session : okNum s = true) (n_a : okNum x = true) (n_b : okNum y = true) (l_c : 0 ≤ z) (u_c : z ≤ 1048576) (hk : k ≠ 6) :
    Calls Tryz.prog 31 #[.agg #[.int .i64 k, .int .i64 u, .int .i64 s, .int .i64 a, .int .i64 x, .int .i64 y, .int .i64 z, .int .i64 t]] w fun e w' => e = .returned (.bool true) ∧ Below w.heap.size w w' := by
  have HP := Lib.hid HP
  have dl_user : decide (u < 0) = false := by simp; omega
  have du_user : decide ((8 : Int) ≤ u) = false := by simp; omega
  have dl_address : decide (a < 0) = false := by simp; omega
  have du_address : decide ((16 : Int) ≤ a) = false := by simp; omega
  have dl_tick : decide (t < 0) = false := by simp; omega
  have du_tick : decide ((1048575 : Int) < t) = false := by simp; omega
  have N_session := Lib.hid (rnumb s true n_session)
  clear n_session
  have N_a := Lib.hid (rnumb x true n_a)
  clear n_a
  have N_b := Lib.hid (rnumb y true n_b)
  clear n_b
  have dl_c : decide (z < 0) = false := by simp; omega
  have du_c : decide ((1048576 : Int) < z) = false := by simp; omega
  have gk : (k != 6) = true := by simpa using hk
  have gk2 : (k == 6) = false := by simpa using hk
  clear hk
  go_enter Tryz.func31, Tryz.ntmps31
  go_wp2_with (first | (go_at_call 44; (with_reducible refine (HP.out _).mono ?_); rintro e w1 ⟨rfl, hb⟩; have kp := (Blk.new _ _ _).step hb; have e1 := kp.cell; have g1 := kp.froz; have l1 := kp.lt; have hB := ((Below.refl w.heap.size w).alloc (Nat.le_refl _) (.cells #[.int .i64 k, .int .i64 u, .int .i64 s, .int .i64 a, .int .i64 x, .int .i64 y, .int .i64 z, .int .i64 t] 45)).trans (hb.mono (by simp)); clear hb) | (go_at_call 45; first | ((with_reducible refine (N_session.out _).mono ?_); rintro e w1 ⟨rfl, rfl⟩) | ((with_reducible refine (N_a.out _).mono ?_); rintro e w1 ⟨rfl, rfl⟩) | ((with_reducible refine (N_b.out _).mono ?_); rintro e w1 ⟨rfl, rfl⟩)))
  go_ret
  exact ⟨rfl, by (repeat (first | exact hB | (with_reducible refine Below.setCell ?_ (by (try simp) <;> omega) _) | (with_reducible refine Below.alloc ?_ (by (try simp) <;> omega) _)))⟩

theorem remay_rng {p : Ev} (h : p.rng = false) : p.may = false := by unfold Ev.may; rw [h]; rfl
set_option maxHeartbeats 2000000 in
theorem remay (p : Ev) (w : World) : Calls Tryz.prog 31 #[p.val] w fun e w' => e = .returned (.bool p.may) ∧ Below w.heap.size w w' := by
  have HP := fun w => remay_part p w
  cases hp : p.part with
  | none =>
    rw [show p.pi = false by unfold Ev.pi; rw [hp]; rfl] at HP
    rw [show p.may = false by unfold Ev.may; rw [hp]; simp]
    generalize p.pv = v at *
    obtain ⟨k, u, s, a, x, y, z, t⟩ := p
    obtain ⟨k2, y1, y2, y3, y4, y5, y6, y7⟩ := v
    exact remay_no k u s a x y z t k2 y1 y2 y3 y4 y5 y6 y7 w HP
  | some v =>
    rw [show p.pi = true by unfold Ev.pi; rw [hp]; rfl, show p.pv = v by unfold Ev.pv; rw [hp]; rfl] at HP
    by_cases hv : v = p
    · subst hv
      obtain ⟨k, u, s, a, x, y, z, t⟩ := v
      by_cases l_user : u < 0
      · rw [remay_rng (by unfold Ev.rng; simp; omega)]; exact remay_bad0 k u s a x y z t w HP l_user
      replace l_user : 0 ≤ u := by omega
      by_cases u_user : 7 < u
      · rw [remay_rng (by unfold Ev.rng; simp; omega)]; exact remay_bad1 k u s a x y z t w HP l_user u_user
      replace u_user : u ≤ 7 := by omega
      by_cases l_address : a < 0
      · rw [remay_rng (by unfold Ev.rng; simp; omega)]; exact remay_bad2 k u s a x y z t w HP l_user u_user l_address
      replace l_address : 0 ≤ a := by omega
      by_cases u_address : 15 < a
      · rw [remay_rng (by unfold Ev.rng; simp; omega)]; exact remay_bad3 k u s a x y z t w HP l_user u_user l_address u_address
      replace u_address : a ≤ 15 := by omega
      by_cases l_tick : t < 0
      · rw [remay_rng (by unfold Ev.rng; simp; omega)]; exact remay_bad4 k u s a x y z t w HP l_user u_user l_address u_address l_tick
      replace l_tick : 0 ≤ t := by omega
      by_cases u_tick : 1048575 < t
      · rw [remay_rng (by unfold Ev.rng; simp; omega)]; exact remay_bad5 k u s a x y z t w HP l_user u_user l_address u_address l_tick u_tick
      replace u_tick : t ≤ 1048575 := by omega
      by_cases n_session : okNum s = false
      · rw [remay_rng (by unfold Ev.rng; simp [n_session])]; exact remay_bad6 k u s a x y z t w HP l_user u_user l_address u_address l_tick u_tick n_session
      replace n_session : okNum s = true := by simpa using n_session
      by_cases n_a : okNum x = false
      · rw [remay_rng (by unfold Ev.rng; simp [n_a])]; exact remay_bad7 k u s a x y z t w HP l_user u_user l_address u_address l_tick u_tick n_session n_a
      replace n_a : okNum x = true := by simpa using n_a
      by_cases n_b : okNum y = false
      · rw [remay_rng (by unfold Ev.rng; simp [n_b])]; exact remay_bad8 k u s a x y z t w HP l_user u_user l_address u_address l_tick u_tick n_session n_a n_b
      replace n_b : okNum y = true := by simpa using n_b
      by_cases l_c : z < 0
      · rw [remay_rng (by unfold Ev.rng; simp; omega)]; exact remay_bad9 k u s a x y z t w HP l_user u_user l_address u_address l_tick u_tick n_session n_a n_b l_c
      replace l_c : 0 ≤ z := by omega
      by_cases u_c : 1048576 < z
      · rw [remay_rng (by unfold Ev.rng; simp; omega)]; exact remay_bad10 k u s a x y z t w HP l_user u_user l_address u_address l_tick u_tick n_session n_a n_b l_c u_c
      replace u_c : z ≤ 1048576 := by omega
      have hr : (Ev.mk k u s a x y z t).rng = true := (Ev.rng_iff _).2 ⟨l_user, u_user, l_address, u_address, l_tick, u_tick, l_c, u_c, n_session, n_a, n_b⟩
      have hm : (Ev.mk k u s a x y z t).may = (Ev.mk k u s a x y z t).lim := by unfold Ev.may; rw [hr, hp]; simp
      rw [hm]
      by_cases hk : k = 6
      · subst hk
        rw [show (Ev.mk 6 u s a x y z t).lim = decide (y ≤ 4) by simp [Ev.lim]]
        exact remay_ok6 u s a x y z t w HP l_user u_user l_address u_address l_tick u_tick n_session n_a n_b l_c u_c
      · rw [show (Ev.mk k u s a x y z t).lim = true by simp [Ev.lim, hk]]
        exact remay_ok k u s a x y z t w HP l_user u_user l_address u_address l_tick u_tick n_session n_a n_b l_c u_c hk
    · rw [show p.may = false by unfold Ev.may; rw [hp]; simp [hv]]
      obtain ⟨k, u, s, a, x, y, z, t⟩ := p
      obtain ⟨k2, y1, y2, y3, y4, y5, y6, y7⟩ := v
      exact remay_ne k u s a x y z t k2 y1 y2 y3 y4 y5 y6 y7 w HP (fun e0 e1 e2 e3 e4 e5 e6 e7 => hv (by rw [e0, e1, e2, e3, e4, e5, e6, e7]))
end Go.Proofs.YtopkcaflmpjhgaaGreat

