/- The reference's GetSuper, the ways that refuse early. Conditions: as typed. -/
import Derived.Test.YtiebpjkppjollaaDoorSug0
namespace Go.Proofs.YtiebpjkppjollaaDoor
open Go Go.RowKit

set_option maxRecDepth 100000 in
set_option maxHeartbeats 8000000 in
theorem drsget_size (p : Nat) (most : Int) (ts : List ByteArray) (s : ByteArray) {w : World} {F : List Nat} (HS : Hid (∀ (n : Nat) (c1 : Array Value), Becomes F (sgA w.heap.size c1 p most ts) w ((w.drewN n).alloc (.cells c1 88))))
    {v1 v2 a1 a2 : Int} {b1 b2 : Bool} (H1 : Hid (SdN s 0 false v1 a1 b1)) (H2 : Hid (SdN s a1 b1 v2 a2 b2)) (c1 : s.size ≠ 64) :
    Calls Tryd.prog 27 #[.pointer (some ⟨p, 0, none⟩), .string s] w fun e w' => e = .returned (.tuple #[.int .i64 0, .int .i64 1000]) ∧ Becomes F (refA p most ts) w w' := by
  have c1' : ((s.size : Int) != 64) = true := by simp; omega
  go_enter Tryd.func27, Tryd.ntmps27
  go_wp2_with (go_at_call 44; first
    | ((with_reducible refine (H1.out _ _ (by simp)).mono ?_); rintro e w1 ⟨rfl, m1, rfl⟩)
    | ((with_reducible refine (H2.out _ _ (by simp)).mono ?_); rintro e w1 ⟨rfl, m2, rfl⟩))
  go_quiet (fail)
  all_goals
    go_wp2
    go_ret2
    exact ⟨rfl, ((HS.out _ _).lay (sgA_good _ _ _ _ _) (below_drewN _ _)).drop⟩
set_option maxRecDepth 100000 in
set_option maxHeartbeats 8000000 in
theorem drsget_bad (p : Nat) (most : Int) (ts : List ByteArray) (s : ByteArray) {w : World} {F : List Nat} (HS : Hid (∀ (n : Nat) (c1 : Array Value), Becomes F (sgA w.heap.size c1 p most ts) w ((w.drewN n).alloc (.cells c1 88))))
    {v1 v2 a1 a2 : Int} {b1 : Bool} (H1 : Hid (SdN s 0 false v1 a1 b1)) (H2 : Hid (SdN s a1 b1 v2 a2 true)) (c1 : s.size = 64) :
    Calls Tryd.prog 27 #[.pointer (some ⟨p, 0, none⟩), .string s] w fun e w' => e = .returned (.tuple #[.int .i64 0, .int .i64 1000]) ∧ Becomes F (refA p most ts) w w' := by
  have c1' : ((s.size : Int) != 64) = false := by simp; omega
  go_enter Tryd.func27, Tryd.ntmps27
  go_wp2_with (go_at_call 44; first
    | ((with_reducible refine (H1.out _ _ (by simp)).mono ?_); rintro e w1 ⟨rfl, m1, rfl⟩)
    | ((with_reducible refine (H2.out _ _ (by simp)).mono ?_); rintro e w1 ⟨rfl, m2, rfl⟩))
  have hS := HS.out (m1 + m2) #[.string s, .int .i64 a2, .bool true]
  obtain ⟨e1, f1, l1⟩ := hS.own
  go_quiet (fail)
  all_goals
    go_wp2
    go_ret2
    exact ⟨rfl, ((HS.out _ _).lay (sgA_good _ _ _ _ _) (below_drewN _ _)).drop⟩
set_option maxRecDepth 100000 in
set_option maxHeartbeats 8000000 in
theorem drsget_low (p : Nat) (most : Int) (ts : List ByteArray) (s : ByteArray) {w : World} {F : List Nat} (HS : Hid (∀ (n : Nat) (c1 : Array Value), Becomes F (sgA w.heap.size c1 p most ts) w ((w.drewN n).alloc (.cells c1 88))))
    {v1 v2 a1 a2 : Int} {b1 : Bool} (H1 : Hid (SdN s 0 false v1 a1 b1)) (H2 : Hid (SdN s a1 b1 v2 a2 false)) (c1 : s.size = 64) (d1 : v1 < 1) :
    Calls Tryd.prog 27 #[.pointer (some ⟨p, 0, none⟩), .string s] w fun e w' => e = .returned (.tuple #[.int .i64 0, .int .i64 1000]) ∧ Becomes F (refA p most ts) w w' := by
  have c1' : ((s.size : Int) != 64) = false := by simp; omega
  have d1' : decide (v1 < 1) = true := by simpa using d1
  go_enter Tryd.func27, Tryd.ntmps27
  go_wp2_with (go_at_call 44; first
    | ((with_reducible refine (H1.out _ _ (by simp)).mono ?_); rintro e w1 ⟨rfl, m1, rfl⟩)
    | ((with_reducible refine (H2.out _ _ (by simp)).mono ?_); rintro e w1 ⟨rfl, m2, rfl⟩))
  have hS := HS.out (m1 + m2) #[.string s, .int .i64 a2, .bool false]
  obtain ⟨e1, f1, l1⟩ := hS.own
  go_quiet (fail)
  all_goals
    go_wp2
    go_ret2
    exact ⟨rfl, ((HS.out _ _).lay (sgA_good _ _ _ _ _) (below_drewN _ _)).drop⟩
set_option maxRecDepth 100000 in
set_option maxHeartbeats 8000000 in
theorem drsget_high (p : Nat) (most : Int) (ts : List ByteArray) (s : ByteArray) {w : World} {F : List Nat} (HS : Hid (∀ (n : Nat) (c1 : Array Value), Becomes F (sgA w.heap.size c1 p most ts) w ((w.drewN n).alloc (.cells c1 88))))
    {v1 v2 a1 a2 : Int} {b1 : Bool} (H1 : Hid (SdN s 0 false v1 a1 b1)) (H2 : Hid (SdN s a1 b1 v2 a2 false)) (c1 : s.size = 64) (d1 : 1023 < v1) :
    Calls Tryd.prog 27 #[.pointer (some ⟨p, 0, none⟩), .string s] w fun e w' => e = .returned (.tuple #[.int .i64 0, .int .i64 1000]) ∧ Becomes F (refA p most ts) w w' := by
  have c1' : ((s.size : Int) != 64) = false := by simp; omega
  have d1' : decide (v1 < 1) = false := by simp; omega
  have d2' : decide (1023 < v1) = true := by simpa using d1
  go_enter Tryd.func27, Tryd.ntmps27
  go_wp2_with (go_at_call 44; first
    | ((with_reducible refine (H1.out _ _ (by simp)).mono ?_); rintro e w1 ⟨rfl, m1, rfl⟩)
    | ((with_reducible refine (H2.out _ _ (by simp)).mono ?_); rintro e w1 ⟨rfl, m2, rfl⟩))
  have hS := HS.out (m1 + m2) #[.string s, .int .i64 a2, .bool false]
  obtain ⟨e1, f1, l1⟩ := hS.own
  go_quiet (fail)
  all_goals
    go_wp2
    go_ret2
    exact ⟨rfl, ((HS.out _ _).lay (sgA_good _ _ _ _ _) (below_drewN _ _)).drop⟩
end Go.Proofs.YtiebpjkppjollaaDoor
