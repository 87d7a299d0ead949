/- The reference's GetSuper, a way of it: no zeros behind. Conditions: as typed. -/
import Derived.Test.YtiebpjkppjollaaDoorSugr
import Derived.Test.YtiebpjkppjollaaDoorRun
namespace Go.Proofs.YtiebpjkppjollaaDoor
open Go Go.RowKit

set_option maxRecDepth 100000 in
set_option maxHeartbeats 8000000 in
theorem drsget_E (p : Nat) (most : Int) (ts : List ByteArray) (s : ByteArray) {w : World} {F : List Nat} (HS : Hid (∀ (n : Nat) (c1 : Array Value), Becomes F (sgA w.heap.size c1 p most ts) w ((w.drewN n).alloc (.cells c1 88))))
    {v1 v2 a1 : Int} {n5 k : Nat} {b1 : Bool} (H1 : Hid (SdN s 0 false v1 a1 b1)) (H2 : Hid (SdN s a1 b1 v2 (n5 : Int) false)) (c1 : s.size = 64) (d1 : ¬ v1 < 1) (d2 : ¬ 1023 < v1) (hn5 : n5 ≤ 64) (hk : 64 - n5 = k) (hz : ((s.extract n5 64).toList == (zerN k).toList) = false) :
    Calls Tryd.prog 27 #[.pointer (some ⟨p, 0, none⟩), .string s] w fun e w' => e = .returned (.tuple #[.int .i64 0, .int .i64 1000]) ∧ Becomes F (refA p most ts) w w' := by
  have c1' : ((s.size : Int) != 64) = false := by simp; omega
  have d1' : decide (v1 < 1) = false := by simp; omega
  have d2' : decide (1023 < v1) = false := by simp; omega
  have hn5i : (n5 : Int) ≤ 64 := by omega
  have hki : (64 : Int) - (n5 : Int) = (k : Int) := by omega
  have hwk : IntKind.i64.wrap (k : Int) = k := by rw [IntKind.wrap_i64]; omega
  have hk64 : k ≤ 64 := by omega
  go_enter Tryd.func27, Tryd.ntmps27
  go_wp2_with (go_at_call 44; first
    | ((with_reducible refine (H1.out _ _ (by simp)).mono ?_); rintro e w1 ⟨rfl, m1, rfl⟩)
    | ((with_reducible refine (H2.out _ _ (by simp)).mono ?_); rintro e w1 ⟨rfl, m2, rfl⟩))
  have hB : Becomes F (sgA w.heap.size #[.string s, .int .i64 (n5 : Int), .bool false] p most ts) w ((w.drewN (m1 + m2)).alloc (.cells #[.string s, .int .i64 (n5 : Int), .bool false] 88)) := HS.out _ _
  have hws : ((w.drewN (m1 + m2)).alloc (.cells #[.string s, .int .i64 (n5 : Int), .bool false] 88)).heap.size = w.heap.size + 1 := by simp [World.drewN]
  clear H1 H2 HS
  refine region_held (S := sgS w.heap.size (n5 : Int)) 43 [false, false, false, false, false, false, false, false, false, false, false, false, false, false, false, false, false, false, false, false, false, false, false, false, false, false, false, false, false, false, false, false, false, false, false, false, false, false, false, false, false, false, false] rfl rfl (by kernel_rfl) fun W hW => ?_
  have hBW : Becomes F (sgA w.heap.size #[.string s, .int .i64 (n5 : Int), .bool false] p most ts) w W := by subst hW; exact hB.lay (sgA_good _ _ _ _ _) ⟨rfl, rfl, rfl, Nat.le_refl _, fun _ _ => rfl⟩
  have hWs : W.heap.size = w.heap.size + 1 := by subst hW; exact hws
  clear hB hW hws
  have hSW := sgA_S hBW
  refine run_go [(0, gs0, (some 16)), (1, gs1, (some 17)), (2, gs2, (some 18)), (3, gs3, (some 19)), (4, gs4, (some 20)), (5, gs5, (some 21)), (6, gs6, (some 22)), (7, gs7, (some 23)), (8, gs8, (some 24)), (9, gs9, (some 25)), (10, gs10, (some 26)), (11, gs11, (some 27)), (12, gs12, (some 28)), (13, gs13, (some 29)), (14, gs14, (some 30)), (15, gs15, (some 31)), (16, gs16, (some 32)), (17, gs17, (some 33)), (18, gs18, (some 34)), (19, gs19, (some 35)), (20, gs20, (some 36)), (21, gs21, (some 37)), (22, gs22, (some 38)), (23, gs23, (some 39)), (24, gs24, (some 40)), (25, gs25, (some 41)), (26, gs26, (some 42)), (27, gs27, (some 43)), (28, gs28, (some 44))] (by kernel_rfl) ?_
  iterate 29 (refine run_take ?_ rfl rfl (fun _ _ _ h => h) (Or.inl ⟨by rfl, ?_⟩) hSW ?_; rotate_left; (· (intro w0 hy0; obtain ⟨y1, y2⟩ := hy0; (go_simp <;> with_reducible rfl))); simp only [Act.put, List.setIfInBounds_toArray, List.set_cons_zero, List.set_cons_succ])
  refine run_end ?_
  have hB3 := hBW.lay (sgA_good _ _ _ _ _) ((Below.refl _ _).alloc (Nat.le_refl _) (zkObj k))
  have hS3 := sgA_S hB3
  refine held_one 29 gs29 (some 45) (.slice (some ⟨W.heap.size, 0, none⟩) k k) (W.alloc (zkObj k)) (by kernel_rfl) rfl rfl (by rfl) (exec_make 45 (.tmp 44) (.tmp 44) rfl rfl rfl (zk_made k (by omega) W)) hS3 ?_
  simp only [Act.put, List.setIfInBounds_toArray, List.set_cons_zero, List.set_cons_succ]
  refine held_one 30 gs30 (some 46) (.string (zerN k)) (W.alloc (zkObj k)) (by kernel_rfl) rfl rfl (by rfl) (exec_conv 45 9 (.tmp 45) rfl rfl (zk_conv k (by omega) W)) hS3 ?_
  simp only [Act.put, List.setIfInBounds_toArray, List.set_cons_zero, List.set_cons_succ]
  generalize hX : W.alloc (zkObj k) = X at *
  clear hX hSW hBW hWs
  refine run_go [(31, gs31, (some 47)), (32, gs32, (some 48)), (33, gs33, (some 49))] (by kernel_rfl) ?_
  iterate 3 (refine run_take ?_ rfl rfl (fun _ _ _ h => h) (Or.inl ⟨by rfl, ?_⟩) hS3 ?_; rotate_left; (· (intro w0 hy0; obtain ⟨y1, y2⟩ := hy0; (go_simp <;> with_reducible rfl))); simp only [Act.put, List.setIfInBounds_toArray, List.set_cons_zero, List.set_cons_succ])
  refine run_end ?_
  refine held_skip 34 gs34 (some 50) rfl rfl (by kernel_rfl) (by kernel_rfl) (by kernel_rfl) (fun _ _ _ h => h) (by rfl) hS3 ?_
  simp only [Act.put, List.setIfInBounds_toArray, List.set_cons_zero, List.set_cons_succ]
  refine held_skip 35 gs35 (some 51) rfl rfl (by kernel_rfl) (by kernel_rfl) (by kernel_rfl) (fun _ _ _ h => h) (by rfl) hS3 ?_
  simp only [Act.put, List.setIfInBounds_toArray, List.set_cons_zero, List.set_cons_succ]
  refine held_skip 36 gs36 (some 52) rfl rfl (by kernel_rfl) (by kernel_rfl) (by kernel_rfl) (fun _ _ _ h => h) (by rfl) hS3 ?_
  simp only [Act.put, List.setIfInBounds_toArray, List.set_cons_zero, List.set_cons_succ]
  refine held_skip 37 gs37 (some 53) rfl rfl (by kernel_rfl) (by kernel_rfl) (by kernel_rfl) (fun _ _ _ h => h) (by rfl) hS3 ?_
  simp only [Act.put, List.setIfInBounds_toArray, List.set_cons_zero, List.set_cons_succ]
  refine held_skip 38 gs38 (some 54) rfl rfl (by kernel_rfl) (by kernel_rfl) (by kernel_rfl) (fun _ _ _ h => h) (by rfl) hS3 ?_
  simp only [Act.put, List.setIfInBounds_toArray, List.set_cons_zero, List.set_cons_succ]
  refine held_skip 39 gs39 (some 55) rfl rfl (by kernel_rfl) (by kernel_rfl) (by kernel_rfl) (fun _ _ _ h => h) (by rfl) hS3 ?_
  simp only [Act.put, List.setIfInBounds_toArray, List.set_cons_zero, List.set_cons_succ]
  refine held_skip 40 gs40 (some 56) rfl rfl (by kernel_rfl) (by kernel_rfl) (by kernel_rfl) (fun _ _ _ h => h) (by rfl) hS3 ?_
  simp only [Act.put, List.setIfInBounds_toArray, List.set_cons_zero, List.set_cons_succ]
  refine held_skip 41 gs41 (some 57) rfl rfl (by kernel_rfl) (by kernel_rfl) (by kernel_rfl) (fun _ _ _ h => h) (by rfl) hS3 ?_
  simp only [Act.put, List.setIfInBounds_toArray, List.set_cons_zero, List.set_cons_succ]
  refine held_take 42 gs42 (some 58) ?_ rfl rfl (by kernel_rfl) (by kernel_rfl) (by kernel_rfl) (fun _ _ _ h => h) (Or.inl ⟨by rfl, ?_⟩) hS3 ?_
  rotate_left
  · intro w0 hy0; obtain ⟨y1, y2⟩ := hy0; (go_simp <;> with_reducible rfl)
  simp only [Act.put, List.setIfInBounds_toArray, List.set_cons_zero, List.set_cons_succ]
  refine wpAnyH_done (by kernel_rfl) ?_ _
  have hF := hB3
  clear hS3 hB3
  go_wp2
  go_ret2
  exact ⟨rfl, hF.drop⟩
end Go.Proofs.YtiebpjkppjollaaDoor
