/- Put together: RcgE, RcgF, RcgG. Conditions: each theorem's own. -/
import Derived.Test.YtiebpjkppjollaaDoorBga
import Derived.Test.YtiebpjkppjollaaDoorRun
namespace Go.Proofs.YtiebpjkppjollaaDoor
open Go Go.RowKit

set_option maxRecDepth 100000 in
set_option maxHeartbeats 8000000 in
theorem drget_E (p : Nat) (most : Int) (ts : List ByteArray) (s : ByteArray) (seq prev : Int) {w : World} {F : List Nat} (HS : Hid (∀ (n : Nat) (c0 c1 c2 : Array Value), Becomes F (rgA w.heap.size c0 c1 c2 p most ts) w ((((w.alloc (.cells c0 34)).drewN n).alloc (.cells c1 88)).alloc (.cells c2 34))))
    {v1 v2 v3 v5 a1 a2 a3 : Int} {n4 n5 k : Nat} {t : ByteArray} {b1 b2 b3 b4 : Bool} {g0 g1 g2 g3 g4 g5 g6 g7 : Int}
    (H1 : Hid (RdN2 s 0 false v1 a1 b1)) (H2 : Hid (RdN3 s a1 b1 v2 a2 b2)) (H3 : Hid (RdN3 s a2 b2 v3 a3 b3)) (H4 : Hid (RdT3 s a3 b3 t (n4 : Int) b4)) (H5 : Hid (RdN3 s (n4 : Int) b4 v5 (n5 : Int) false))
    (HE : Hid (∀ w : World, Calls Tryd.prog 46 #[.string t] w fun e w' => e = .returned (.tuple #[.agg #[.int .i64 g0, .int .i64 g1, .int .i64 g2, .int .i64 g3, .int .i64 g4, .int .i64 g5, .int .i64 g6, .int .i64 g7], .int .i64 0]) ∧ Below w.heap.size w w'))
    (c1 : s.size = 64) (ht : t.size ≤ 25) (d1 : ¬ v1 < 1) (d2 : ¬ v2 < 1) (hn4 : n4 ≤ 64) (hn5 : n5 ≤ 64) (hk : 64 - n5 = k) (hz : ((s.extract n5 64).toList == (zerN k).toList) = false) :
    Calls Tryd.prog 18 #[.pointer (some ⟨p, 0, none⟩), .string s, .int .i64 seq, .int .i64 prev] w fun e w' => e = .returned (.tuple #[.agg rgZ, .int .i64 0, .int .i64 900]) ∧ Becomes F (refA p most ts) w w' := by
  have c1' : ((s.size : Int) != 64) = false := by simp; omega
  have ht44 : decide ((44 : Int) < (t.size : Int)) = false := by simp; omega
  have d1' : decide (v1 < 1) = false := by simp; omega
  have d2' : decide (v2 < 1) = false := by simp; omega
  have hn5i : (n5 : Int) ≤ 64 := by omega
  have hn4i : (n4 : Int) ≤ 64 := by omega
  have hki : (64 : Int) - (n5 : Int) = (k : Int) := by omega
  have hwk : IntKind.i64.wrap (k : Int) = k := by rw [IntKind.wrap_i64]; omega
  have hk64 : k ≤ 64 := by omega
  have hadd : ¬ 9223372036854775807 < 6 + n4 := by omega
  go_enter Tryd.func18, Tryd.ntmps18
  go_wp2_with (first
    | (go_at_call 44; first
        | ((with_reducible refine (H1.out _ _ (by simp)).mono ?_); rintro e w1 ⟨rfl, m1, rfl⟩)
        | ((with_reducible refine (H2.out _ _ _ (by simp)).mono ?_); rintro e w1 ⟨rfl, m2, rfl⟩)
        | ((with_reducible refine (H3.out _ _ _ (by simp)).mono ?_); rintro e w1 ⟨rfl, m3, rfl⟩)
        | ((with_reducible refine (H5.out _ _ _ (by simp)).mono ?_); rintro e w1 ⟨rfl, m5, rfl⟩))
    | (go_at_call 45; (with_reducible refine (H4.out _ _ _ (by simp)).mono ?_); rintro e w1 ⟨rfl, m4, rfl⟩)
    | (go_at_call 46; (with_reducible refine (HE.out _).mono ?_); rintro e w1 ⟨rfl, hb⟩; have hS := (HS.out _ _ _ _).lay (rgA_good _ _ _ _ _ _ _) hb; obtain ⟨e1, f1, l1⟩ := hS.own; obtain ⟨e2, f2, l2⟩ := hS.drop.own; obtain ⟨e3, f3, l3⟩ := hS.drop.drop.own))
  have hB : Becomes F (rgB w1.heap.size #[.int .i64 g0, .int .i64 g1, .int .i64 g2, .int .i64 g3, .int .i64 g4, .int .i64 g5, .int .i64 g6, .int .i64 g7] w.heap.size rgZ #[.string s, .int .i64 (n5 : Int), .bool false] (.int .i64 v1 :: .int .i64 v2 :: [.int .i64 v3, .int .i64 0, .int .i64 0, .int .i64 0, .int .i64 0, .int .i64 0, .int .i64 0, .int .i64 0, .int .i64 0]).toArray p most ts) w (w1.alloc (.cells #[.int .i64 g0, .int .i64 g1, .int .i64 g2, .int .i64 g3, .int .i64 g4, .int .i64 g5, .int .i64 g6, .int .i64 g7] 32)) := hS.hold (rgA_good _ _ _ _ _ _ _) #[.int .i64 g0, .int .i64 g1, .int .i64 g2, .int .i64 g3, .int .i64 g4, .int .i64 g5, .int .i64 g6, .int .i64 g7] 32
  have hws : (w1.alloc (.cells #[.int .i64 g0, .int .i64 g1, .int .i64 g2, .int .i64 g3, .int .i64 g4, .int .i64 g5, .int .i64 g6, .int .i64 g7] 32)).heap.size = w1.heap.size + 1 := by simp
  have hlt := l1
  clear hS e1 f1 l1 e2 f2 l2 e3 f3 l3 hb H1 H2 H3 H4 H5 HE HS
  refine region_held (S := rgS w.heap.size v1 v2 (n5 : Int)) 54 [false, false, false, false, false, false, false, false, false, false, false, false, false, false, false, false, false, false, false, false, false, false, false, false, false, false, false, false, false, false, false, false, false, false, false, false, false, false, false, false, false, false, false, false, false, false, false, false, false, false, false, false, false, false] rfl rfl (by kernel_rfl) fun W hW => ?_
  have hBW : Becomes F (rgB w1.heap.size #[.int .i64 g0, .int .i64 g1, .int .i64 g2, .int .i64 g3, .int .i64 g4, .int .i64 g5, .int .i64 g6, .int .i64 g7] w.heap.size rgZ #[.string s, .int .i64 (n5 : Int), .bool false] (.int .i64 v1 :: .int .i64 v2 :: [.int .i64 v3, .int .i64 0, .int .i64 0, .int .i64 0, .int .i64 0, .int .i64 0, .int .i64 0, .int .i64 0, .int .i64 0]).toArray p most ts) w W := by subst hW; exact hB.lay (rgB_good _ _ _ _ _ _ _ _ _) ⟨rfl, rfl, rfl, Nat.le_refl _, fun _ _ => rfl⟩
  have hWs : W.heap.size = w1.heap.size + 1 := by subst hW; exact hws
  clear hB hW hws
  have hSW := rgB_S hBW
  refine run_go [(0, gr0, (some 43)), (1, gr1, (some 44)), (2, gr2, (some 45)), (3, gr3, (some 46)), (4, gr4, (some 47)), (5, gr5, (some 48)), (6, gr6, (some 49)), (7, gr7, (some 50)), (8, gr8, (some 51)), (9, gr9, (some 52)), (10, gr10, (some 53)), (11, gr11, (some 54)), (12, gr12, (some 55)), (13, gr13, (some 56)), (14, gr14, (some 57)), (15, gr15, (some 58)), (16, gr16, (some 59)), (17, gr17, (some 60)), (18, gr18, (some 61)), (19, gr19, (some 62)), (20, gr20, (some 63)), (21, gr21, (some 64)), (22, gr22, (some 65)), (23, gr23, (some 66)), (24, gr24, (some 67)), (25, gr25, (some 68)), (26, gr26, (some 69)), (27, gr27, (some 70)), (28, gr28, (some 71)), (29, gr29, (some 72)), (30, gr30, (some 73)), (31, gr31, (some 74)), (32, gr32, (some 75)), (33, gr33, (some 76)), (34, gr34, (some 77)), (35, gr35, (some 78)), (36, gr36, (some 79)), (37, gr37, (some 80)), (38, gr38, (some 81)), (39, gr39, (some 82))] (by kernel_rfl) ?_
  iterate 40 (refine run_take ?_ rfl rfl (fun _ _ _ h => h) (Or.inl ⟨by rfl, ?_⟩) hSW ?_; rotate_left; (· (intro w0 hy0; obtain ⟨y1, y2, y3, y4⟩ := hy0; (go_simp <;> with_reducible rfl))); simp only [Act.put, List.setIfInBounds_toArray, List.set_cons_zero, List.set_cons_succ])
  refine run_end ?_
  have hB3 := hBW.lay (rgB_good _ _ _ _ _ _ _ _ _) ((Below.refl _ _).alloc (Nat.le_refl _) (zkObj k))
  have hS3 := rgB_S hB3
  refine held_one 40 gr40 (some 83) (.slice (some ⟨W.heap.size, 0, none⟩) k k) (W.alloc (zkObj k)) (by kernel_rfl) rfl rfl (by rfl) (exec_make 45 (.tmp 82) (.tmp 82) rfl rfl rfl (zk_made k (by omega) W)) hS3 ?_
  simp only [Act.put, List.setIfInBounds_toArray, List.set_cons_zero, List.set_cons_succ]
  refine held_one 41 gr41 (some 84) (.string (zerN k)) (W.alloc (zkObj k)) (by kernel_rfl) rfl rfl (by rfl) (exec_conv 45 9 (.tmp 83) rfl rfl (zk_conv k (by omega) W)) hS3 ?_
  simp only [Act.put, List.setIfInBounds_toArray, List.set_cons_zero, List.set_cons_succ]
  refine run_go [(42, gr42, (some 85)), (43, gr43, (some 86)), (44, gr44, (some 87))] (by kernel_rfl) ?_
  iterate 3 (refine run_take ?_ rfl rfl (fun _ _ _ h => h) (Or.inl ⟨by rfl, ?_⟩) hS3 ?_; rotate_left; (· (intro w0 hy0; obtain ⟨y1, y2, y3, y4⟩ := hy0; (go_simp <;> with_reducible rfl))); simp only [Act.put, List.setIfInBounds_toArray, List.set_cons_zero, List.set_cons_succ])
  refine run_end ?_
  refine held_skip 45 gr45 (some 88) rfl rfl (by kernel_rfl) (by kernel_rfl) (by kernel_rfl) (fun _ _ _ h => h) (by rfl) hS3 ?_
  simp only [Act.put, List.setIfInBounds_toArray, List.set_cons_zero, List.set_cons_succ]
  refine held_skip 46 gr46 (some 89) rfl rfl (by kernel_rfl) (by kernel_rfl) (by kernel_rfl) (fun _ _ _ h => h) (by rfl) hS3 ?_
  simp only [Act.put, List.setIfInBounds_toArray, List.set_cons_zero, List.set_cons_succ]
  refine held_skip 47 gr47 (some 90) rfl rfl (by kernel_rfl) (by kernel_rfl) (by kernel_rfl) (fun _ _ _ h => h) (by rfl) hS3 ?_
  simp only [Act.put, List.setIfInBounds_toArray, List.set_cons_zero, List.set_cons_succ]
  refine held_skip 48 gr48 (some 91) rfl rfl (by kernel_rfl) (by kernel_rfl) (by kernel_rfl) (fun _ _ _ h => h) (by rfl) hS3 ?_
  simp only [Act.put, List.setIfInBounds_toArray, List.set_cons_zero, List.set_cons_succ]
  refine held_skip 49 gr49 (some 92) rfl rfl (by kernel_rfl) (by kernel_rfl) (by kernel_rfl) (fun _ _ _ h => h) (by rfl) hS3 ?_
  simp only [Act.put, List.setIfInBounds_toArray, List.set_cons_zero, List.set_cons_succ]
  refine held_skip 50 gr50 (some 93) rfl rfl (by kernel_rfl) (by kernel_rfl) (by kernel_rfl) (fun _ _ _ h => h) (by rfl) hS3 ?_
  simp only [Act.put, List.setIfInBounds_toArray, List.set_cons_zero, List.set_cons_succ]
  refine held_skip 51 gr51 (some 94) rfl rfl (by kernel_rfl) (by kernel_rfl) (by kernel_rfl) (fun _ _ _ h => h) (by rfl) hS3 ?_
  simp only [Act.put, List.setIfInBounds_toArray, List.set_cons_zero, List.set_cons_succ]
  refine held_skip 52 gr52 (some 95) rfl rfl (by kernel_rfl) (by kernel_rfl) (by kernel_rfl) (fun _ _ _ h => h) (by rfl) hS3 ?_
  simp only [Act.put, List.setIfInBounds_toArray, List.set_cons_zero, List.set_cons_succ]
  refine held_take 53 gr53 (some 96) ?_ rfl rfl (by kernel_rfl) (by kernel_rfl) (by kernel_rfl) (fun _ _ _ h => h) (Or.inl ⟨by rfl, ?_⟩) hS3 ?_
  rotate_left
  · intro w0 hy0; obtain ⟨y1, y2, y3, y4⟩ := hy0; (go_simp <;> with_reducible rfl)
  simp only [Act.put, List.setIfInBounds_toArray, List.set_cons_zero, List.set_cons_succ]
  refine wpAnyH_done (by kernel_rfl) ?_ _
  have hF := hB3
  generalize hX : W.alloc (zkObj k) = X at *
  clear hX hSW hS3 hBW hB3
  obtain ⟨e3, f3, l3⟩ := hF.drop.drop.drop.own
  go_wp2
  obtain ⟨hfin, r0, r1, r2, r3, r4, r5, r6, r7, r8, r9, r10⟩ := rg_fin (W := X) rfl hF.drop (.int .i64 0) (.int .i64 0) (.int .i64 0) (.int .i64 0) (.int .i64 0) (.int .i64 0) (.int .i64 0) (.int .i64 0) (.int .i64 0) (.int .i64 0) (.int .i64 0)
  exact bodyPost_ret (v := .tuple #[.agg rgZ, .int .i64 0, .int .i64 900]) (by simp [results, Tryd.results18, go_sem, r0, r1, r2, r3, r4, r5, r6, r7, r8, r9, r10]) rfl ⟨rfl, hfin⟩

end Go.Proofs.YtiebpjkppjollaaDoor

namespace Go.Proofs.YtiebpjkppjollaaDoor
open Go Go.RowKit

set_option maxRecDepth 100000 in
set_option maxHeartbeats 8000000 in
theorem drget_F (p : Nat) (most : Int) (ts : List ByteArray) (s : ByteArray) (seq prev : Int) {w : World} {F : List Nat} (HS : Hid (∀ (n : Nat) (c0 c1 c2 : Array Value), Becomes F (rgA w.heap.size c0 c1 c2 p most ts) w ((((w.alloc (.cells c0 34)).drewN n).alloc (.cells c1 88)).alloc (.cells c2 34))))
    {v1 v2 v3 v5 a1 a2 a3 : Int} {n4 n5 k : Nat} {t : ByteArray} {b1 b2 b3 b4 : Bool} {g0 g1 g2 g3 g4 g5 g6 g7 : Int}
    (H1 : Hid (RdN2 s 0 false v1 a1 b1)) (H2 : Hid (RdN3 s a1 b1 v2 a2 b2)) (H3 : Hid (RdN3 s a2 b2 v3 a3 b3)) (H4 : Hid (RdT3 s a3 b3 t (n4 : Int) b4)) (H5 : Hid (RdN3 s (n4 : Int) b4 v5 (n5 : Int) false))
    (HE : Hid (∀ w : World, Calls Tryd.prog 46 #[.string t] w fun e w' => e = .returned (.tuple #[.agg #[.int .i64 g0, .int .i64 g1, .int .i64 g2, .int .i64 g3, .int .i64 g4, .int .i64 g5, .int .i64 g6, .int .i64 g7], .int .i64 0]) ∧ Below w.heap.size w w'))
    (c1 : s.size = 64) (ht : t.size ≤ 25) (d1 : ¬ v1 < 1) (d2 : ¬ v2 < 1) (hn4 : n4 ≤ 64) (hn5 : n5 ≤ 64) (hk : 64 - n5 = k) (hz : s.extract n5 64 = zerN k)
    (HI : Hid (Does Tryd.prog (refA p most ts) 47 #[.pointer (some ⟨p, 0, none⟩), .string (⟨#[114, 101, 99, 111, 114, 100]⟩ ++ s.extract 0 n4), .int .i64 v5] (.returned (.bool false)) (refA p most ts))) :
    Calls Tryd.prog 18 #[.pointer (some ⟨p, 0, none⟩), .string s, .int .i64 seq, .int .i64 prev] w fun e w' => e = .returned (.tuple #[.agg rgZ, .int .i64 0, .int .i64 900]) ∧ Becomes F (refA p most ts) w w' := by
  have c1' : ((s.size : Int) != 64) = false := by simp; omega
  have ht44 : decide ((44 : Int) < (t.size : Int)) = false := by simp; omega
  have d1' : decide (v1 < 1) = false := by simp; omega
  have d2' : decide (v2 < 1) = false := by simp; omega
  have hn5i : (n5 : Int) ≤ 64 := by omega
  have hn4i : (n4 : Int) ≤ 64 := by omega
  have hki : (64 : Int) - (n5 : Int) = (k : Int) := by omega
  have hwk : IntKind.i64.wrap (k : Int) = k := by rw [IntKind.wrap_i64]; omega
  have hk64 : k ≤ 64 := by omega
  have hadd : ¬ 9223372036854775807 < 6 + n4 := by omega
  go_enter Tryd.func18, Tryd.ntmps18
  go_wp2_with (first
    | (go_at_call 44; first
        | ((with_reducible refine (H1.out _ _ (by simp)).mono ?_); rintro e w1 ⟨rfl, m1, rfl⟩)
        | ((with_reducible refine (H2.out _ _ _ (by simp)).mono ?_); rintro e w1 ⟨rfl, m2, rfl⟩)
        | ((with_reducible refine (H3.out _ _ _ (by simp)).mono ?_); rintro e w1 ⟨rfl, m3, rfl⟩)
        | ((with_reducible refine (H5.out _ _ _ (by simp)).mono ?_); rintro e w1 ⟨rfl, m5, rfl⟩))
    | (go_at_call 45; (with_reducible refine (H4.out _ _ _ (by simp)).mono ?_); rintro e w1 ⟨rfl, m4, rfl⟩)
    | (go_at_call 46; (with_reducible refine (HE.out _).mono ?_); rintro e w1 ⟨rfl, hb⟩; have hS := (HS.out _ _ _ _).lay (rgA_good _ _ _ _ _ _ _) hb; obtain ⟨e1, f1, l1⟩ := hS.own; obtain ⟨e2, f2, l2⟩ := hS.drop.own; obtain ⟨e3, f3, l3⟩ := hS.drop.drop.own))
  have hB : Becomes F (rgB w1.heap.size #[.int .i64 g0, .int .i64 g1, .int .i64 g2, .int .i64 g3, .int .i64 g4, .int .i64 g5, .int .i64 g6, .int .i64 g7] w.heap.size rgZ #[.string s, .int .i64 (n5 : Int), .bool false] (.int .i64 v1 :: .int .i64 v2 :: [.int .i64 v3, .int .i64 0, .int .i64 0, .int .i64 0, .int .i64 0, .int .i64 0, .int .i64 0, .int .i64 0, .int .i64 0]).toArray p most ts) w (w1.alloc (.cells #[.int .i64 g0, .int .i64 g1, .int .i64 g2, .int .i64 g3, .int .i64 g4, .int .i64 g5, .int .i64 g6, .int .i64 g7] 32)) := hS.hold (rgA_good _ _ _ _ _ _ _) #[.int .i64 g0, .int .i64 g1, .int .i64 g2, .int .i64 g3, .int .i64 g4, .int .i64 g5, .int .i64 g6, .int .i64 g7] 32
  have hws : (w1.alloc (.cells #[.int .i64 g0, .int .i64 g1, .int .i64 g2, .int .i64 g3, .int .i64 g4, .int .i64 g5, .int .i64 g6, .int .i64 g7] 32)).heap.size = w1.heap.size + 1 := by simp
  have hlt := l1
  clear hS e1 f1 l1 e2 f2 l2 e3 f3 l3 hb H1 H2 H3 H4 H5 HE HS
  refine region_held (S := rgS w.heap.size v1 v2 (n5 : Int)) 54 [false, false, false, false, false, false, false, false, false, false, false, false, false, false, false, false, false, false, false, false, false, false, false, false, false, false, false, false, false, false, false, false, false, false, false, false, false, false, false, false, false, false, false, false, false, false, false, false, false, false, false, false, false, false] rfl rfl (by kernel_rfl) fun W hW => ?_
  have hBW : Becomes F (rgB w1.heap.size #[.int .i64 g0, .int .i64 g1, .int .i64 g2, .int .i64 g3, .int .i64 g4, .int .i64 g5, .int .i64 g6, .int .i64 g7] w.heap.size rgZ #[.string s, .int .i64 (n5 : Int), .bool false] (.int .i64 v1 :: .int .i64 v2 :: [.int .i64 v3, .int .i64 0, .int .i64 0, .int .i64 0, .int .i64 0, .int .i64 0, .int .i64 0, .int .i64 0, .int .i64 0]).toArray p most ts) w W := by subst hW; exact hB.lay (rgB_good _ _ _ _ _ _ _ _ _) ⟨rfl, rfl, rfl, Nat.le_refl _, fun _ _ => rfl⟩
  have hWs : W.heap.size = w1.heap.size + 1 := by subst hW; exact hws
  clear hB hW hws
  have hSW := rgB_S hBW
  refine run_go [(0, gr0, (some 43)), (1, gr1, (some 44)), (2, gr2, (some 45)), (3, gr3, (some 46)), (4, gr4, (some 47)), (5, gr5, (some 48)), (6, gr6, (some 49)), (7, gr7, (some 50)), (8, gr8, (some 51)), (9, gr9, (some 52)), (10, gr10, (some 53)), (11, gr11, (some 54)), (12, gr12, (some 55)), (13, gr13, (some 56)), (14, gr14, (some 57)), (15, gr15, (some 58)), (16, gr16, (some 59)), (17, gr17, (some 60)), (18, gr18, (some 61)), (19, gr19, (some 62)), (20, gr20, (some 63)), (21, gr21, (some 64)), (22, gr22, (some 65)), (23, gr23, (some 66)), (24, gr24, (some 67)), (25, gr25, (some 68)), (26, gr26, (some 69)), (27, gr27, (some 70)), (28, gr28, (some 71)), (29, gr29, (some 72)), (30, gr30, (some 73)), (31, gr31, (some 74)), (32, gr32, (some 75)), (33, gr33, (some 76)), (34, gr34, (some 77)), (35, gr35, (some 78)), (36, gr36, (some 79)), (37, gr37, (some 80)), (38, gr38, (some 81)), (39, gr39, (some 82))] (by kernel_rfl) ?_
  iterate 40 (refine run_take ?_ rfl rfl (fun _ _ _ h => h) (Or.inl ⟨by rfl, ?_⟩) hSW ?_; rotate_left; (· (intro w0 hy0; obtain ⟨y1, y2, y3, y4⟩ := hy0; (go_simp <;> with_reducible rfl))); simp only [Act.put, List.setIfInBounds_toArray, List.set_cons_zero, List.set_cons_succ])
  refine run_end ?_
  have hB3 := hBW.lay (rgB_good _ _ _ _ _ _ _ _ _) ((Below.refl _ _).alloc (Nat.le_refl _) (zkObj k))
  have hS3 := rgB_S hB3
  refine held_one 40 gr40 (some 83) (.slice (some ⟨W.heap.size, 0, none⟩) k k) (W.alloc (zkObj k)) (by kernel_rfl) rfl rfl (by rfl) (exec_make 45 (.tmp 82) (.tmp 82) rfl rfl rfl (zk_made k (by omega) W)) hS3 ?_
  simp only [Act.put, List.setIfInBounds_toArray, List.set_cons_zero, List.set_cons_succ]
  refine held_one 41 gr41 (some 84) (.string (zerN k)) (W.alloc (zkObj k)) (by kernel_rfl) rfl rfl (by rfl) (exec_conv 45 9 (.tmp 83) rfl rfl (zk_conv k (by omega) W)) hS3 ?_
  simp only [Act.put, List.setIfInBounds_toArray, List.set_cons_zero, List.set_cons_succ]
  refine run_go [(42, gr42, (some 85)), (43, gr43, (some 86)), (44, gr44, (some 87)), (45, gr45, (some 88)), (46, gr46, (some 89)), (47, gr47, (some 90)), (48, gr48, (some 91)), (49, gr49, (some 92)), (50, gr50, (some 93))] (by kernel_rfl) ?_
  iterate 9 (refine run_take ?_ rfl rfl (fun _ _ _ h => h) (Or.inl ⟨by rfl, ?_⟩) hS3 ?_; rotate_left; (· (intro w0 hy0; obtain ⟨y1, y2, y3, y4⟩ := hy0; (go_simp <;> with_reducible rfl))); simp only [Act.put, List.setIfInBounds_toArray, List.set_cons_zero, List.set_cons_succ])
  refine run_end ?_
  have hcall := rgB_op HI.out hB3
  refine held_call 51 gr51 (some 94) (.bool false) (fun X => Becomes F (rgB w1.heap.size #[.int .i64 g0, .int .i64 g1, .int .i64 g2, .int .i64 g3, .int .i64 g4, .int .i64 g5, .int .i64 g6, .int .i64 g7] w.heap.size rgZ #[.string s, .int .i64 (n5 : Int), .bool false] (.int .i64 v1 :: .int .i64 v2 :: [.int .i64 v3, .int .i64 0, .int .i64 0, .int .i64 0, .int .i64 0, .int .i64 0, .int .i64 0, .int .i64 0, .int .i64 0]).toArray p most ts) w X) 47 #[.pointer (some ⟨p, 0, none⟩), .string (⟨#[114, 101, 99, 111, 114, 100]⟩ ++ s.extract 0 n4), .int .i64 v5] (by kernel_rfl) rfl rfl (by rfl) (exec_ishash (u := .pointer (some ⟨p, 0, none⟩)) (v := .string (⟨#[114, 101, 99, 111, 114, 100]⟩ ++ s.extract 0 n4)) (r := .int .i64 v5) (.tmp 88) (.tmp 92) (.tmp 93) rfl rfl (by go_simp) rfl) hcall (fun X hX => rgB_S hX) ?_
  intro X hF
  have hSX := rgB_S hF
  simp only [Act.put, List.setIfInBounds_toArray, List.set_cons_zero, List.set_cons_succ]
  refine run_go [(52, gr52, (some 95)), (53, gr53, (some 96))] (by kernel_rfl) ?_
  iterate 2 (refine run_take ?_ rfl rfl (fun _ _ _ h => h) (Or.inl ⟨by rfl, ?_⟩) hSX ?_; rotate_left; (· (intro w0 hy0; obtain ⟨y1, y2, y3, y4⟩ := hy0; (go_simp <;> with_reducible rfl))); simp only [Act.put, List.setIfInBounds_toArray, List.set_cons_zero, List.set_cons_succ])
  refine run_end ?_
  refine wpAnyH_done (by kernel_rfl) ?_ _
  clear hSX hSW hS3 hBW hB3
  obtain ⟨e3, f3, l3⟩ := hF.drop.drop.drop.own
  go_wp2
  obtain ⟨hfin, r0, r1, r2, r3, r4, r5, r6, r7, r8, r9, r10⟩ := rg_fin (W := X) rfl hF.drop (.int .i64 0) (.int .i64 0) (.int .i64 0) (.int .i64 0) (.int .i64 0) (.int .i64 0) (.int .i64 0) (.int .i64 0) (.int .i64 0) (.int .i64 0) (.int .i64 0)
  exact bodyPost_ret (v := .tuple #[.agg rgZ, .int .i64 0, .int .i64 900]) (by simp [results, Tryd.results18, go_sem, r0, r1, r2, r3, r4, r5, r6, r7, r8, r9, r10]) rfl ⟨rfl, hfin⟩

end Go.Proofs.YtiebpjkppjollaaDoor

namespace Go.Proofs.YtiebpjkppjollaaDoor
open Go Go.RowKit

set_option maxRecDepth 100000 in
set_option maxHeartbeats 8000000 in
theorem drget_G (p : Nat) (most : Int) (ts : List ByteArray) (s : ByteArray) (seq prev : Int) {w : World} {F : List Nat} (HS : Hid (∀ (n : Nat) (c0 c1 c2 : Array Value), Becomes F (rgA w.heap.size c0 c1 c2 p most ts) w ((((w.alloc (.cells c0 34)).drewN n).alloc (.cells c1 88)).alloc (.cells c2 34))))
    {v1 v2 v3 v5 a1 a2 a3 : Int} {n4 n5 k : Nat} {t : ByteArray} {b1 b2 b3 b4 : Bool} {g0 g1 g2 g3 g4 g5 g6 g7 : Int}
    (H1 : Hid (RdN2 s 0 false v1 a1 b1)) (H2 : Hid (RdN3 s a1 b1 v2 a2 b2)) (H3 : Hid (RdN3 s a2 b2 v3 a3 b3)) (H4 : Hid (RdT3 s a3 b3 t (n4 : Int) b4)) (H5 : Hid (RdN3 s (n4 : Int) b4 v5 (n5 : Int) false))
    (HE : Hid (∀ w : World, Calls Tryd.prog 46 #[.string t] w fun e w' => e = .returned (.tuple #[.agg #[.int .i64 g0, .int .i64 g1, .int .i64 g2, .int .i64 g3, .int .i64 g4, .int .i64 g5, .int .i64 g6, .int .i64 g7], .int .i64 0]) ∧ Below w.heap.size w w'))
    (c1 : s.size = 64) (ht : t.size ≤ 25) (d1 : ¬ v1 < 1) (d2 : ¬ v2 < 1) (hn4 : n4 ≤ 64) (hn5 : n5 ≤ 64) (hk : 64 - n5 = k) (hz : s.extract n5 64 = zerN k) (cq : v1 ≠ seq)
    (HI : Hid (Does Tryd.prog (refA p most ts) 47 #[.pointer (some ⟨p, 0, none⟩), .string (⟨#[114, 101, 99, 111, 114, 100]⟩ ++ s.extract 0 n4), .int .i64 v5] (.returned (.bool true)) (refA p most ts))) :
    Calls Tryd.prog 18 #[.pointer (some ⟨p, 0, none⟩), .string s, .int .i64 seq, .int .i64 prev] w fun e w' => e = .returned (.tuple #[.agg rgZ, .int .i64 0, .int .i64 901]) ∧ Becomes F (refA p most ts) w w' := by
  have cq1 : (v1 == seq) = false := by simpa using cq
  have cq2 : (v1 != seq) = true := by simpa using cq
  clear cq
  have c1' : ((s.size : Int) != 64) = false := by simp; omega
  have ht44 : decide ((44 : Int) < (t.size : Int)) = false := by simp; omega
  have d1' : decide (v1 < 1) = false := by simp; omega
  have d2' : decide (v2 < 1) = false := by simp; omega
  have hn5i : (n5 : Int) ≤ 64 := by omega
  have hn4i : (n4 : Int) ≤ 64 := by omega
  have hki : (64 : Int) - (n5 : Int) = (k : Int) := by omega
  have hwk : IntKind.i64.wrap (k : Int) = k := by rw [IntKind.wrap_i64]; omega
  have hk64 : k ≤ 64 := by omega
  have hadd : ¬ 9223372036854775807 < 6 + n4 := by omega
  go_enter Tryd.func18, Tryd.ntmps18
  go_wp2_with (first
    | (go_at_call 44; first
        | ((with_reducible refine (H1.out _ _ (by simp)).mono ?_); rintro e w1 ⟨rfl, m1, rfl⟩)
        | ((with_reducible refine (H2.out _ _ _ (by simp)).mono ?_); rintro e w1 ⟨rfl, m2, rfl⟩)
        | ((with_reducible refine (H3.out _ _ _ (by simp)).mono ?_); rintro e w1 ⟨rfl, m3, rfl⟩)
        | ((with_reducible refine (H5.out _ _ _ (by simp)).mono ?_); rintro e w1 ⟨rfl, m5, rfl⟩))
    | (go_at_call 45; (with_reducible refine (H4.out _ _ _ (by simp)).mono ?_); rintro e w1 ⟨rfl, m4, rfl⟩)
    | (go_at_call 46; (with_reducible refine (HE.out _).mono ?_); rintro e w1 ⟨rfl, hb⟩; have hS := (HS.out _ _ _ _).lay (rgA_good _ _ _ _ _ _ _) hb; obtain ⟨e1, f1, l1⟩ := hS.own; obtain ⟨e2, f2, l2⟩ := hS.drop.own; obtain ⟨e3, f3, l3⟩ := hS.drop.drop.own))
  have hB : Becomes F (rgB w1.heap.size #[.int .i64 g0, .int .i64 g1, .int .i64 g2, .int .i64 g3, .int .i64 g4, .int .i64 g5, .int .i64 g6, .int .i64 g7] w.heap.size rgZ #[.string s, .int .i64 (n5 : Int), .bool false] (.int .i64 v1 :: .int .i64 v2 :: [.int .i64 v3, .int .i64 0, .int .i64 0, .int .i64 0, .int .i64 0, .int .i64 0, .int .i64 0, .int .i64 0, .int .i64 0]).toArray p most ts) w (w1.alloc (.cells #[.int .i64 g0, .int .i64 g1, .int .i64 g2, .int .i64 g3, .int .i64 g4, .int .i64 g5, .int .i64 g6, .int .i64 g7] 32)) := hS.hold (rgA_good _ _ _ _ _ _ _) #[.int .i64 g0, .int .i64 g1, .int .i64 g2, .int .i64 g3, .int .i64 g4, .int .i64 g5, .int .i64 g6, .int .i64 g7] 32
  have hws : (w1.alloc (.cells #[.int .i64 g0, .int .i64 g1, .int .i64 g2, .int .i64 g3, .int .i64 g4, .int .i64 g5, .int .i64 g6, .int .i64 g7] 32)).heap.size = w1.heap.size + 1 := by simp
  have hlt := l1
  clear hS e1 f1 l1 e2 f2 l2 e3 f3 l3 hb H1 H2 H3 H4 H5 HE HS
  refine region_held (S := rgS w.heap.size v1 v2 (n5 : Int)) 54 [false, false, false, false, false, false, false, false, false, false, false, false, false, false, false, false, false, false, false, false, false, false, false, false, false, false, false, false, false, false, false, false, false, false, false, false, false, false, false, false, false, false, false, false, false, false, false, false, false, false, false, false, false, false] rfl rfl (by kernel_rfl) fun W hW => ?_
  have hBW : Becomes F (rgB w1.heap.size #[.int .i64 g0, .int .i64 g1, .int .i64 g2, .int .i64 g3, .int .i64 g4, .int .i64 g5, .int .i64 g6, .int .i64 g7] w.heap.size rgZ #[.string s, .int .i64 (n5 : Int), .bool false] (.int .i64 v1 :: .int .i64 v2 :: [.int .i64 v3, .int .i64 0, .int .i64 0, .int .i64 0, .int .i64 0, .int .i64 0, .int .i64 0, .int .i64 0, .int .i64 0]).toArray p most ts) w W := by subst hW; exact hB.lay (rgB_good _ _ _ _ _ _ _ _ _) ⟨rfl, rfl, rfl, Nat.le_refl _, fun _ _ => rfl⟩
  have hWs : W.heap.size = w1.heap.size + 1 := by subst hW; exact hws
  clear hB hW hws
  have hSW := rgB_S hBW
  refine run_go [(0, gr0, (some 43)), (1, gr1, (some 44)), (2, gr2, (some 45)), (3, gr3, (some 46)), (4, gr4, (some 47)), (5, gr5, (some 48)), (6, gr6, (some 49)), (7, gr7, (some 50)), (8, gr8, (some 51)), (9, gr9, (some 52)), (10, gr10, (some 53)), (11, gr11, (some 54)), (12, gr12, (some 55)), (13, gr13, (some 56)), (14, gr14, (some 57)), (15, gr15, (some 58)), (16, gr16, (some 59)), (17, gr17, (some 60)), (18, gr18, (some 61)), (19, gr19, (some 62)), (20, gr20, (some 63)), (21, gr21, (some 64)), (22, gr22, (some 65)), (23, gr23, (some 66)), (24, gr24, (some 67)), (25, gr25, (some 68)), (26, gr26, (some 69)), (27, gr27, (some 70)), (28, gr28, (some 71)), (29, gr29, (some 72)), (30, gr30, (some 73)), (31, gr31, (some 74)), (32, gr32, (some 75)), (33, gr33, (some 76)), (34, gr34, (some 77)), (35, gr35, (some 78)), (36, gr36, (some 79)), (37, gr37, (some 80)), (38, gr38, (some 81)), (39, gr39, (some 82))] (by kernel_rfl) ?_
  iterate 40 (refine run_take ?_ rfl rfl (fun _ _ _ h => h) (Or.inl ⟨by rfl, ?_⟩) hSW ?_; rotate_left; (· (intro w0 hy0; obtain ⟨y1, y2, y3, y4⟩ := hy0; (go_simp <;> with_reducible rfl))); simp only [Act.put, List.setIfInBounds_toArray, List.set_cons_zero, List.set_cons_succ])
  refine run_end ?_
  have hB3 := hBW.lay (rgB_good _ _ _ _ _ _ _ _ _) ((Below.refl _ _).alloc (Nat.le_refl _) (zkObj k))
  have hS3 := rgB_S hB3
  refine held_one 40 gr40 (some 83) (.slice (some ⟨W.heap.size, 0, none⟩) k k) (W.alloc (zkObj k)) (by kernel_rfl) rfl rfl (by rfl) (exec_make 45 (.tmp 82) (.tmp 82) rfl rfl rfl (zk_made k (by omega) W)) hS3 ?_
  simp only [Act.put, List.setIfInBounds_toArray, List.set_cons_zero, List.set_cons_succ]
  refine held_one 41 gr41 (some 84) (.string (zerN k)) (W.alloc (zkObj k)) (by kernel_rfl) rfl rfl (by rfl) (exec_conv 45 9 (.tmp 83) rfl rfl (zk_conv k (by omega) W)) hS3 ?_
  simp only [Act.put, List.setIfInBounds_toArray, List.set_cons_zero, List.set_cons_succ]
  refine run_go [(42, gr42, (some 85)), (43, gr43, (some 86)), (44, gr44, (some 87)), (45, gr45, (some 88)), (46, gr46, (some 89)), (47, gr47, (some 90)), (48, gr48, (some 91)), (49, gr49, (some 92)), (50, gr50, (some 93))] (by kernel_rfl) ?_
  iterate 9 (refine run_take ?_ rfl rfl (fun _ _ _ h => h) (Or.inl ⟨by rfl, ?_⟩) hS3 ?_; rotate_left; (· (intro w0 hy0; obtain ⟨y1, y2, y3, y4⟩ := hy0; (go_simp <;> with_reducible rfl))); simp only [Act.put, List.setIfInBounds_toArray, List.set_cons_zero, List.set_cons_succ])
  refine run_end ?_
  have hcall := rgB_op HI.out hB3
  refine held_call 51 gr51 (some 94) (.bool true) (fun X => Becomes F (rgB w1.heap.size #[.int .i64 g0, .int .i64 g1, .int .i64 g2, .int .i64 g3, .int .i64 g4, .int .i64 g5, .int .i64 g6, .int .i64 g7] w.heap.size rgZ #[.string s, .int .i64 (n5 : Int), .bool false] (.int .i64 v1 :: .int .i64 v2 :: [.int .i64 v3, .int .i64 0, .int .i64 0, .int .i64 0, .int .i64 0, .int .i64 0, .int .i64 0, .int .i64 0, .int .i64 0]).toArray p most ts) w X) 47 #[.pointer (some ⟨p, 0, none⟩), .string (⟨#[114, 101, 99, 111, 114, 100]⟩ ++ s.extract 0 n4), .int .i64 v5] (by kernel_rfl) rfl rfl (by rfl) (exec_ishash (u := .pointer (some ⟨p, 0, none⟩)) (v := .string (⟨#[114, 101, 99, 111, 114, 100]⟩ ++ s.extract 0 n4)) (r := .int .i64 v5) (.tmp 88) (.tmp 92) (.tmp 93) rfl rfl (by go_simp) rfl) hcall (fun X hX => rgB_S hX) ?_
  intro X hF
  have hSX := rgB_S hF
  simp only [Act.put, List.setIfInBounds_toArray, List.set_cons_zero, List.set_cons_succ]
  refine run_go [(52, gr52, (some 95)), (53, gr53, (some 96))] (by kernel_rfl) ?_
  iterate 2 (refine run_take ?_ rfl rfl (fun _ _ _ h => h) (Or.inl ⟨by rfl, ?_⟩) hSX ?_; rotate_left; (· (intro w0 hy0; obtain ⟨y1, y2, y3, y4⟩ := hy0; (go_simp <;> with_reducible rfl))); simp only [Act.put, List.setIfInBounds_toArray, List.set_cons_zero, List.set_cons_succ])
  refine run_end ?_
  refine wpAnyH_done (by kernel_rfl) ?_ _
  clear hSX hSW hS3 hBW hB3
  obtain ⟨e1, f1, k1⟩ := hF.drop.own
  obtain ⟨e3, f3, l3⟩ := hF.drop.drop.drop.own
  go_wp2
  obtain ⟨hfin, r0, r1, r2, r3, r4, r5, r6, r7, r8, r9, r10⟩ := rg_fin (W := X) rfl hF.drop (.int .i64 0) (.int .i64 0) (.int .i64 0) (.int .i64 0) (.int .i64 0) (.int .i64 0) (.int .i64 0) (.int .i64 0) (.int .i64 0) (.int .i64 0) (.int .i64 0)
  exact bodyPost_ret (v := .tuple #[.agg rgZ, .int .i64 0, .int .i64 901]) (by simp [results, Tryd.results18, go_sem, r0, r1, r2, r3, r4, r5, r6, r7, r8, r9, r10]) rfl ⟨rfl, hfin⟩

end Go.Proofs.YtiebpjkppjollaaDoor

