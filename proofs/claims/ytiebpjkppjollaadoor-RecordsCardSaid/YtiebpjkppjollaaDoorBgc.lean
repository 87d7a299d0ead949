/- Put together: RcgI, RcgH, Rcget. Conditions: each theorem's own. -/
import Derived.Test.YtiebpjkppjollaaDoorBga
import Derived.Test.YtiebpjkppjollaaDoorRun
import Derived.Test.YtiebpjkppjollaaDoorBgb
import Derived.Deep.QuietTactic
import Derived.BigQuiet
import Derived.Laws.StructEq
namespace Go.Proofs.YtiebpjkppjollaaDoor
open Go Go.RowKit

set_option maxRecDepth 100000 in
set_option maxHeartbeats 8000000 in
theorem drget_I (p : Nat) (most : Int) (ts : List ByteArray) (s : ByteArray) (seq prev : Int) {w : World} {F : List Nat} (HS : Hid (∀ (n : Nat) (c0 c1 c2 : Array Value), Becomes F (rgA w.heap.size c0 c1 c2 p most ts) w ((((w.alloc (.cells c0 34)).drewN n).alloc (.cells c1 88)).alloc (.cells c2 34))))
    {v1 v2 v3 v5 a1 a2 a3 : Int} {n4 n5 k : Nat} {t : ByteArray} {b1 b2 b3 b4 : Bool} {g0 g1 g2 g3 g4 g5 g6 g7 : Int}
    (H1 : Hid (RdN2 s 0 false v1 a1 b1)) (H2 : Hid (RdN3 s a1 b1 v2 a2 b2)) (H3 : Hid (RdN3 s a2 b2 v3 a3 b3)) (H4 : Hid (RdT3 s a3 b3 t (n4 : Int) b4)) (H5 : Hid (RdN3 s (n4 : Int) b4 v5 (n5 : Int) false))
    (HE : Hid (∀ w : World, Calls Tryd.prog 46 #[.string t] w fun e w' => e = .returned (.tuple #[.agg #[.int .i64 g0, .int .i64 g1, .int .i64 g2, .int .i64 g3, .int .i64 g4, .int .i64 g5, .int .i64 g6, .int .i64 g7], .int .i64 0]) ∧ Below w.heap.size w w'))
    (c1 : s.size = 64) (ht : t.size ≤ 25) (d1 : ¬ v1 < 1) (d2 : ¬ v2 < 1) (hn4 : n4 ≤ 64) (hn5 : n5 ≤ 64) (hk : 64 - n5 = k) (hz : s.extract n5 64 = zerN k) (cq : v1 = seq) (cp : v3 ≠ prev)
    (HI : Hid (Does Tryd.prog (refA p most ts) 47 #[.pointer (some ⟨p, 0, none⟩), .string (⟨#[114, 101, 99, 111, 114, 100]⟩ ++ s.extract 0 n4), .int .i64 v5] (.returned (.bool true)) (refA p most ts))) :
    Calls Tryd.prog 18 #[.pointer (some ⟨p, 0, none⟩), .string s, .int .i64 seq, .int .i64 prev] w fun e w' => e = .returned (.tuple #[.agg rgZ, .int .i64 0, .int .i64 901]) ∧ Becomes F (refA p most ts) w w' := by
  have cq1 : (v1 == seq) = true := by simpa using cq
  have cq2 : (v1 != seq) = false := by simpa using cq
  have cp1 : (v3 == prev) = false := by simpa using cp
  have cp2 : (v3 != prev) = true := by simpa using cp
  clear cq cp
  have c1' : ((s.size : Int) != 64) = false := by simp; omega
  have ht44 : decide ((44 : Int) < (t.size : Int)) = false := by simp; omega
  have d1' : decide (v1 < 1) = false := by simp; omega
  have d2' : decide (v2 < 1) = false := by simp; omega
  have hn5i : (n5 : Int) ≤ 64 := by omega
  have hn4i : (n4 : Int) ≤ 64 := by omega
  have hki : (64 : Int) - (n5 : Int) = (k : Int) := by omega
  have hwk : IntKind.i64.wrap (k : Int) = k := by rw [IntKind.wrap_i64]; omega
  have hk64 : k ≤ 64 := by omega
  have hadd : ¬ 9223372036854775807 < 6 + n4 := by omega
  go_enter Tryd.func18, Tryd.ntmps18
  go_wp2_with (first
    | (go_at_call 44; first
        | ((with_reducible refine (H1.out _ _ (by simp)).mono ?_); rintro e w1 ⟨rfl, m1, rfl⟩)
        | ((with_reducible refine (H2.out _ _ _ (by simp)).mono ?_); rintro e w1 ⟨rfl, m2, rfl⟩)
        | ((with_reducible refine (H3.out _ _ _ (by simp)).mono ?_); rintro e w1 ⟨rfl, m3, rfl⟩)
        | ((with_reducible refine (H5.out _ _ _ (by simp)).mono ?_); rintro e w1 ⟨rfl, m5, rfl⟩))
    | (go_at_call 45; (with_reducible refine (H4.out _ _ _ (by simp)).mono ?_); rintro e w1 ⟨rfl, m4, rfl⟩)
    | (go_at_call 46; (with_reducible refine (HE.out _).mono ?_); rintro e w1 ⟨rfl, hb⟩; have hS := (HS.out _ _ _ _).lay (rgA_good _ _ _ _ _ _ _) hb; obtain ⟨e1, f1, l1⟩ := hS.own; obtain ⟨e2, f2, l2⟩ := hS.drop.own; obtain ⟨e3, f3, l3⟩ := hS.drop.drop.own))
  have hB : Becomes F (rgB w1.heap.size #[.int .i64 g0, .int .i64 g1, .int .i64 g2, .int .i64 g3, .int .i64 g4, .int .i64 g5, .int .i64 g6, .int .i64 g7] w.heap.size rgZ #[.string s, .int .i64 (n5 : Int), .bool false] (.int .i64 v1 :: .int .i64 v2 :: [.int .i64 v3, .int .i64 0, .int .i64 0, .int .i64 0, .int .i64 0, .int .i64 0, .int .i64 0, .int .i64 0, .int .i64 0]).toArray p most ts) w (w1.alloc (.cells #[.int .i64 g0, .int .i64 g1, .int .i64 g2, .int .i64 g3, .int .i64 g4, .int .i64 g5, .int .i64 g6, .int .i64 g7] 32)) := hS.hold (rgA_good _ _ _ _ _ _ _) #[.int .i64 g0, .int .i64 g1, .int .i64 g2, .int .i64 g3, .int .i64 g4, .int .i64 g5, .int .i64 g6, .int .i64 g7] 32
  have hws : (w1.alloc (.cells #[.int .i64 g0, .int .i64 g1, .int .i64 g2, .int .i64 g3, .int .i64 g4, .int .i64 g5, .int .i64 g6, .int .i64 g7] 32)).heap.size = w1.heap.size + 1 := by simp
  have hlt := l1
  clear hS e1 f1 l1 e2 f2 l2 e3 f3 l3 hb H1 H2 H3 H4 H5 HE HS
  refine region_held (S := rgS w.heap.size v1 v2 (n5 : Int)) 54 [false, false, false, false, false, false, false, false, false, false, false, false, false, false, false, false, false, false, false, false, false, false, false, false, false, false, false, false, false, false, false, false, false, false, false, false, false, false, false, false, false, false, false, false, false, false, false, false, false, false, false, false, false, false] rfl rfl (by kernel_rfl) fun W hW => ?_
  have hBW : Becomes F (rgB w1.heap.size #[.int .i64 g0, .int .i64 g1, .int .i64 g2, .int .i64 g3, .int .i64 g4, .int .i64 g5, .int .i64 g6, .int .i64 g7] w.heap.size rgZ #[.string s, .int .i64 (n5 : Int), .bool false] (.int .i64 v1 :: .int .i64 v2 :: [.int .i64 v3, .int .i64 0, .int .i64 0, .int .i64 0, .int .i64 0, .int .i64 0, .int .i64 0, .int .i64 0, .int .i64 0]).toArray p most ts) w W := by subst hW; exact hB.lay (rgB_good _ _ _ _ _ _ _ _ _) ⟨rfl, rfl, rfl, Nat.le_refl _, fun _ _ => rfl⟩
  have hWs : W.heap.size = w1.heap.size + 1 := by subst hW; exact hws
  clear hB hW hws
  have hSW := rgB_S hBW
  refine run_go [(0, gr0, (some 43)), (1, gr1, (some 44)), (2, gr2, (some 45)), (3, gr3, (some 46)), (4, gr4, (some 47)), (5, gr5, (some 48)), (6, gr6, (some 49)), (7, gr7, (some 50)), (8, gr8, (some 51)), (9, gr9, (some 52)), (10, gr10, (some 53)), (11, gr11, (some 54)), (12, gr12, (some 55)), (13, gr13, (some 56)), (14, gr14, (some 57)), (15, gr15, (some 58)), (16, gr16, (some 59)), (17, gr17, (some 60)), (18, gr18, (some 61)), (19, gr19, (some 62)), (20, gr20, (some 63)), (21, gr21, (some 64)), (22, gr22, (some 65)), (23, gr23, (some 66)), (24, gr24, (some 67)), (25, gr25, (some 68)), (26, gr26, (some 69)), (27, gr27, (some 70)), (28, gr28, (some 71)), (29, gr29, (some 72)), (30, gr30, (some 73)), (31, gr31, (some 74)), (32, gr32, (some 75)), (33, gr33, (some 76)), (34, gr34, (some 77)), (35, gr35, (some 78)), (36, gr36, (some 79)), (37, gr37, (some 80)), (38, gr38, (some 81)), (39, gr39, (some 82))] (by kernel_rfl) ?_
  iterate 40 (refine run_take ?_ rfl rfl (fun _ _ _ h => h) (Or.inl ⟨by rfl, ?_⟩) hSW ?_; rotate_left; (· (intro w0 hy0; obtain ⟨y1, y2, y3, y4⟩ := hy0; (go_simp <;> with_reducible rfl))); simp only [Act.put, List.setIfInBounds_toArray, List.set_cons_zero, List.set_cons_succ])
  refine run_end ?_
  have hB3 := hBW.lay (rgB_good _ _ _ _ _ _ _ _ _) ((Below.refl _ _).alloc (Nat.le_refl _) (zkObj k))
  have hS3 := rgB_S hB3
  refine held_one 40 gr40 (some 83) (.slice (some ⟨W.heap.size, 0, none⟩) k k) (W.alloc (zkObj k)) (by kernel_rfl) rfl rfl (by rfl) (exec_make 45 (.tmp 82) (.tmp 82) rfl rfl rfl (zk_made k (by omega) W)) hS3 ?_
  simp only [Act.put, List.setIfInBounds_toArray, List.set_cons_zero, List.set_cons_succ]
  refine held_one 41 gr41 (some 84) (.string (zerN k)) (W.alloc (zkObj k)) (by kernel_rfl) rfl rfl (by rfl) (exec_conv 45 9 (.tmp 83) rfl rfl (zk_conv k (by omega) W)) hS3 ?_
  simp only [Act.put, List.setIfInBounds_toArray, List.set_cons_zero, List.set_cons_succ]
  refine run_go [(42, gr42, (some 85)), (43, gr43, (some 86)), (44, gr44, (some 87)), (45, gr45, (some 88)), (46, gr46, (some 89)), (47, gr47, (some 90)), (48, gr48, (some 91)), (49, gr49, (some 92)), (50, gr50, (some 93))] (by kernel_rfl) ?_
  iterate 9 (refine run_take ?_ rfl rfl (fun _ _ _ h => h) (Or.inl ⟨by rfl, ?_⟩) hS3 ?_; rotate_left; (· (intro w0 hy0; obtain ⟨y1, y2, y3, y4⟩ := hy0; (go_simp <;> with_reducible rfl))); simp only [Act.put, List.setIfInBounds_toArray, List.set_cons_zero, List.set_cons_succ])
  refine run_end ?_
  have hcall := rgB_op HI.out hB3
  refine held_call 51 gr51 (some 94) (.bool true) (fun X => Becomes F (rgB w1.heap.size #[.int .i64 g0, .int .i64 g1, .int .i64 g2, .int .i64 g3, .int .i64 g4, .int .i64 g5, .int .i64 g6, .int .i64 g7] w.heap.size rgZ #[.string s, .int .i64 (n5 : Int), .bool false] (.int .i64 v1 :: .int .i64 v2 :: [.int .i64 v3, .int .i64 0, .int .i64 0, .int .i64 0, .int .i64 0, .int .i64 0, .int .i64 0, .int .i64 0, .int .i64 0]).toArray p most ts) w X) 47 #[.pointer (some ⟨p, 0, none⟩), .string (⟨#[114, 101, 99, 111, 114, 100]⟩ ++ s.extract 0 n4), .int .i64 v5] (by kernel_rfl) rfl rfl (by rfl) (exec_ishash (u := .pointer (some ⟨p, 0, none⟩)) (v := .string (⟨#[114, 101, 99, 111, 114, 100]⟩ ++ s.extract 0 n4)) (r := .int .i64 v5) (.tmp 88) (.tmp 92) (.tmp 93) rfl rfl (by go_simp) rfl) hcall (fun X hX => rgB_S hX) ?_
  intro X hF
  have hSX := rgB_S hF
  simp only [Act.put, List.setIfInBounds_toArray, List.set_cons_zero, List.set_cons_succ]
  refine run_go [(52, gr52, (some 95)), (53, gr53, (some 96))] (by kernel_rfl) ?_
  iterate 2 (refine run_take ?_ rfl rfl (fun _ _ _ h => h) (Or.inl ⟨by rfl, ?_⟩) hSX ?_; rotate_left; (· (intro w0 hy0; obtain ⟨y1, y2, y3, y4⟩ := hy0; (go_simp <;> with_reducible rfl))); simp only [Act.put, List.setIfInBounds_toArray, List.set_cons_zero, List.set_cons_succ])
  refine run_end ?_
  refine wpAnyH_done (by kernel_rfl) ?_ _
  clear hSX hSW hS3 hBW hB3
  obtain ⟨e1, f1, k1⟩ := hF.drop.own
  obtain ⟨e3, f3, l3⟩ := hF.drop.drop.drop.own
  go_wp2
  obtain ⟨hfin, r0, r1, r2, r3, r4, r5, r6, r7, r8, r9, r10⟩ := rg_fin (W := X) rfl hF.drop (.int .i64 0) (.int .i64 0) (.int .i64 0) (.int .i64 0) (.int .i64 0) (.int .i64 0) (.int .i64 0) (.int .i64 0) (.int .i64 0) (.int .i64 0) (.int .i64 0)
  exact bodyPost_ret (v := .tuple #[.agg rgZ, .int .i64 0, .int .i64 901]) (by simp [results, Tryd.results18, go_sem, r0, r1, r2, r3, r4, r5, r6, r7, r8, r9, r10]) rfl ⟨rfl, hfin⟩

end Go.Proofs.YtiebpjkppjollaaDoor

namespace Go.Proofs.YtiebpjkppjollaaDoor
open Go Go.RowKit

set_option maxRecDepth 100000 in
set_option maxHeartbeats 8000000 in
theorem drget_H (p : Nat) (most : Int) (ts : List ByteArray) (s : ByteArray) (seq prev : Int) {w : World} {F : List Nat} (HS : Hid (∀ (n : Nat) (c0 c1 c2 : Array Value), Becomes F (rgA w.heap.size c0 c1 c2 p most ts) w ((((w.alloc (.cells c0 34)).drewN n).alloc (.cells c1 88)).alloc (.cells c2 34))))
    {v1 v2 v3 v5 a1 a2 a3 : Int} {n4 n5 k : Nat} {t : ByteArray} {b1 b2 b3 b4 : Bool} {g0 g1 g2 g3 g4 g5 g6 g7 : Int}
    (H1 : Hid (RdN2 s 0 false v1 a1 b1)) (H2 : Hid (RdN3 s a1 b1 v2 a2 b2)) (H3 : Hid (RdN3 s a2 b2 v3 a3 b3)) (H4 : Hid (RdT3 s a3 b3 t (n4 : Int) b4)) (H5 : Hid (RdN3 s (n4 : Int) b4 v5 (n5 : Int) false))
    (HE : Hid (∀ w : World, Calls Tryd.prog 46 #[.string t] w fun e w' => e = .returned (.tuple #[.agg #[.int .i64 g0, .int .i64 g1, .int .i64 g2, .int .i64 g3, .int .i64 g4, .int .i64 g5, .int .i64 g6, .int .i64 g7], .int .i64 0]) ∧ Below w.heap.size w w'))
    (c1 : s.size = 64) (ht : t.size ≤ 25) (d1 : ¬ v1 < 1) (d2 : ¬ v2 < 1) (hn4 : n4 ≤ 64) (hn5 : n5 ≤ 64) (hk : 64 - n5 = k) (hz : s.extract n5 64 = zerN k) (cq : v1 = seq) (cp : v3 = prev)
    (HI : Hid (Does Tryd.prog (refA p most ts) 47 #[.pointer (some ⟨p, 0, none⟩), .string (⟨#[114, 101, 99, 111, 114, 100]⟩ ++ s.extract 0 n4), .int .i64 v5] (.returned (.bool true)) (refA p most ts))) :
    Calls Tryd.prog 18 #[.pointer (some ⟨p, 0, none⟩), .string s, .int .i64 seq, .int .i64 prev] w fun e w' => e = .returned (.tuple #[.agg #[.int .i64 v1, .int .i64 v2, .int .i64 v3, .int .i64 g0, .int .i64 g1, .int .i64 g2, .int .i64 g3, .int .i64 g4, .int .i64 g5, .int .i64 g6, .int .i64 g7], .int .i64 v5, .int .i64 0]) ∧ Becomes F (refA p most ts) w w' := by
  have cq1 : (v1 == seq) = true := by simpa using cq
  have cq2 : (v1 != seq) = false := by simpa using cq
  have cp1 : (v3 == prev) = true := by simpa using cp
  have cp2 : (v3 != prev) = false := by simpa using cp
  clear cq cp
  have c1' : ((s.size : Int) != 64) = false := by simp; omega
  have ht44 : decide ((44 : Int) < (t.size : Int)) = false := by simp; omega
  have d1' : decide (v1 < 1) = false := by simp; omega
  have d2' : decide (v2 < 1) = false := by simp; omega
  have hn5i : (n5 : Int) ≤ 64 := by omega
  have hn4i : (n4 : Int) ≤ 64 := by omega
  have hki : (64 : Int) - (n5 : Int) = (k : Int) := by omega
  have hwk : IntKind.i64.wrap (k : Int) = k := by rw [IntKind.wrap_i64]; omega
  have hk64 : k ≤ 64 := by omega
  have hadd : ¬ 9223372036854775807 < 6 + n4 := by omega
  go_enter Tryd.func18, Tryd.ntmps18
  go_wp2_with (first
    | (go_at_call 44; first
        | ((with_reducible refine (H1.out _ _ (by simp)).mono ?_); rintro e w1 ⟨rfl, m1, rfl⟩)
        | ((with_reducible refine (H2.out _ _ _ (by simp)).mono ?_); rintro e w1 ⟨rfl, m2, rfl⟩)
        | ((with_reducible refine (H3.out _ _ _ (by simp)).mono ?_); rintro e w1 ⟨rfl, m3, rfl⟩)
        | ((with_reducible refine (H5.out _ _ _ (by simp)).mono ?_); rintro e w1 ⟨rfl, m5, rfl⟩))
    | (go_at_call 45; (with_reducible refine (H4.out _ _ _ (by simp)).mono ?_); rintro e w1 ⟨rfl, m4, rfl⟩)
    | (go_at_call 46; (with_reducible refine (HE.out _).mono ?_); rintro e w1 ⟨rfl, hb⟩; have hS := (HS.out _ _ _ _).lay (rgA_good _ _ _ _ _ _ _) hb; obtain ⟨e1, f1, l1⟩ := hS.own; obtain ⟨e2, f2, l2⟩ := hS.drop.own; obtain ⟨e3, f3, l3⟩ := hS.drop.drop.own))
  have hB : Becomes F (rgB w1.heap.size #[.int .i64 g0, .int .i64 g1, .int .i64 g2, .int .i64 g3, .int .i64 g4, .int .i64 g5, .int .i64 g6, .int .i64 g7] w.heap.size rgZ #[.string s, .int .i64 (n5 : Int), .bool false] (.int .i64 v1 :: .int .i64 v2 :: [.int .i64 v3, .int .i64 0, .int .i64 0, .int .i64 0, .int .i64 0, .int .i64 0, .int .i64 0, .int .i64 0, .int .i64 0]).toArray p most ts) w (w1.alloc (.cells #[.int .i64 g0, .int .i64 g1, .int .i64 g2, .int .i64 g3, .int .i64 g4, .int .i64 g5, .int .i64 g6, .int .i64 g7] 32)) := hS.hold (rgA_good _ _ _ _ _ _ _) #[.int .i64 g0, .int .i64 g1, .int .i64 g2, .int .i64 g3, .int .i64 g4, .int .i64 g5, .int .i64 g6, .int .i64 g7] 32
  have hws : (w1.alloc (.cells #[.int .i64 g0, .int .i64 g1, .int .i64 g2, .int .i64 g3, .int .i64 g4, .int .i64 g5, .int .i64 g6, .int .i64 g7] 32)).heap.size = w1.heap.size + 1 := by simp
  have hlt := l1
  clear hS e1 f1 l1 e2 f2 l2 e3 f3 l3 hb H1 H2 H3 H4 H5 HE HS
  refine region_held (S := rgS w.heap.size v1 v2 (n5 : Int)) 54 [false, false, false, false, false, false, false, false, false, false, false, false, false, false, false, false, false, false, false, false, false, false, false, false, false, false, false, false, false, false, false, false, false, false, false, false, false, false, false, false, false, false, false, false, false, false, false, false, false, false, false, false, false, false] rfl rfl (by kernel_rfl) fun W hW => ?_
  have hBW : Becomes F (rgB w1.heap.size #[.int .i64 g0, .int .i64 g1, .int .i64 g2, .int .i64 g3, .int .i64 g4, .int .i64 g5, .int .i64 g6, .int .i64 g7] w.heap.size rgZ #[.string s, .int .i64 (n5 : Int), .bool false] (.int .i64 v1 :: .int .i64 v2 :: [.int .i64 v3, .int .i64 0, .int .i64 0, .int .i64 0, .int .i64 0, .int .i64 0, .int .i64 0, .int .i64 0, .int .i64 0]).toArray p most ts) w W := by subst hW; exact hB.lay (rgB_good _ _ _ _ _ _ _ _ _) ⟨rfl, rfl, rfl, Nat.le_refl _, fun _ _ => rfl⟩
  have hWs : W.heap.size = w1.heap.size + 1 := by subst hW; exact hws
  clear hB hW hws
  have hSW := rgB_S hBW
  refine run_go [(0, gr0, (some 43)), (1, gr1, (some 44)), (2, gr2, (some 45)), (3, gr3, (some 46)), (4, gr4, (some 47)), (5, gr5, (some 48)), (6, gr6, (some 49)), (7, gr7, (some 50)), (8, gr8, (some 51)), (9, gr9, (some 52)), (10, gr10, (some 53)), (11, gr11, (some 54)), (12, gr12, (some 55)), (13, gr13, (some 56)), (14, gr14, (some 57)), (15, gr15, (some 58)), (16, gr16, (some 59)), (17, gr17, (some 60)), (18, gr18, (some 61)), (19, gr19, (some 62)), (20, gr20, (some 63)), (21, gr21, (some 64)), (22, gr22, (some 65)), (23, gr23, (some 66)), (24, gr24, (some 67)), (25, gr25, (some 68)), (26, gr26, (some 69)), (27, gr27, (some 70)), (28, gr28, (some 71)), (29, gr29, (some 72)), (30, gr30, (some 73)), (31, gr31, (some 74)), (32, gr32, (some 75)), (33, gr33, (some 76)), (34, gr34, (some 77)), (35, gr35, (some 78)), (36, gr36, (some 79)), (37, gr37, (some 80)), (38, gr38, (some 81)), (39, gr39, (some 82))] (by kernel_rfl) ?_
  iterate 40 (refine run_take ?_ rfl rfl (fun _ _ _ h => h) (Or.inl ⟨by rfl, ?_⟩) hSW ?_; rotate_left; (· (intro w0 hy0; obtain ⟨y1, y2, y3, y4⟩ := hy0; (go_simp <;> with_reducible rfl))); simp only [Act.put, List.setIfInBounds_toArray, List.set_cons_zero, List.set_cons_succ])
  refine run_end ?_
  have hB3 := hBW.lay (rgB_good _ _ _ _ _ _ _ _ _) ((Below.refl _ _).alloc (Nat.le_refl _) (zkObj k))
  have hS3 := rgB_S hB3
  refine held_one 40 gr40 (some 83) (.slice (some ⟨W.heap.size, 0, none⟩) k k) (W.alloc (zkObj k)) (by kernel_rfl) rfl rfl (by rfl) (exec_make 45 (.tmp 82) (.tmp 82) rfl rfl rfl (zk_made k (by omega) W)) hS3 ?_
  simp only [Act.put, List.setIfInBounds_toArray, List.set_cons_zero, List.set_cons_succ]
  refine held_one 41 gr41 (some 84) (.string (zerN k)) (W.alloc (zkObj k)) (by kernel_rfl) rfl rfl (by rfl) (exec_conv 45 9 (.tmp 83) rfl rfl (zk_conv k (by omega) W)) hS3 ?_
  simp only [Act.put, List.setIfInBounds_toArray, List.set_cons_zero, List.set_cons_succ]
  refine run_go [(42, gr42, (some 85)), (43, gr43, (some 86)), (44, gr44, (some 87)), (45, gr45, (some 88)), (46, gr46, (some 89)), (47, gr47, (some 90)), (48, gr48, (some 91)), (49, gr49, (some 92)), (50, gr50, (some 93))] (by kernel_rfl) ?_
  iterate 9 (refine run_take ?_ rfl rfl (fun _ _ _ h => h) (Or.inl ⟨by rfl, ?_⟩) hS3 ?_; rotate_left; (· (intro w0 hy0; obtain ⟨y1, y2, y3, y4⟩ := hy0; (go_simp <;> with_reducible rfl))); simp only [Act.put, List.setIfInBounds_toArray, List.set_cons_zero, List.set_cons_succ])
  refine run_end ?_
  have hcall := rgB_op HI.out hB3
  refine held_call 51 gr51 (some 94) (.bool true) (fun X => Becomes F (rgB w1.heap.size #[.int .i64 g0, .int .i64 g1, .int .i64 g2, .int .i64 g3, .int .i64 g4, .int .i64 g5, .int .i64 g6, .int .i64 g7] w.heap.size rgZ #[.string s, .int .i64 (n5 : Int), .bool false] (.int .i64 v1 :: .int .i64 v2 :: [.int .i64 v3, .int .i64 0, .int .i64 0, .int .i64 0, .int .i64 0, .int .i64 0, .int .i64 0, .int .i64 0, .int .i64 0]).toArray p most ts) w X) 47 #[.pointer (some ⟨p, 0, none⟩), .string (⟨#[114, 101, 99, 111, 114, 100]⟩ ++ s.extract 0 n4), .int .i64 v5] (by kernel_rfl) rfl rfl (by rfl) (exec_ishash (u := .pointer (some ⟨p, 0, none⟩)) (v := .string (⟨#[114, 101, 99, 111, 114, 100]⟩ ++ s.extract 0 n4)) (r := .int .i64 v5) (.tmp 88) (.tmp 92) (.tmp 93) rfl rfl (by go_simp) rfl) hcall (fun X hX => rgB_S hX) ?_
  intro X hF
  have hSX := rgB_S hF
  simp only [Act.put, List.setIfInBounds_toArray, List.set_cons_zero, List.set_cons_succ]
  refine run_go [(52, gr52, (some 95)), (53, gr53, (some 96))] (by kernel_rfl) ?_
  iterate 2 (refine run_take ?_ rfl rfl (fun _ _ _ h => h) (Or.inl ⟨by rfl, ?_⟩) hSX ?_; rotate_left; (· (intro w0 hy0; obtain ⟨y1, y2, y3, y4⟩ := hy0; (go_simp <;> with_reducible rfl))); simp only [Act.put, List.setIfInBounds_toArray, List.set_cons_zero, List.set_cons_succ])
  refine run_end ?_
  refine wpAnyH_done (by kernel_rfl) ?_ _
  clear hSX hSW hS3 hBW hB3
  obtain ⟨e0, f0, k0⟩ := hF.own
  obtain ⟨e1, f1, k1⟩ := hF.drop.own
  obtain ⟨e3, f3, k3⟩ := hF.drop.drop.drop.own
  have hg : ((ownA (w.heap.size + 1) #[.string s, .int .i64 (n5 : Int), .bool false] 88).star ((ownA w.heap.size rgZ 34).star (refA p most ts))).Good := (ownA_good _ _ _).star ((ownA_good _ _ _).star (refA_good _ _ _))
  have hP := ((((((((hF.drop).poke hg 3 (.int .i64 g0)).poke hg 4 (.int .i64 g1)).poke hg 5 (.int .i64 g2)).poke hg 6 (.int .i64 g3)).poke hg 7 (.int .i64 g4)).poke hg 8 (.int .i64 g5)).poke hg 9 (.int .i64 g6)).poke hg 10 (.int .i64 g7)
  go_wp2
  obtain ⟨hfin, r0, r1, r2, r3, r4, r5, r6, r7, r8, r9, r10⟩ := rg_fin (W := ((((((((X.setCell ⟨w.heap.size + 1 + 1, 3, none⟩ (.int .i64 g0)).setCell ⟨w.heap.size + 1 + 1, 4, none⟩ (.int .i64 g1)).setCell ⟨w.heap.size + 1 + 1, 5, none⟩ (.int .i64 g2)).setCell ⟨w.heap.size + 1 + 1, 6, none⟩ (.int .i64 g3)).setCell ⟨w.heap.size + 1 + 1, 7, none⟩ (.int .i64 g4)).setCell ⟨w.heap.size + 1 + 1, 8, none⟩ (.int .i64 g5)).setCell ⟨w.heap.size + 1 + 1, 9, none⟩ (.int .i64 g6)).setCell ⟨w.heap.size + 1 + 1, 10, none⟩ (.int .i64 g7))) rfl hP (.int .i64 v1) (.int .i64 v2) (.int .i64 v3) (.int .i64 g0) (.int .i64 g1) (.int .i64 g2) (.int .i64 g3) (.int .i64 g4) (.int .i64 g5) (.int .i64 g6) (.int .i64 g7)
  exact bodyPost_ret (v := .tuple #[.agg #[.int .i64 v1, .int .i64 v2, .int .i64 v3, .int .i64 g0, .int .i64 g1, .int .i64 g2, .int .i64 g3, .int .i64 g4, .int .i64 g5, .int .i64 g6, .int .i64 g7], .int .i64 v5, .int .i64 0]) (by simp [results, Tryd.results18, go_sem, r0, r1, r2, r3, r4, r5, r6, r7, r8, r9, r10]) rfl ⟨rfl, hfin⟩

end Go.Proofs.YtiebpjkppjollaaDoor

namespace Go.Proofs.YtiebpjkppjollaaDoor
open Go Go.RowKit

theorem ba_ne {s t : ByteArray} (h : s ≠ t) : (s.toList == t.toList) = false := by
  cases c : (s.toList == t.toList)
  · rfl
  · exfalso
    refine h ?_
    have h1 : s.toList = t.toList := by simpa using c
    obtain ⟨⟨a⟩⟩ := s
    obtain ⟨⟨b⟩⟩ := t
    rw [ByteArray.toList_mk, ByteArray.toList_mk] at h1
    exact congrArg (fun l => (⟨⟨l⟩⟩ : ByteArray)) h1
set_option maxRecDepth 100000 in
set_option maxHeartbeats 8000000 in
theorem drget (p : Nat) (most : Int) (ts : List ByteArray) (s : ByteArray) (seq prev : Int) (hs : s.size ≤ 9223372036854770000) : Does Tryd.prog (refA p most ts) 18 #[.pointer (some ⟨p, 0, none⟩), .string s, .int .i64 seq, .int .i64 prev] (.returned (.tuple #[(rgR ts s seq prev).val, .int .i64 (rgN ts s seq prev), .int .i64 (rgE ts s seq prev)])) (refA p most ts) := by
  intro w F h
  have HS := Lib.hid (fun n c0 c1 c2 => rg_start h n c0 c1 c2)
  clear h
  have hv := rdv s
  have h1 := fun X q => rdnum2 s 0 false 88 hs (by omega) (by omega) X q
  obtain ⟨x1, y1⟩ := rnA_bd (s := s) (a := 0) (b := false) (by omega) (by omega)
  generalize rnX s 0 false = v1 at *
  generalize rnA s 0 false = a1 at *
  generalize rnB s 0 false = b1 at *
  have h2 := fun X q P => rdnum3 s a1 b1 88 hs x1 y1 X q P
  obtain ⟨x2, y2⟩ := rnA_bd (s := s) (a := a1) (b := b1) x1 y1
  generalize rnX s a1 b1 = v2 at *
  generalize rnA s a1 b1 = a2 at *
  generalize rnB s a1 b1 = b2 at *
  have h3 := fun X q P => rdnum3 s a2 b2 88 hs x2 y2 X q P
  obtain ⟨x3, y3⟩ := rnA_bd (s := s) (a := a2) (b := b2) x2 y2
  generalize rnX s a2 b2 = v3 at *
  generalize rnA s a2 b2 = a3 at *
  generalize rnB s a2 b2 = b3 at *
  have h4 := fun X q P => rdtext3 s a3 b3 88 hs x3 y3 X q P
  have htz := rtX_size s a3 b3
  obtain ⟨x4, y4⟩ := rtA_bd (s := s) (a := a3) (b := b3) x3 y3
  generalize rtX s a3 b3 = t at *
  generalize rtA s a3 b3 = a4 at *
  generalize rtB s a3 b3 = b4 at *
  have h5 := fun X q P => rdnum3 s a4 b4 88 hs x4 y4 X q P
  obtain ⟨x5, y5⟩ := rnA_bd (s := s) (a := a4) (b := b4) x4 y4
  generalize rnX s a4 b4 = v5 at *
  generalize rnA s a4 b4 = a5 at *
  generalize rnB s a4 b4 = b5 at *
  have H1 := Lib.hid h1
  have H2 := Lib.hid h2
  have H3 := Lib.hid h3
  have H4 := Lib.hid h4
  have H5 := Lib.hid h5
  clear h1 h2 h3 h4 h5
  have hE := fun w => reget t w (by omega)
  have hgE := getE_seven (t := t)
  have hgZ := getE_zero (t := t)
  generalize Ev.getE t = E at *
  generalize Ev.getP t = V at *
  obtain ⟨g0, g1, g2, g3, g4, g5, g6, g7⟩ := V
  unfold Ev.val at hE
  have HE := Lib.hid hE
  clear hE
  by_cases c1 : s.size = 64
  · have c1' : ((s.size : Int) != 64) = false := by simp; omega
    cases b5 with
    | true =>
      have hno := find_no (hv.none (.inr (.inl rfl)) ts) seq prev
      rw [hno.1, hno.2.1, hno.2.2]
      unfold Rc.val Rc.zero Ev.zero
      simp only
      skip
      clear hno hv hgE hgZ
      go_enter Tryd.func18, Tryd.ntmps18
      go_wp2_with (first
          | (go_at_call 44; first
              | ((with_reducible refine (H1.out _ _ (by simp)).mono ?_); rintro e w1 ⟨rfl, m1, rfl⟩)
              | ((with_reducible refine (H2.out _ _ _ (by simp)).mono ?_); rintro e w1 ⟨rfl, m2, rfl⟩)
              | ((with_reducible refine (H3.out _ _ _ (by simp)).mono ?_); rintro e w1 ⟨rfl, m3, rfl⟩)
              | ((with_reducible refine (H5.out _ _ _ (by simp)).mono ?_); rintro e w1 ⟨rfl, m5, rfl⟩))
          | (go_at_call 45; (with_reducible refine (H4.out _ _ _ (by simp)).mono ?_); rintro e w1 ⟨rfl, m4, rfl⟩)
          | (go_at_call 46; (with_reducible refine (HE.out _).mono ?_); rintro e w1 ⟨rfl, hb⟩; have hS := (HS.out _ _ _ _).lay (rgA_good _ _ _ _ _ _ _) hb; obtain ⟨e1, f1, l1⟩ := hS.own; obtain ⟨e2, f2, l2⟩ := hS.drop.own; obtain ⟨e3, f3, l3⟩ := hS.drop.drop.own))
      go_quiet (fail)
      all_goals
        go_wp2
        obtain ⟨hfin, r0, r1, r2, r3, r4, r5, r6, r7, r8, r9, r10⟩ := rg_fin (W := (w1.alloc (.cells #[.int .i64 g0, .int .i64 g1, .int .i64 g2, .int .i64 g3, .int .i64 g4, .int .i64 g5, .int .i64 g6, .int .i64 g7] 32)).drewN nq) rfl (hS.lay (rgA_good _ _ _ _ _ _ _) (((Below.refl _ _).alloc (Nat.le_refl _) _).trans ⟨rfl, rfl, rfl, Nat.le_refl _, fun _ _ => rfl⟩)) (.int .i64 0) (.int .i64 0) (.int .i64 0) (.int .i64 0) (.int .i64 0) (.int .i64 0) (.int .i64 0) (.int .i64 0) (.int .i64 0) (.int .i64 0) (.int .i64 0)
        exact bodyPost_ret (v := .tuple #[.agg rgZ, .int .i64 0, .int .i64 900]) (by simp [results, Tryd.results18, go_sem, r0, r1, r2, r3, r4, r5, r6, r7, r8, r9, r10]) rfl ⟨rfl, hfin⟩
    | false =>
      by_cases cE : E = 0
      · obtain ⟨V, hV, hVe⟩ := hgZ.1 cE
        subst hVe
        subst cE
        have ht25 : t.size ≤ 25 := by
          obtain ⟨_, e⟩ := Ev.codec.form t _ hV
          rw [← e]; exact Ev.put_small _
        have ht44 : decide ((44 : Int) < (t.size : Int)) = false := by simp; omega
        by_cases d1 : v1 < 1
        · have hno := find_no (hv.none (.inr (.inr (.inr (.inl d1)))) ts) seq prev
          rw [hno.1, hno.2.1, hno.2.2]
          unfold Rc.val Rc.zero Ev.zero
          simp only
          skip
          clear hno hv hgE hgZ hV
          go_enter Tryd.func18, Tryd.ntmps18
          go_wp2_with (first
              | (go_at_call 44; first
                  | ((with_reducible refine (H1.out _ _ (by simp)).mono ?_); rintro e w1 ⟨rfl, m1, rfl⟩)
                  | ((with_reducible refine (H2.out _ _ _ (by simp)).mono ?_); rintro e w1 ⟨rfl, m2, rfl⟩)
                  | ((with_reducible refine (H3.out _ _ _ (by simp)).mono ?_); rintro e w1 ⟨rfl, m3, rfl⟩)
                  | ((with_reducible refine (H5.out _ _ _ (by simp)).mono ?_); rintro e w1 ⟨rfl, m5, rfl⟩))
              | (go_at_call 45; (with_reducible refine (H4.out _ _ _ (by simp)).mono ?_); rintro e w1 ⟨rfl, m4, rfl⟩)
              | (go_at_call 46; (with_reducible refine (HE.out _).mono ?_); rintro e w1 ⟨rfl, hb⟩; have hS := (HS.out _ _ _ _).lay (rgA_good _ _ _ _ _ _ _) hb; obtain ⟨e1, f1, l1⟩ := hS.own; obtain ⟨e2, f2, l2⟩ := hS.drop.own; obtain ⟨e3, f3, l3⟩ := hS.drop.drop.own))
          go_quiet (fail)
          all_goals
            go_wp2
            obtain ⟨hfin, r0, r1, r2, r3, r4, r5, r6, r7, r8, r9, r10⟩ := rg_fin (W := (w1.alloc (.cells #[.int .i64 g0, .int .i64 g1, .int .i64 g2, .int .i64 g3, .int .i64 g4, .int .i64 g5, .int .i64 g6, .int .i64 g7] 32)).drewN nq) rfl (hS.lay (rgA_good _ _ _ _ _ _ _) (((Below.refl _ _).alloc (Nat.le_refl _) _).trans ⟨rfl, rfl, rfl, Nat.le_refl _, fun _ _ => rfl⟩)) (.int .i64 0) (.int .i64 0) (.int .i64 0) (.int .i64 0) (.int .i64 0) (.int .i64 0) (.int .i64 0) (.int .i64 0) (.int .i64 0) (.int .i64 0) (.int .i64 0)
            exact bodyPost_ret (v := .tuple #[.agg rgZ, .int .i64 0, .int .i64 900]) (by simp [results, Tryd.results18, go_sem, r0, r1, r2, r3, r4, r5, r6, r7, r8, r9, r10]) rfl ⟨rfl, hfin⟩
        · by_cases d2 : v2 < 1
          · have hno := find_no (hv.none (.inr (.inr (.inr (.inr (.inl d2))))) ts) seq prev
            rw [hno.1, hno.2.1, hno.2.2]
            unfold Rc.val Rc.zero Ev.zero
            simp only
            have d1' : decide (v1 < 1) = false := by simp; omega
            clear hno hv hgE hgZ hV
            go_enter Tryd.func18, Tryd.ntmps18
            go_wp2_with (first
                | (go_at_call 44; first
                    | ((with_reducible refine (H1.out _ _ (by simp)).mono ?_); rintro e w1 ⟨rfl, m1, rfl⟩)
                    | ((with_reducible refine (H2.out _ _ _ (by simp)).mono ?_); rintro e w1 ⟨rfl, m2, rfl⟩)
                    | ((with_reducible refine (H3.out _ _ _ (by simp)).mono ?_); rintro e w1 ⟨rfl, m3, rfl⟩)
                    | ((with_reducible refine (H5.out _ _ _ (by simp)).mono ?_); rintro e w1 ⟨rfl, m5, rfl⟩))
                | (go_at_call 45; (with_reducible refine (H4.out _ _ _ (by simp)).mono ?_); rintro e w1 ⟨rfl, m4, rfl⟩)
                | (go_at_call 46; (with_reducible refine (HE.out _).mono ?_); rintro e w1 ⟨rfl, hb⟩; have hS := (HS.out _ _ _ _).lay (rgA_good _ _ _ _ _ _ _) hb; obtain ⟨e1, f1, l1⟩ := hS.own; obtain ⟨e2, f2, l2⟩ := hS.drop.own; obtain ⟨e3, f3, l3⟩ := hS.drop.drop.own))
            go_quiet (fail)
            all_goals
              go_wp2
              obtain ⟨hfin, r0, r1, r2, r3, r4, r5, r6, r7, r8, r9, r10⟩ := rg_fin (W := (w1.alloc (.cells #[.int .i64 g0, .int .i64 g1, .int .i64 g2, .int .i64 g3, .int .i64 g4, .int .i64 g5, .int .i64 g6, .int .i64 g7] 32)).drewN nq) rfl (hS.lay (rgA_good _ _ _ _ _ _ _) (((Below.refl _ _).alloc (Nat.le_refl _) _).trans ⟨rfl, rfl, rfl, Nat.le_refl _, fun _ _ => rfl⟩)) (.int .i64 0) (.int .i64 0) (.int .i64 0) (.int .i64 0) (.int .i64 0) (.int .i64 0) (.int .i64 0) (.int .i64 0) (.int .i64 0) (.int .i64 0) (.int .i64 0)
              exact bodyPost_ret (v := .tuple #[.agg rgZ, .int .i64 0, .int .i64 900]) (by simp [results, Tryd.results18, go_sem, r0, r1, r2, r3, r4, r5, r6, r7, r8, r9, r10]) rfl ⟨rfl, hfin⟩
          · obtain ⟨n5, rfl⟩ := Int.eq_ofNat_of_zero_le x5
            obtain ⟨n4, rfl⟩ := Int.eq_ofNat_of_zero_le x4
            have hn5 : n5 ≤ 64 := by omega
            have hn4 : n4 ≤ 64 := by omega
            by_cases hz : s.extract n5 64 = zerN (64 - n5)
            · have hfd := hv.find hV c1 (by omega) (by omega) (by rw [Int.toNat_natCast]; exact hz) ts
              rw [Int.toNat_natCast] at hfd
              have hI := drishash p most ts (markR ++ s.extract 0 n4) v5 (by rw [ByteArray.size_append, ByteArray.size_extract, show markR.size = 6 from rfl]; omega)
              rw [show okK none = true from rfl] at hI
              generalize ckI ts true (tmK cH none (markR ++ s.extract 0 n4)) v5 = CK at *
              unfold markR at hI
              have HI := Lib.hid hI
              cases CK with
              | false =>
                rw [if_neg (by decide)] at hfd
                have hno := find_no hfd seq prev
                rw [hno.1, hno.2.1, hno.2.2]
                exact drget_F p most ts s seq prev HS H1 H2 H3 H4 H5 HE c1 ht25 d1 d2 hn4 hn5 rfl hz HI
              | true =>
                rw [if_pos rfl] at hfd
                by_cases cq : v1 = seq
                · by_cases cp : v3 = prev
                  · have hno := (find_of_some hfd seq prev).1 ⟨cq, cp⟩
                    rw [hno.1, hno.2.1, hno.2.2]
                    exact drget_H p most ts s seq prev HS H1 H2 H3 H4 H5 HE c1 ht25 d1 d2 hn4 hn5 rfl hz cq cp HI
                  · have hno := (find_of_some hfd seq prev).2 (fun c => cp c.2)
                    rw [hno.1, hno.2.1, hno.2.2]
                    exact drget_I p most ts s seq prev HS H1 H2 H3 H4 H5 HE c1 ht25 d1 d2 hn4 hn5 rfl hz cq cp HI
                · have hno := (find_of_some hfd seq prev).2 (fun c => cq c.1)
                  rw [hno.1, hno.2.1, hno.2.2]
                  exact drget_G p most ts s seq prev HS H1 H2 H3 H4 H5 HE c1 ht25 d1 d2 hn4 hn5 rfl hz cq HI
            · have hno := find_no (hv.none (.inr (.inr (.inr (.inr (.inr (by rw [Int.toNat_natCast]; exact hz)))))) ts) seq prev
              rw [hno.1, hno.2.1, hno.2.2]
              exact drget_E p most ts s seq prev HS H1 H2 H3 H4 H5 HE c1 ht25 d1 d2 hn4 hn5 rfl (ba_ne hz)
      · have hno := find_no (hv.none (.inr (.inr (.inl (hgE cE).2))) ts) seq prev
        rw [hno.1, hno.2.1, hno.2.2]
        unfold Rc.val Rc.zero Ev.zero
        simp only
        rw [(hgE cE).1] at HE
        clear hno hv hgE hgZ cE
        go_enter Tryd.func18, Tryd.ntmps18
        go_wp2_with (first
            | (go_at_call 44; first
                | ((with_reducible refine (H1.out _ _ (by simp)).mono ?_); rintro e w1 ⟨rfl, m1, rfl⟩)
                | ((with_reducible refine (H2.out _ _ _ (by simp)).mono ?_); rintro e w1 ⟨rfl, m2, rfl⟩)
                | ((with_reducible refine (H3.out _ _ _ (by simp)).mono ?_); rintro e w1 ⟨rfl, m3, rfl⟩)
                | ((with_reducible refine (H5.out _ _ _ (by simp)).mono ?_); rintro e w1 ⟨rfl, m5, rfl⟩))
            | (go_at_call 45; (with_reducible refine (H4.out _ _ _ (by simp)).mono ?_); rintro e w1 ⟨rfl, m4, rfl⟩)
            | (go_at_call 46; (with_reducible refine (HE.out _).mono ?_); rintro e w1 ⟨rfl, hb⟩; have hS := (HS.out _ _ _ _).lay (rgA_good _ _ _ _ _ _ _) hb; obtain ⟨e1, f1, l1⟩ := hS.own; obtain ⟨e2, f2, l2⟩ := hS.drop.own; obtain ⟨e3, f3, l3⟩ := hS.drop.drop.own))
        go_quiet (fail)
        all_goals
          go_wp2
          obtain ⟨hfin, r0, r1, r2, r3, r4, r5, r6, r7, r8, r9, r10⟩ := rg_fin (W := (w1.alloc (.cells #[.int .i64 g0, .int .i64 g1, .int .i64 g2, .int .i64 g3, .int .i64 g4, .int .i64 g5, .int .i64 g6, .int .i64 g7] 32)).drewN nq) rfl (hS.lay (rgA_good _ _ _ _ _ _ _) (((Below.refl _ _).alloc (Nat.le_refl _) _).trans ⟨rfl, rfl, rfl, Nat.le_refl _, fun _ _ => rfl⟩)) (.int .i64 0) (.int .i64 0) (.int .i64 0) (.int .i64 0) (.int .i64 0) (.int .i64 0) (.int .i64 0) (.int .i64 0) (.int .i64 0) (.int .i64 0) (.int .i64 0)
          exact bodyPost_ret (v := .tuple #[.agg rgZ, .int .i64 0, .int .i64 900]) (by simp [results, Tryd.results18, go_sem, r0, r1, r2, r3, r4, r5, r6, r7, r8, r9, r10]) rfl ⟨rfl, hfin⟩
  · have hno := find_no (hv.none (.inl c1) ts) seq prev
    rw [hno.1, hno.2.1, hno.2.2]
    unfold Rc.val Rc.zero Ev.zero
    simp only
    have c1' : ((s.size : Int) != 64) = true := by simp; omega
    clear hno hv hgE hgZ
    go_enter Tryd.func18, Tryd.ntmps18
    go_wp2_with (first
        | (go_at_call 44; first
            | ((with_reducible refine (H1.out _ _ (by simp)).mono ?_); rintro e w1 ⟨rfl, m1, rfl⟩)
            | ((with_reducible refine (H2.out _ _ _ (by simp)).mono ?_); rintro e w1 ⟨rfl, m2, rfl⟩)
            | ((with_reducible refine (H3.out _ _ _ (by simp)).mono ?_); rintro e w1 ⟨rfl, m3, rfl⟩)
            | ((with_reducible refine (H5.out _ _ _ (by simp)).mono ?_); rintro e w1 ⟨rfl, m5, rfl⟩))
        | (go_at_call 45; (with_reducible refine (H4.out _ _ _ (by simp)).mono ?_); rintro e w1 ⟨rfl, m4, rfl⟩)
        | (go_at_call 46; (with_reducible refine (HE.out _).mono ?_); rintro e w1 ⟨rfl, hb⟩; have hS := (HS.out _ _ _ _).lay (rgA_good _ _ _ _ _ _ _) hb; obtain ⟨e1, f1, l1⟩ := hS.own; obtain ⟨e2, f2, l2⟩ := hS.drop.own; obtain ⟨e3, f3, l3⟩ := hS.drop.drop.own))
    go_quiet (fail)
    all_goals
      go_wp2
      obtain ⟨hfin, r0, r1, r2, r3, r4, r5, r6, r7, r8, r9, r10⟩ := rg_fin (W := (w1.alloc (.cells #[.int .i64 g0, .int .i64 g1, .int .i64 g2, .int .i64 g3, .int .i64 g4, .int .i64 g5, .int .i64 g6, .int .i64 g7] 32)).drewN nq) rfl (hS.lay (rgA_good _ _ _ _ _ _ _) (((Below.refl _ _).alloc (Nat.le_refl _) _).trans ⟨rfl, rfl, rfl, Nat.le_refl _, fun _ _ => rfl⟩)) (.int .i64 0) (.int .i64 0) (.int .i64 0) (.int .i64 0) (.int .i64 0) (.int .i64 0) (.int .i64 0) (.int .i64 0) (.int .i64 0) (.int .i64 0) (.int .i64 0)
      exact bodyPost_ret (v := .tuple #[.agg rgZ, .int .i64 0, .int .i64 900]) (by simp [results, Tryd.results18, go_sem, r0, r1, r2, r3, r4, r5, r6, r7, r8, r9, r10]) rfl ⟨rfl, hfin⟩
end Go.Proofs.YtiebpjkppjollaaDoor

