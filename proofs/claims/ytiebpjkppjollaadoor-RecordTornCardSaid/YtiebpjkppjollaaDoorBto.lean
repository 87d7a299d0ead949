/- Put together: Rctorn, Rctorn2. Conditions: each theorem's own. -/
import Derived.Test.YtiebpjkppjollaaDoorRcaw
import Derived.Test.YtiebpjkppjollaaDoorBdz
import Derived.IntWalk
import Derived.Laws.BitsLemmas
import Derived.RegionTactic
import Derived.Test.YtiebpjkppjollaaDoorBfp
namespace Go.Proofs.YtiebpjkppjollaaDoor
open Go Go.RowKit

theorem At.hold2 {C : Ass} {w0 w : World} (hC : C.Good) (h : At w0 C w) (c1 c2 : Array Value) (T1 T2 : TypeId) : At w0 ((ownA (w.heap.size + 1) c2 T2).star ((ownA w.heap.size c1 T1).star C)) ((w.alloc (.cells c1 T1)).alloc (.cells c2 T2)) := by
  have h2 := (h.hold hC c1 T1).hold ((ownA_good _ _ _).star hC) c2 T2
  rw [show (w.alloc (.cells c1 T1)).heap.size = w.heap.size + 1 by simp] at h2
  exact h2
set_option maxRecDepth 100000 in
set_option maxHeartbeats 8000000 in
theorem rtorn_r1 (a0 a1 a2 a3 a4 a5 a6 a7 c0 c1 c2 c3 c4 c5 c6 c7 tn bo B : Int) (hB : bits .and .i64 bo 1 = B) (hB0 : 0 ≤ B) (hB1 : B ≤ 1) (S U : ByteArray) (T1 T2 : List ByteArray) (o1 o2 E2 : Int)
    (ha : ∀ p : Nat, DoesG Tryd.prog (bookA p 9 []) 14 #[.pointer (some ⟨p, 0, none⟩), .agg #[.int .i64 1, .int .i64 (1 + B), .int .i64 0, .int .i64 a0, .int .i64 a1, .int .i64 a2, .int .i64 a3, .int .i64 a4, .int .i64 a5, .int .i64 a6, .int .i64 a7]] (.returned (.tuple #[.string S, .int .i64 o1, .int .i64 900])) (bookA p 9 T1))
    (hb : ∀ p : Nat, DoesG Tryd.prog (bookA p 9 T1) 14 #[.pointer (some ⟨p, 0, none⟩), .agg #[.int .i64 1, .int .i64 3, .int .i64 0, .int .i64 c0, .int .i64 c1, .int .i64 c2, .int .i64 c3, .int .i64 c4, .int .i64 c5, .int .i64 c6, .int .i64 c7]] (.returned (.tuple #[.string U, .int .i64 o2, .int .i64 E2])) (bookA p 9 T2))
    (w : World) (hg : Gd w) : Calls Tryd.prog 7 #[.agg #[.int .i64 a0, .int .i64 a1, .int .i64 a2, .int .i64 a3, .int .i64 a4, .int .i64 a5, .int .i64 a6, .int .i64 a7], .agg #[.int .i64 c0, .int .i64 c1, .int .i64 c2, .int .i64 c3, .int .i64 c4, .int .i64 c5, .int .i64 c6, .int .i64 c7], .int .i64 tn, .int .i64 bo] w fun e w' => e = .returned (.bool true) ∧ Below w.heap.size w w' := by
  have HA := Lib.hid ha
  have HB := Lib.hid hb
  have HG := Lib.hid hg
  clear ha hb
  have hS0 : At w ((ownA (w.heap.size + 1) #[.int .i64 c0, .int .i64 c1, .int .i64 c2, .int .i64 c3, .int .i64 c4, .int .i64 c5, .int .i64 c6, .int .i64 c7] 32).star ((ownA w.heap.size #[.int .i64 a0, .int .i64 a1, .int .i64 a2, .int .i64 a3, .int .i64 a4, .int .i64 a5, .int .i64 a6, .int .i64 a7] 32).star emp)) ((w.alloc (.cells #[.int .i64 a0, .int .i64 a1, .int .i64 a2, .int .i64 a3, .int .i64 a4, .int .i64 a5, .int .i64 a6, .int .i64 a7] 32)).alloc (.cells #[.int .i64 c0, .int .i64 c1, .int .i64 c2, .int .i64 c3, .int .i64 c4, .int .i64 c5, .int .i64 c6, .int .i64 c7] 32)) := (At.none (Below.refl w.heap.size w)).hold2 emp_good _ _ _ _
  have HW := Lib.hid (awake9 ((w.alloc (.cells #[.int .i64 a0, .int .i64 a1, .int .i64 a2, .int .i64 a3, .int .i64 a4, .int .i64 a5, .int .i64 a6, .int .i64 a7] 32)).alloc (.cells #[.int .i64 c0, .int .i64 c1, .int .i64 c2, .int .i64 c3, .int .i64 c4, .int .i64 c5, .int .i64 c6, .int .i64 c7] 32)) (hS0.gd hg))
  clear hg
  go_enter Tryd.func7, Tryd.ntmps7
  go_wp2_with (first
    | (go_at_call 13; (with_reducible refine (HW.out).mono ?_); rintro e w1 ⟨rfl, hb0⟩; replace hS0 := hS0.lay ((ownA_good _ _ _).star ((ownA_good _ _ _).star emp_good)) hb0; clear hb0)
    | (go_at_call 21; (with_reducible refine (bnew_ok 9 _ (by omega) (by omega)).mono ?_); rintro e w1 ⟨p, rfl, hb⟩; have hS := At.add ((ownA_good _ _ _).star ((ownA_good _ _ _).star emp_good)) hS0 hb; clear hb hS0; obtain ⟨e1, g1, l1⟩ := hS.drop.own; obtain ⟨e2, g2, l2⟩ := hS.drop.drop.own)
    | (go_at_call 14; first
        | ((with_reducible refine (At.op2G (HA.out _) (ownA_good _ _ _) (ownA_good _ _ _) ((ownA_good _ _ _).star ((ownA_good _ _ _).star emp_good)) HG.out (hS.hold2 ((bookA_good _ _ _).star ((ownA_good _ _ _).star ((ownA_good _ _ _).star emp_good))) _ _ _ _)).mono ?_); rintro e w1 ⟨rfl, hS1⟩; replace hS := hS1; clear hS1; obtain ⟨e1, g1, l1⟩ := hS.own; obtain ⟨e2, g2, l2⟩ := hS.drop.own)
        | ((with_reducible refine (At.op2G (HB.out _) (ownA_good _ _ _) (ownA_good _ _ _) ((ownA_good _ _ _).star ((ownA_good _ _ _).star emp_good)) HG.out hS).mono ?_); rintro e w1 ⟨rfl, hS1⟩; replace hS := hS1; clear hS1; obtain ⟨e1, g1, l1⟩ := hS.own; obtain ⟨e2, g2, l2⟩ := hS.drop.own))
    | (go_at_call 16; (with_reducible refine (lnum _ _).mono ?_); rintro e w1 ⟨rfl, rfl⟩))
  go_ret
  exact ⟨rfl, hS.bel⟩
set_option maxRecDepth 100000 in
set_option maxHeartbeats 8000000 in
theorem rtorn_r2 (a0 a1 a2 a3 a4 a5 a6 a7 c0 c1 c2 c3 c4 c5 c6 c7 tn bo B : Int) (hB : bits .and .i64 bo 1 = B) (hB0 : 0 ≤ B) (hB1 : B ≤ 1) (S U : ByteArray) (T1 T2 : List ByteArray) (o1 o2 : Int)
    (ha : ∀ p : Nat, DoesG Tryd.prog (bookA p 9 []) 14 #[.pointer (some ⟨p, 0, none⟩), .agg #[.int .i64 1, .int .i64 (1 + B), .int .i64 0, .int .i64 a0, .int .i64 a1, .int .i64 a2, .int .i64 a3, .int .i64 a4, .int .i64 a5, .int .i64 a6, .int .i64 a7]] (.returned (.tuple #[.string S, .int .i64 o1, .int .i64 0])) (bookA p 9 T1))
    (hb : ∀ p : Nat, DoesG Tryd.prog (bookA p 9 T1) 14 #[.pointer (some ⟨p, 0, none⟩), .agg #[.int .i64 1, .int .i64 3, .int .i64 0, .int .i64 c0, .int .i64 c1, .int .i64 c2, .int .i64 c3, .int .i64 c4, .int .i64 c5, .int .i64 c6, .int .i64 c7]] (.returned (.tuple #[.string U, .int .i64 o2, .int .i64 900])) (bookA p 9 T2))
    (w : World) (hg : Gd w) : Calls Tryd.prog 7 #[.agg #[.int .i64 a0, .int .i64 a1, .int .i64 a2, .int .i64 a3, .int .i64 a4, .int .i64 a5, .int .i64 a6, .int .i64 a7], .agg #[.int .i64 c0, .int .i64 c1, .int .i64 c2, .int .i64 c3, .int .i64 c4, .int .i64 c5, .int .i64 c6, .int .i64 c7], .int .i64 tn, .int .i64 bo] w fun e w' => e = .returned (.bool true) ∧ Below w.heap.size w w' := by
  have HA := Lib.hid ha
  have HB := Lib.hid hb
  have HG := Lib.hid hg
  clear ha hb
  have hS0 : At w ((ownA (w.heap.size + 1) #[.int .i64 c0, .int .i64 c1, .int .i64 c2, .int .i64 c3, .int .i64 c4, .int .i64 c5, .int .i64 c6, .int .i64 c7] 32).star ((ownA w.heap.size #[.int .i64 a0, .int .i64 a1, .int .i64 a2, .int .i64 a3, .int .i64 a4, .int .i64 a5, .int .i64 a6, .int .i64 a7] 32).star emp)) ((w.alloc (.cells #[.int .i64 a0, .int .i64 a1, .int .i64 a2, .int .i64 a3, .int .i64 a4, .int .i64 a5, .int .i64 a6, .int .i64 a7] 32)).alloc (.cells #[.int .i64 c0, .int .i64 c1, .int .i64 c2, .int .i64 c3, .int .i64 c4, .int .i64 c5, .int .i64 c6, .int .i64 c7] 32)) := (At.none (Below.refl w.heap.size w)).hold2 emp_good _ _ _ _
  have HW := Lib.hid (awake9 ((w.alloc (.cells #[.int .i64 a0, .int .i64 a1, .int .i64 a2, .int .i64 a3, .int .i64 a4, .int .i64 a5, .int .i64 a6, .int .i64 a7] 32)).alloc (.cells #[.int .i64 c0, .int .i64 c1, .int .i64 c2, .int .i64 c3, .int .i64 c4, .int .i64 c5, .int .i64 c6, .int .i64 c7] 32)) (hS0.gd hg))
  clear hg
  go_enter Tryd.func7, Tryd.ntmps7
  go_wp2_with (first
    | (go_at_call 13; (with_reducible refine (HW.out).mono ?_); rintro e w1 ⟨rfl, hb0⟩; replace hS0 := hS0.lay ((ownA_good _ _ _).star ((ownA_good _ _ _).star emp_good)) hb0; clear hb0)
    | (go_at_call 21; (with_reducible refine (bnew_ok 9 _ (by omega) (by omega)).mono ?_); rintro e w1 ⟨p, rfl, hb⟩; have hS := At.add ((ownA_good _ _ _).star ((ownA_good _ _ _).star emp_good)) hS0 hb; clear hb hS0; obtain ⟨e1, g1, l1⟩ := hS.drop.own; obtain ⟨e2, g2, l2⟩ := hS.drop.drop.own)
    | (go_at_call 14; first
        | ((with_reducible refine (At.op2G (HA.out _) (ownA_good _ _ _) (ownA_good _ _ _) ((ownA_good _ _ _).star ((ownA_good _ _ _).star emp_good)) HG.out (hS.hold2 ((bookA_good _ _ _).star ((ownA_good _ _ _).star ((ownA_good _ _ _).star emp_good))) _ _ _ _)).mono ?_); rintro e w1 ⟨rfl, hS1⟩; replace hS := hS1; clear hS1; obtain ⟨e1, g1, l1⟩ := hS.own; obtain ⟨e2, g2, l2⟩ := hS.drop.own)
        | ((with_reducible refine (At.op2G (HB.out _) (ownA_good _ _ _) (ownA_good _ _ _) ((ownA_good _ _ _).star ((ownA_good _ _ _).star emp_good)) HG.out hS).mono ?_); rintro e w1 ⟨rfl, hS1⟩; replace hS := hS1; clear hS1; obtain ⟨e1, g1, l1⟩ := hS.own; obtain ⟨e2, g2, l2⟩ := hS.drop.own))
    | (go_at_call 16; (with_reducible refine (lnum _ _).mono ?_); rintro e w1 ⟨rfl, rfl⟩))
  go_ret
  exact ⟨rfl, hS.bel⟩
set_option maxRecDepth 100000 in
set_option maxHeartbeats 8000000 in
theorem rtorn_tt (a0 a1 a2 a3 a4 a5 a6 a7 c0 c1 c2 c3 c4 c5 c6 c7 tn bo B : Int) (hB : bits .and .i64 bo 1 = B) (hB0 : 0 ≤ B) (hB1 : B ≤ 1) (S U : ByteArray) (T1 T2 : List ByteArray) (o1 o2 : Int)
    (ha : ∀ p : Nat, DoesG Tryd.prog (bookA p 9 []) 14 #[.pointer (some ⟨p, 0, none⟩), .agg #[.int .i64 1, .int .i64 (1 + B), .int .i64 0, .int .i64 a0, .int .i64 a1, .int .i64 a2, .int .i64 a3, .int .i64 a4, .int .i64 a5, .int .i64 a6, .int .i64 a7]] (.returned (.tuple #[.string S, .int .i64 o1, .int .i64 0])) (bookA p 9 T1))
    (hb : ∀ p : Nat, DoesG Tryd.prog (bookA p 9 T1) 14 #[.pointer (some ⟨p, 0, none⟩), .agg #[.int .i64 1, .int .i64 3, .int .i64 0, .int .i64 c0, .int .i64 c1, .int .i64 c2, .int .i64 c3, .int .i64 c4, .int .i64 c5, .int .i64 c6, .int .i64 c7]] (.returned (.tuple #[.string U, .int .i64 o2, .int .i64 0])) (bookA p 9 T2))
    (s64 : S.size = 64) (u64 : U.size = 64) (k : Nat) (hk : k ≤ 63) (htn : bits .and .i64 tn 63 = (k : Int)) (n1 n2 : Int)
    (hc : ∀ p : Nat, DoesG Tryd.prog (bookA p 9 T2) 17 #[.pointer (some ⟨p, 0, none⟩), .string (U.extract 0 k ++ zerN (64 - k)), .int .i64 1, .int .i64 0] (.returned (.tuple #[.agg #[.int .i64 1, .int .i64 3, .int .i64 0, .int .i64 c0, .int .i64 c1, .int .i64 c2, .int .i64 c3, .int .i64 c4, .int .i64 c5, .int .i64 c6, .int .i64 c7], .int .i64 n1, .int .i64 0])) (bookA p 9 T2))
    (hd : ∀ p : Nat, DoesG Tryd.prog (bookA p 9 T2) 17 #[.pointer (some ⟨p, 0, none⟩), .string (U.extract 0 k ++ S.extract k 64), .int .i64 1, .int .i64 0] (.returned (.tuple #[.agg #[.int .i64 1, .int .i64 3, .int .i64 0, .int .i64 c0, .int .i64 c1, .int .i64 c2, .int .i64 c3, .int .i64 c4, .int .i64 c5, .int .i64 c6, .int .i64 c7], .int .i64 n2, .int .i64 0])) (bookA p 9 T2))
    (x1 : ((U.extract 0 k ++ zerN (64 - k)).toList == U.toList) = true) (x2 : ((U.extract 0 k ++ S.extract k 64).toList == U.toList) = true)
    (w : World) (hg : Gd w) : Calls Tryd.prog 7 #[.agg #[.int .i64 a0, .int .i64 a1, .int .i64 a2, .int .i64 a3, .int .i64 a4, .int .i64 a5, .int .i64 a6, .int .i64 a7], .agg #[.int .i64 c0, .int .i64 c1, .int .i64 c2, .int .i64 c3, .int .i64 c4, .int .i64 c5, .int .i64 c6, .int .i64 c7], .int .i64 tn, .int .i64 bo] w fun e w' => e = .returned (.bool true) ∧ Below w.heap.size w w' := by
  have HA := Lib.hid ha
  have HB := Lib.hid hb
  have HG := Lib.hid hg
  clear ha hb
  have HC := Lib.hid hc
  have HD := Lib.hid hd
  clear hc hd
  have hki : (k : Int) ≤ 64 := by omega
  have hk64 : (64 : Int) - (k : Int) = ((64 - k : Nat) : Int) := by omega
  have hwk : IntKind.i64.wrap ((64 - k : Nat) : Int) = ((64 - k : Nat) : Int) := by rw [IntKind.wrap_i64]; omega
  have s64i : (S.size : Int) = 64 := by omega
  have u64i : (U.size : Int) = 64 := by omega
  have zz := zerN_size (64 - k)
  have hmk := zk_made (64 - k) (by omega)
  have hcv := zk_conv (64 - k) (by omega)
  have hcd := zk_conv_drew (64 - k) (by omega)
  generalize hzn : zerN (64 - k) = ZN at *
  generalize hkk : (64 - k : Nat) = kk at *
  have ad1 : ¬ 9223372036854775807 < k + kk := by omega
  have ad2 : ¬ 9223372036854775807 < k + (64 - k) := by omega
  have hkU : (k : Int) ≤ (U.size : Int) := by omega
  have hkS : (k : Int) ≤ (S.size : Int) := by omega
  have hS0 : At w ((ownA (w.heap.size + 1) #[.int .i64 c0, .int .i64 c1, .int .i64 c2, .int .i64 c3, .int .i64 c4, .int .i64 c5, .int .i64 c6, .int .i64 c7] 32).star ((ownA w.heap.size #[.int .i64 a0, .int .i64 a1, .int .i64 a2, .int .i64 a3, .int .i64 a4, .int .i64 a5, .int .i64 a6, .int .i64 a7] 32).star emp)) ((w.alloc (.cells #[.int .i64 a0, .int .i64 a1, .int .i64 a2, .int .i64 a3, .int .i64 a4, .int .i64 a5, .int .i64 a6, .int .i64 a7] 32)).alloc (.cells #[.int .i64 c0, .int .i64 c1, .int .i64 c2, .int .i64 c3, .int .i64 c4, .int .i64 c5, .int .i64 c6, .int .i64 c7] 32)) := (At.none (Below.refl w.heap.size w)).hold2 emp_good _ _ _ _
  have HW := Lib.hid (awake9 ((w.alloc (.cells #[.int .i64 a0, .int .i64 a1, .int .i64 a2, .int .i64 a3, .int .i64 a4, .int .i64 a5, .int .i64 a6, .int .i64 a7] 32)).alloc (.cells #[.int .i64 c0, .int .i64 c1, .int .i64 c2, .int .i64 c3, .int .i64 c4, .int .i64 c5, .int .i64 c6, .int .i64 c7] 32)) (hS0.gd hg))
  clear hg
  go_enter Tryd.func7, Tryd.ntmps7
  go_wp2_with (first
    | (go_at_call 13; (with_reducible refine (HW.out).mono ?_); rintro e w1 ⟨rfl, hb0⟩; replace hS0 := hS0.lay ((ownA_good _ _ _).star ((ownA_good _ _ _).star emp_good)) hb0; clear hb0)
    | (go_at_call 21; (with_reducible refine (bnew_ok 9 _ (by omega) (by omega)).mono ?_); rintro e w1 ⟨p, rfl, hb⟩; have hS := At.add ((ownA_good _ _ _).star ((ownA_good _ _ _).star emp_good)) hS0 hb; clear hb hS0; obtain ⟨e1, g1, l1⟩ := hS.drop.own; obtain ⟨e2, g2, l2⟩ := hS.drop.drop.own)
    | (go_at_call 14; first
        | ((with_reducible refine (At.op2G (HA.out _) (ownA_good _ _ _) (ownA_good _ _ _) ((ownA_good _ _ _).star ((ownA_good _ _ _).star emp_good)) HG.out (hS.hold2 ((bookA_good _ _ _).star ((ownA_good _ _ _).star ((ownA_good _ _ _).star emp_good))) _ _ _ _)).mono ?_); rintro e w1 ⟨rfl, hS1⟩; replace hS := hS1; clear hS1; obtain ⟨e1, g1, l1⟩ := hS.own; obtain ⟨e2, g2, l2⟩ := hS.drop.own)
        | ((with_reducible refine (At.op2G (HB.out _) (ownA_good _ _ _) (ownA_good _ _ _) ((ownA_good _ _ _).star ((ownA_good _ _ _).star emp_good)) HG.out hS).mono ?_); rintro e w1 ⟨rfl, hS1⟩; replace hS := hS1; clear hS1; obtain ⟨e1, g1, l1⟩ := hS.own; obtain ⟨e2, g2, l2⟩ := hS.drop.own))
    | (go_at_call 16; (with_reducible refine (lnum _ _).mono ?_); rintro e w1 ⟨rfl, rfl⟩))
  go_region
  all_goals
    go_wp2
    go_region
    all_goals
      replace hS := hS.lay (w' := (w1.alloc (zkObj kk)).drew.drew) ((ownA_good _ _ _).star ((ownA_good _ _ _).star ((bookA_good _ _ _).star ((ownA_good _ _ _).star ((ownA_good _ _ _).star emp_good))))) (((Below.refl _ _).alloc (Nat.le_refl _) _).trans ⟨rfl, rfl, rfl, Nat.le_refl _, fun _ _ => rfl⟩)
      obtain ⟨e1, g1, l1⟩ := hS.own
      obtain ⟨e2, g2, l2⟩ := hS.drop.own
      go_wp2_with (first
        | (go_at_call 17; first
            | ((with_reducible refine (At.op2G (HC.out _) (ownA_good _ _ _) (ownA_good _ _ _) ((ownA_good _ _ _).star ((ownA_good _ _ _).star emp_good)) HG.out hS).mono ?_); rintro e w1 ⟨rfl, hS1⟩; replace hS := hS1; clear hS1; obtain ⟨e1, g1, l1⟩ := hS.own; obtain ⟨e2, g2, l2⟩ := hS.drop.own)
            | ((with_reducible refine (At.op3G (HD.out _) (ownA_good _ _ _) (ownA_good _ _ _) (ownA_good _ _ _) ((ownA_good _ _ _).star ((ownA_good _ _ _).star emp_good)) HG.out (hS.hold ((ownA_good _ _ _).star ((ownA_good _ _ _).star ((bookA_good _ _ _).star ((ownA_good _ _ _).star ((ownA_good _ _ _).star emp_good))))) _ _)).mono ?_); rintro e w1 ⟨rfl, hS1⟩; replace hS := hS1; clear hS1; obtain ⟨e0, g0, l0⟩ := hS.own; obtain ⟨e1, g1, l1⟩ := hS.drop.own; obtain ⟨e2, g2, l2⟩ := hS.drop.drop.own))
        | (go_at_call 16; (with_reducible refine (lnum _ _).mono ?_); rintro e w1 ⟨rfl, rfl⟩))
      go_ret
      exact ⟨rfl, (At.bel hS).alloc (At.bel hS).size _⟩
set_option maxRecDepth 100000 in
set_option maxHeartbeats 8000000 in
theorem rtorn_ts (a0 a1 a2 a3 a4 a5 a6 a7 c0 c1 c2 c3 c4 c5 c6 c7 tn bo B : Int) (hB : bits .and .i64 bo 1 = B) (hB0 : 0 ≤ B) (hB1 : B ≤ 1) (S U : ByteArray) (T1 T2 : List ByteArray) (o1 o2 : Int)
    (ha : ∀ p : Nat, DoesG Tryd.prog (bookA p 9 []) 14 #[.pointer (some ⟨p, 0, none⟩), .agg #[.int .i64 1, .int .i64 (1 + B), .int .i64 0, .int .i64 a0, .int .i64 a1, .int .i64 a2, .int .i64 a3, .int .i64 a4, .int .i64 a5, .int .i64 a6, .int .i64 a7]] (.returned (.tuple #[.string S, .int .i64 o1, .int .i64 0])) (bookA p 9 T1))
    (hb : ∀ p : Nat, DoesG Tryd.prog (bookA p 9 T1) 14 #[.pointer (some ⟨p, 0, none⟩), .agg #[.int .i64 1, .int .i64 3, .int .i64 0, .int .i64 c0, .int .i64 c1, .int .i64 c2, .int .i64 c3, .int .i64 c4, .int .i64 c5, .int .i64 c6, .int .i64 c7]] (.returned (.tuple #[.string U, .int .i64 o2, .int .i64 0])) (bookA p 9 T2))
    (s64 : S.size = 64) (u64 : U.size = 64) (k : Nat) (hk : k ≤ 63) (htn : bits .and .i64 tn 63 = (k : Int)) (n1 n2 : Int)
    (hc : ∀ p : Nat, DoesG Tryd.prog (bookA p 9 T2) 17 #[.pointer (some ⟨p, 0, none⟩), .string (U.extract 0 k ++ zerN (64 - k)), .int .i64 1, .int .i64 0] (.returned (.tuple #[.agg #[.int .i64 1, .int .i64 3, .int .i64 0, .int .i64 c0, .int .i64 c1, .int .i64 c2, .int .i64 c3, .int .i64 c4, .int .i64 c5, .int .i64 c6, .int .i64 c7], .int .i64 n1, .int .i64 0])) (bookA p 9 T2))
    (hd : ∀ p : Nat, DoesG Tryd.prog (bookA p 9 T2) 17 #[.pointer (some ⟨p, 0, none⟩), .string (U.extract 0 k ++ S.extract k 64), .int .i64 1, .int .i64 0] (.returned (.tuple #[.agg #[.int .i64 1, .int .i64 (1 + B), .int .i64 0, .int .i64 a0, .int .i64 a1, .int .i64 a2, .int .i64 a3, .int .i64 a4, .int .i64 a5, .int .i64 a6, .int .i64 a7], .int .i64 n2, .int .i64 0])) (bookA p 9 T2))
    (x1 : ((U.extract 0 k ++ zerN (64 - k)).toList == U.toList) = true) (x2 : ((U.extract 0 k ++ S.extract k 64).toList == U.toList) = false) (x3 : ((U.extract 0 k ++ S.extract k 64).toList == S.toList) = true)
    (w : World) (hg : Gd w) : Calls Tryd.prog 7 #[.agg #[.int .i64 a0, .int .i64 a1, .int .i64 a2, .int .i64 a3, .int .i64 a4, .int .i64 a5, .int .i64 a6, .int .i64 a7], .agg #[.int .i64 c0, .int .i64 c1, .int .i64 c2, .int .i64 c3, .int .i64 c4, .int .i64 c5, .int .i64 c6, .int .i64 c7], .int .i64 tn, .int .i64 bo] w fun e w' => e = .returned (.bool true) ∧ Below w.heap.size w w' := by
  have HA := Lib.hid ha
  have HB := Lib.hid hb
  have HG := Lib.hid hg
  clear ha hb
  have HC := Lib.hid hc
  have HD := Lib.hid hd
  clear hc hd
  have hki : (k : Int) ≤ 64 := by omega
  have hk64 : (64 : Int) - (k : Int) = ((64 - k : Nat) : Int) := by omega
  have hwk : IntKind.i64.wrap ((64 - k : Nat) : Int) = ((64 - k : Nat) : Int) := by rw [IntKind.wrap_i64]; omega
  have s64i : (S.size : Int) = 64 := by omega
  have u64i : (U.size : Int) = 64 := by omega
  have zz := zerN_size (64 - k)
  have hmk := zk_made (64 - k) (by omega)
  have hcv := zk_conv (64 - k) (by omega)
  have hcd := zk_conv_drew (64 - k) (by omega)
  generalize hzn : zerN (64 - k) = ZN at *
  generalize hkk : (64 - k : Nat) = kk at *
  have ad1 : ¬ 9223372036854775807 < k + kk := by omega
  have ad2 : ¬ 9223372036854775807 < k + (64 - k) := by omega
  have hkU : (k : Int) ≤ (U.size : Int) := by omega
  have hkS : (k : Int) ≤ (S.size : Int) := by omega
  have hS0 : At w ((ownA (w.heap.size + 1) #[.int .i64 c0, .int .i64 c1, .int .i64 c2, .int .i64 c3, .int .i64 c4, .int .i64 c5, .int .i64 c6, .int .i64 c7] 32).star ((ownA w.heap.size #[.int .i64 a0, .int .i64 a1, .int .i64 a2, .int .i64 a3, .int .i64 a4, .int .i64 a5, .int .i64 a6, .int .i64 a7] 32).star emp)) ((w.alloc (.cells #[.int .i64 a0, .int .i64 a1, .int .i64 a2, .int .i64 a3, .int .i64 a4, .int .i64 a5, .int .i64 a6, .int .i64 a7] 32)).alloc (.cells #[.int .i64 c0, .int .i64 c1, .int .i64 c2, .int .i64 c3, .int .i64 c4, .int .i64 c5, .int .i64 c6, .int .i64 c7] 32)) := (At.none (Below.refl w.heap.size w)).hold2 emp_good _ _ _ _
  have HW := Lib.hid (awake9 ((w.alloc (.cells #[.int .i64 a0, .int .i64 a1, .int .i64 a2, .int .i64 a3, .int .i64 a4, .int .i64 a5, .int .i64 a6, .int .i64 a7] 32)).alloc (.cells #[.int .i64 c0, .int .i64 c1, .int .i64 c2, .int .i64 c3, .int .i64 c4, .int .i64 c5, .int .i64 c6, .int .i64 c7] 32)) (hS0.gd hg))
  clear hg
  go_enter Tryd.func7, Tryd.ntmps7
  go_wp2_with (first
    | (go_at_call 13; (with_reducible refine (HW.out).mono ?_); rintro e w1 ⟨rfl, hb0⟩; replace hS0 := hS0.lay ((ownA_good _ _ _).star ((ownA_good _ _ _).star emp_good)) hb0; clear hb0)
    | (go_at_call 21; (with_reducible refine (bnew_ok 9 _ (by omega) (by omega)).mono ?_); rintro e w1 ⟨p, rfl, hb⟩; have hS := At.add ((ownA_good _ _ _).star ((ownA_good _ _ _).star emp_good)) hS0 hb; clear hb hS0; obtain ⟨e1, g1, l1⟩ := hS.drop.own; obtain ⟨e2, g2, l2⟩ := hS.drop.drop.own)
    | (go_at_call 14; first
        | ((with_reducible refine (At.op2G (HA.out _) (ownA_good _ _ _) (ownA_good _ _ _) ((ownA_good _ _ _).star ((ownA_good _ _ _).star emp_good)) HG.out (hS.hold2 ((bookA_good _ _ _).star ((ownA_good _ _ _).star ((ownA_good _ _ _).star emp_good))) _ _ _ _)).mono ?_); rintro e w1 ⟨rfl, hS1⟩; replace hS := hS1; clear hS1; obtain ⟨e1, g1, l1⟩ := hS.own; obtain ⟨e2, g2, l2⟩ := hS.drop.own)
        | ((with_reducible refine (At.op2G (HB.out _) (ownA_good _ _ _) (ownA_good _ _ _) ((ownA_good _ _ _).star ((ownA_good _ _ _).star emp_good)) HG.out hS).mono ?_); rintro e w1 ⟨rfl, hS1⟩; replace hS := hS1; clear hS1; obtain ⟨e1, g1, l1⟩ := hS.own; obtain ⟨e2, g2, l2⟩ := hS.drop.own))
    | (go_at_call 16; (with_reducible refine (lnum _ _).mono ?_); rintro e w1 ⟨rfl, rfl⟩))
  go_region
  all_goals
    go_wp2
    go_region
    all_goals
      replace hS := hS.lay (w' := (w1.alloc (zkObj kk)).drew.drew) ((ownA_good _ _ _).star ((ownA_good _ _ _).star ((bookA_good _ _ _).star ((ownA_good _ _ _).star ((ownA_good _ _ _).star emp_good))))) (((Below.refl _ _).alloc (Nat.le_refl _) _).trans ⟨rfl, rfl, rfl, Nat.le_refl _, fun _ _ => rfl⟩)
      obtain ⟨e1, g1, l1⟩ := hS.own
      obtain ⟨e2, g2, l2⟩ := hS.drop.own
      go_wp2_with (first
        | (go_at_call 17; first
            | ((with_reducible refine (At.op2G (HC.out _) (ownA_good _ _ _) (ownA_good _ _ _) ((ownA_good _ _ _).star ((ownA_good _ _ _).star emp_good)) HG.out hS).mono ?_); rintro e w1 ⟨rfl, hS1⟩; replace hS := hS1; clear hS1; obtain ⟨e1, g1, l1⟩ := hS.own; obtain ⟨e2, g2, l2⟩ := hS.drop.own)
            | ((with_reducible refine (At.op3G (HD.out _) (ownA_good _ _ _) (ownA_good _ _ _) (ownA_good _ _ _) ((ownA_good _ _ _).star ((ownA_good _ _ _).star emp_good)) HG.out (hS.hold ((ownA_good _ _ _).star ((ownA_good _ _ _).star ((bookA_good _ _ _).star ((ownA_good _ _ _).star ((ownA_good _ _ _).star emp_good))))) _ _)).mono ?_); rintro e w1 ⟨rfl, hS1⟩; replace hS := hS1; clear hS1; obtain ⟨e0, g0, l0⟩ := hS.own; obtain ⟨e1, g1, l1⟩ := hS.drop.own; obtain ⟨e2, g2, l2⟩ := hS.drop.drop.own))
        | (go_at_call 16; (with_reducible refine (lnum _ _).mono ?_); rintro e w1 ⟨rfl, rfl⟩))
      go_ret
      exact ⟨rfl, (At.bel hS).alloc (At.bel hS).size _⟩
set_option maxRecDepth 100000 in
set_option maxHeartbeats 8000000 in
theorem rtorn_tn (a0 a1 a2 a3 a4 a5 a6 a7 c0 c1 c2 c3 c4 c5 c6 c7 tn bo B : Int) (hB : bits .and .i64 bo 1 = B) (hB0 : 0 ≤ B) (hB1 : B ≤ 1) (S U : ByteArray) (T1 T2 : List ByteArray) (o1 o2 : Int)
    (ha : ∀ p : Nat, DoesG Tryd.prog (bookA p 9 []) 14 #[.pointer (some ⟨p, 0, none⟩), .agg #[.int .i64 1, .int .i64 (1 + B), .int .i64 0, .int .i64 a0, .int .i64 a1, .int .i64 a2, .int .i64 a3, .int .i64 a4, .int .i64 a5, .int .i64 a6, .int .i64 a7]] (.returned (.tuple #[.string S, .int .i64 o1, .int .i64 0])) (bookA p 9 T1))
    (hb : ∀ p : Nat, DoesG Tryd.prog (bookA p 9 T1) 14 #[.pointer (some ⟨p, 0, none⟩), .agg #[.int .i64 1, .int .i64 3, .int .i64 0, .int .i64 c0, .int .i64 c1, .int .i64 c2, .int .i64 c3, .int .i64 c4, .int .i64 c5, .int .i64 c6, .int .i64 c7]] (.returned (.tuple #[.string U, .int .i64 o2, .int .i64 0])) (bookA p 9 T2))
    (s64 : S.size = 64) (u64 : U.size = 64) (k : Nat) (hk : k ≤ 63) (htn : bits .and .i64 tn 63 = (k : Int)) (n1 n2 : Int)
    (hc : ∀ p : Nat, DoesG Tryd.prog (bookA p 9 T2) 17 #[.pointer (some ⟨p, 0, none⟩), .string (U.extract 0 k ++ zerN (64 - k)), .int .i64 1, .int .i64 0] (.returned (.tuple #[.agg #[.int .i64 1, .int .i64 3, .int .i64 0, .int .i64 c0, .int .i64 c1, .int .i64 c2, .int .i64 c3, .int .i64 c4, .int .i64 c5, .int .i64 c6, .int .i64 c7], .int .i64 n1, .int .i64 0])) (bookA p 9 T2))
    (hd : ∀ p : Nat, DoesG Tryd.prog (bookA p 9 T2) 17 #[.pointer (some ⟨p, 0, none⟩), .string (U.extract 0 k ++ S.extract k 64), .int .i64 1, .int .i64 0] (.returned (.tuple #[.agg #[.int .i64 0, .int .i64 0, .int .i64 0, .int .i64 0, .int .i64 0, .int .i64 0, .int .i64 0, .int .i64 0, .int .i64 0, .int .i64 0, .int .i64 0], .int .i64 n2, .int .i64 900])) (bookA p 9 T2))
    (x1 : ((U.extract 0 k ++ zerN (64 - k)).toList == U.toList) = true) (x2 : ((U.extract 0 k ++ S.extract k 64).toList == U.toList) = false) (x3 : ((U.extract 0 k ++ S.extract k 64).toList == S.toList) = false)
    (w : World) (hg : Gd w) : Calls Tryd.prog 7 #[.agg #[.int .i64 a0, .int .i64 a1, .int .i64 a2, .int .i64 a3, .int .i64 a4, .int .i64 a5, .int .i64 a6, .int .i64 a7], .agg #[.int .i64 c0, .int .i64 c1, .int .i64 c2, .int .i64 c3, .int .i64 c4, .int .i64 c5, .int .i64 c6, .int .i64 c7], .int .i64 tn, .int .i64 bo] w fun e w' => e = .returned (.bool true) ∧ Below w.heap.size w w' := by
  have HA := Lib.hid ha
  have HB := Lib.hid hb
  have HG := Lib.hid hg
  clear ha hb
  have HC := Lib.hid hc
  have HD := Lib.hid hd
  clear hc hd
  have hki : (k : Int) ≤ 64 := by omega
  have hk64 : (64 : Int) - (k : Int) = ((64 - k : Nat) : Int) := by omega
  have hwk : IntKind.i64.wrap ((64 - k : Nat) : Int) = ((64 - k : Nat) : Int) := by rw [IntKind.wrap_i64]; omega
  have s64i : (S.size : Int) = 64 := by omega
  have u64i : (U.size : Int) = 64 := by omega
  have zz := zerN_size (64 - k)
  have hmk := zk_made (64 - k) (by omega)
  have hcv := zk_conv (64 - k) (by omega)
  have hcd := zk_conv_drew (64 - k) (by omega)
  generalize hzn : zerN (64 - k) = ZN at *
  generalize hkk : (64 - k : Nat) = kk at *
  have ad1 : ¬ 9223372036854775807 < k + kk := by omega
  have ad2 : ¬ 9223372036854775807 < k + (64 - k) := by omega
  have hkU : (k : Int) ≤ (U.size : Int) := by omega
  have hkS : (k : Int) ≤ (S.size : Int) := by omega
  have hS0 : At w ((ownA (w.heap.size + 1) #[.int .i64 c0, .int .i64 c1, .int .i64 c2, .int .i64 c3, .int .i64 c4, .int .i64 c5, .int .i64 c6, .int .i64 c7] 32).star ((ownA w.heap.size #[.int .i64 a0, .int .i64 a1, .int .i64 a2, .int .i64 a3, .int .i64 a4, .int .i64 a5, .int .i64 a6, .int .i64 a7] 32).star emp)) ((w.alloc (.cells #[.int .i64 a0, .int .i64 a1, .int .i64 a2, .int .i64 a3, .int .i64 a4, .int .i64 a5, .int .i64 a6, .int .i64 a7] 32)).alloc (.cells #[.int .i64 c0, .int .i64 c1, .int .i64 c2, .int .i64 c3, .int .i64 c4, .int .i64 c5, .int .i64 c6, .int .i64 c7] 32)) := (At.none (Below.refl w.heap.size w)).hold2 emp_good _ _ _ _
  have HW := Lib.hid (awake9 ((w.alloc (.cells #[.int .i64 a0, .int .i64 a1, .int .i64 a2, .int .i64 a3, .int .i64 a4, .int .i64 a5, .int .i64 a6, .int .i64 a7] 32)).alloc (.cells #[.int .i64 c0, .int .i64 c1, .int .i64 c2, .int .i64 c3, .int .i64 c4, .int .i64 c5, .int .i64 c6, .int .i64 c7] 32)) (hS0.gd hg))
  clear hg
  go_enter Tryd.func7, Tryd.ntmps7
  go_wp2_with (first
    | (go_at_call 13; (with_reducible refine (HW.out).mono ?_); rintro e w1 ⟨rfl, hb0⟩; replace hS0 := hS0.lay ((ownA_good _ _ _).star ((ownA_good _ _ _).star emp_good)) hb0; clear hb0)
    | (go_at_call 21; (with_reducible refine (bnew_ok 9 _ (by omega) (by omega)).mono ?_); rintro e w1 ⟨p, rfl, hb⟩; have hS := At.add ((ownA_good _ _ _).star ((ownA_good _ _ _).star emp_good)) hS0 hb; clear hb hS0; obtain ⟨e1, g1, l1⟩ := hS.drop.own; obtain ⟨e2, g2, l2⟩ := hS.drop.drop.own)
    | (go_at_call 14; first
        | ((with_reducible refine (At.op2G (HA.out _) (ownA_good _ _ _) (ownA_good _ _ _) ((ownA_good _ _ _).star ((ownA_good _ _ _).star emp_good)) HG.out (hS.hold2 ((bookA_good _ _ _).star ((ownA_good _ _ _).star ((ownA_good _ _ _).star emp_good))) _ _ _ _)).mono ?_); rintro e w1 ⟨rfl, hS1⟩; replace hS := hS1; clear hS1; obtain ⟨e1, g1, l1⟩ := hS.own; obtain ⟨e2, g2, l2⟩ := hS.drop.own)
        | ((with_reducible refine (At.op2G (HB.out _) (ownA_good _ _ _) (ownA_good _ _ _) ((ownA_good _ _ _).star ((ownA_good _ _ _).star emp_good)) HG.out hS).mono ?_); rintro e w1 ⟨rfl, hS1⟩; replace hS := hS1; clear hS1; obtain ⟨e1, g1, l1⟩ := hS.own; obtain ⟨e2, g2, l2⟩ := hS.drop.own))
    | (go_at_call 16; (with_reducible refine (lnum _ _).mono ?_); rintro e w1 ⟨rfl, rfl⟩))
  go_region
  all_goals
    go_wp2
    go_region
    all_goals
      replace hS := hS.lay (w' := (w1.alloc (zkObj kk)).drew.drew) ((ownA_good _ _ _).star ((ownA_good _ _ _).star ((bookA_good _ _ _).star ((ownA_good _ _ _).star ((ownA_good _ _ _).star emp_good))))) (((Below.refl _ _).alloc (Nat.le_refl _) _).trans ⟨rfl, rfl, rfl, Nat.le_refl _, fun _ _ => rfl⟩)
      obtain ⟨e1, g1, l1⟩ := hS.own
      obtain ⟨e2, g2, l2⟩ := hS.drop.own
      go_wp2_with (first
        | (go_at_call 17; first
            | ((with_reducible refine (At.op2G (HC.out _) (ownA_good _ _ _) (ownA_good _ _ _) ((ownA_good _ _ _).star ((ownA_good _ _ _).star emp_good)) HG.out hS).mono ?_); rintro e w1 ⟨rfl, hS1⟩; replace hS := hS1; clear hS1; obtain ⟨e1, g1, l1⟩ := hS.own; obtain ⟨e2, g2, l2⟩ := hS.drop.own)
            | ((with_reducible refine (At.op3G (HD.out _) (ownA_good _ _ _) (ownA_good _ _ _) (ownA_good _ _ _) ((ownA_good _ _ _).star ((ownA_good _ _ _).star emp_good)) HG.out (hS.hold ((ownA_good _ _ _).star ((ownA_good _ _ _).star ((bookA_good _ _ _).star ((ownA_good _ _ _).star ((ownA_good _ _ _).star emp_good))))) _ _)).mono ?_); rintro e w1 ⟨rfl, hS1⟩; replace hS := hS1; clear hS1; obtain ⟨e0, g0, l0⟩ := hS.own; obtain ⟨e1, g1, l1⟩ := hS.drop.own; obtain ⟨e2, g2, l2⟩ := hS.drop.drop.own))
        | (go_at_call 16; (with_reducible refine (lnum _ _).mono ?_); rintro e w1 ⟨rfl, rfl⟩))
      go_ret
      exact ⟨rfl, (At.bel hS).alloc (At.bel hS).size _⟩
set_option maxRecDepth 100000 in
set_option maxHeartbeats 8000000 in
theorem rtorn_nt (a0 a1 a2 a3 a4 a5 a6 a7 c0 c1 c2 c3 c4 c5 c6 c7 tn bo B : Int) (hB : bits .and .i64 bo 1 = B) (hB0 : 0 ≤ B) (hB1 : B ≤ 1) (S U : ByteArray) (T1 T2 : List ByteArray) (o1 o2 : Int)
    (ha : ∀ p : Nat, DoesG Tryd.prog (bookA p 9 []) 14 #[.pointer (some ⟨p, 0, none⟩), .agg #[.int .i64 1, .int .i64 (1 + B), .int .i64 0, .int .i64 a0, .int .i64 a1, .int .i64 a2, .int .i64 a3, .int .i64 a4, .int .i64 a5, .int .i64 a6, .int .i64 a7]] (.returned (.tuple #[.string S, .int .i64 o1, .int .i64 0])) (bookA p 9 T1))
    (hb : ∀ p : Nat, DoesG Tryd.prog (bookA p 9 T1) 14 #[.pointer (some ⟨p, 0, none⟩), .agg #[.int .i64 1, .int .i64 3, .int .i64 0, .int .i64 c0, .int .i64 c1, .int .i64 c2, .int .i64 c3, .int .i64 c4, .int .i64 c5, .int .i64 c6, .int .i64 c7]] (.returned (.tuple #[.string U, .int .i64 o2, .int .i64 0])) (bookA p 9 T2))
    (s64 : S.size = 64) (u64 : U.size = 64) (k : Nat) (hk : k ≤ 63) (htn : bits .and .i64 tn 63 = (k : Int)) (n1 n2 : Int)
    (hc : ∀ p : Nat, DoesG Tryd.prog (bookA p 9 T2) 17 #[.pointer (some ⟨p, 0, none⟩), .string (U.extract 0 k ++ zerN (64 - k)), .int .i64 1, .int .i64 0] (.returned (.tuple #[.agg #[.int .i64 0, .int .i64 0, .int .i64 0, .int .i64 0, .int .i64 0, .int .i64 0, .int .i64 0, .int .i64 0, .int .i64 0, .int .i64 0, .int .i64 0], .int .i64 n1, .int .i64 900])) (bookA p 9 T2))
    (hd : ∀ p : Nat, DoesG Tryd.prog (bookA p 9 T2) 17 #[.pointer (some ⟨p, 0, none⟩), .string (U.extract 0 k ++ S.extract k 64), .int .i64 1, .int .i64 0] (.returned (.tuple #[.agg #[.int .i64 1, .int .i64 3, .int .i64 0, .int .i64 c0, .int .i64 c1, .int .i64 c2, .int .i64 c3, .int .i64 c4, .int .i64 c5, .int .i64 c6, .int .i64 c7], .int .i64 n2, .int .i64 0])) (bookA p 9 T2))
    (x1 : ((U.extract 0 k ++ zerN (64 - k)).toList == U.toList) = false) (x2 : ((U.extract 0 k ++ S.extract k 64).toList == U.toList) = true)
    (w : World) (hg : Gd w) : Calls Tryd.prog 7 #[.agg #[.int .i64 a0, .int .i64 a1, .int .i64 a2, .int .i64 a3, .int .i64 a4, .int .i64 a5, .int .i64 a6, .int .i64 a7], .agg #[.int .i64 c0, .int .i64 c1, .int .i64 c2, .int .i64 c3, .int .i64 c4, .int .i64 c5, .int .i64 c6, .int .i64 c7], .int .i64 tn, .int .i64 bo] w fun e w' => e = .returned (.bool true) ∧ Below w.heap.size w w' := by
  have HA := Lib.hid ha
  have HB := Lib.hid hb
  have HG := Lib.hid hg
  clear ha hb
  have HC := Lib.hid hc
  have HD := Lib.hid hd
  clear hc hd
  have hki : (k : Int) ≤ 64 := by omega
  have hk64 : (64 : Int) - (k : Int) = ((64 - k : Nat) : Int) := by omega
  have hwk : IntKind.i64.wrap ((64 - k : Nat) : Int) = ((64 - k : Nat) : Int) := by rw [IntKind.wrap_i64]; omega
  have s64i : (S.size : Int) = 64 := by omega
  have u64i : (U.size : Int) = 64 := by omega
  have zz := zerN_size (64 - k)
  have hmk := zk_made (64 - k) (by omega)
  have hcv := zk_conv (64 - k) (by omega)
  have hcd := zk_conv_drew (64 - k) (by omega)
  generalize hzn : zerN (64 - k) = ZN at *
  generalize hkk : (64 - k : Nat) = kk at *
  have ad1 : ¬ 9223372036854775807 < k + kk := by omega
  have ad2 : ¬ 9223372036854775807 < k + (64 - k) := by omega
  have hkU : (k : Int) ≤ (U.size : Int) := by omega
  have hkS : (k : Int) ≤ (S.size : Int) := by omega
  have hS0 : At w ((ownA (w.heap.size + 1) #[.int .i64 c0, .int .i64 c1, .int .i64 c2, .int .i64 c3, .int .i64 c4, .int .i64 c5, .int .i64 c6, .int .i64 c7] 32).star ((ownA w.heap.size #[.int .i64 a0, .int .i64 a1, .int .i64 a2, .int .i64 a3, .int .i64 a4, .int .i64 a5, .int .i64 a6, .int .i64 a7] 32).star emp)) ((w.alloc (.cells #[.int .i64 a0, .int .i64 a1, .int .i64 a2, .int .i64 a3, .int .i64 a4, .int .i64 a5, .int .i64 a6, .int .i64 a7] 32)).alloc (.cells #[.int .i64 c0, .int .i64 c1, .int .i64 c2, .int .i64 c3, .int .i64 c4, .int .i64 c5, .int .i64 c6, .int .i64 c7] 32)) := (At.none (Below.refl w.heap.size w)).hold2 emp_good _ _ _ _
  have HW := Lib.hid (awake9 ((w.alloc (.cells #[.int .i64 a0, .int .i64 a1, .int .i64 a2, .int .i64 a3, .int .i64 a4, .int .i64 a5, .int .i64 a6, .int .i64 a7] 32)).alloc (.cells #[.int .i64 c0, .int .i64 c1, .int .i64 c2, .int .i64 c3, .int .i64 c4, .int .i64 c5, .int .i64 c6, .int .i64 c7] 32)) (hS0.gd hg))
  clear hg
  go_enter Tryd.func7, Tryd.ntmps7
  go_wp2_with (first
    | (go_at_call 13; (with_reducible refine (HW.out).mono ?_); rintro e w1 ⟨rfl, hb0⟩; replace hS0 := hS0.lay ((ownA_good _ _ _).star ((ownA_good _ _ _).star emp_good)) hb0; clear hb0)
    | (go_at_call 21; (with_reducible refine (bnew_ok 9 _ (by omega) (by omega)).mono ?_); rintro e w1 ⟨p, rfl, hb⟩; have hS := At.add ((ownA_good _ _ _).star ((ownA_good _ _ _).star emp_good)) hS0 hb; clear hb hS0; obtain ⟨e1, g1, l1⟩ := hS.drop.own; obtain ⟨e2, g2, l2⟩ := hS.drop.drop.own)
    | (go_at_call 14; first
        | ((with_reducible refine (At.op2G (HA.out _) (ownA_good _ _ _) (ownA_good _ _ _) ((ownA_good _ _ _).star ((ownA_good _ _ _).star emp_good)) HG.out (hS.hold2 ((bookA_good _ _ _).star ((ownA_good _ _ _).star ((ownA_good _ _ _).star emp_good))) _ _ _ _)).mono ?_); rintro e w1 ⟨rfl, hS1⟩; replace hS := hS1; clear hS1; obtain ⟨e1, g1, l1⟩ := hS.own; obtain ⟨e2, g2, l2⟩ := hS.drop.own)
        | ((with_reducible refine (At.op2G (HB.out _) (ownA_good _ _ _) (ownA_good _ _ _) ((ownA_good _ _ _).star ((ownA_good _ _ _).star emp_good)) HG.out hS).mono ?_); rintro e w1 ⟨rfl, hS1⟩; replace hS := hS1; clear hS1; obtain ⟨e1, g1, l1⟩ := hS.own; obtain ⟨e2, g2, l2⟩ := hS.drop.own))
    | (go_at_call 16; (with_reducible refine (lnum _ _).mono ?_); rintro e w1 ⟨rfl, rfl⟩))
  go_region
  all_goals
    go_wp2
    go_region
    all_goals
      replace hS := hS.lay (w' := (w1.alloc (zkObj kk)).drew.drew) ((ownA_good _ _ _).star ((ownA_good _ _ _).star ((bookA_good _ _ _).star ((ownA_good _ _ _).star ((ownA_good _ _ _).star emp_good))))) (((Below.refl _ _).alloc (Nat.le_refl _) _).trans ⟨rfl, rfl, rfl, Nat.le_refl _, fun _ _ => rfl⟩)
      obtain ⟨e1, g1, l1⟩ := hS.own
      obtain ⟨e2, g2, l2⟩ := hS.drop.own
      go_wp2_with (first
        | (go_at_call 17; first
            | ((with_reducible refine (At.op2G (HC.out _) (ownA_good _ _ _) (ownA_good _ _ _) ((ownA_good _ _ _).star ((ownA_good _ _ _).star emp_good)) HG.out hS).mono ?_); rintro e w1 ⟨rfl, hS1⟩; replace hS := hS1; clear hS1; obtain ⟨e1, g1, l1⟩ := hS.own; obtain ⟨e2, g2, l2⟩ := hS.drop.own)
            | ((with_reducible refine (At.op3G (HD.out _) (ownA_good _ _ _) (ownA_good _ _ _) (ownA_good _ _ _) ((ownA_good _ _ _).star ((ownA_good _ _ _).star emp_good)) HG.out (hS.hold ((ownA_good _ _ _).star ((ownA_good _ _ _).star ((bookA_good _ _ _).star ((ownA_good _ _ _).star ((ownA_good _ _ _).star emp_good))))) _ _)).mono ?_); rintro e w1 ⟨rfl, hS1⟩; replace hS := hS1; clear hS1; obtain ⟨e0, g0, l0⟩ := hS.own; obtain ⟨e1, g1, l1⟩ := hS.drop.own; obtain ⟨e2, g2, l2⟩ := hS.drop.drop.own))
        | (go_at_call 16; (with_reducible refine (lnum _ _).mono ?_); rintro e w1 ⟨rfl, rfl⟩))
      go_ret
      exact ⟨rfl, (At.bel hS).alloc (At.bel hS).size _⟩
set_option maxRecDepth 100000 in
set_option maxHeartbeats 8000000 in
theorem rtorn_ns (a0 a1 a2 a3 a4 a5 a6 a7 c0 c1 c2 c3 c4 c5 c6 c7 tn bo B : Int) (hB : bits .and .i64 bo 1 = B) (hB0 : 0 ≤ B) (hB1 : B ≤ 1) (S U : ByteArray) (T1 T2 : List ByteArray) (o1 o2 : Int)
    (ha : ∀ p : Nat, DoesG Tryd.prog (bookA p 9 []) 14 #[.pointer (some ⟨p, 0, none⟩), .agg #[.int .i64 1, .int .i64 (1 + B), .int .i64 0, .int .i64 a0, .int .i64 a1, .int .i64 a2, .int .i64 a3, .int .i64 a4, .int .i64 a5, .int .i64 a6, .int .i64 a7]] (.returned (.tuple #[.string S, .int .i64 o1, .int .i64 0])) (bookA p 9 T1))
    (hb : ∀ p : Nat, DoesG Tryd.prog (bookA p 9 T1) 14 #[.pointer (some ⟨p, 0, none⟩), .agg #[.int .i64 1, .int .i64 3, .int .i64 0, .int .i64 c0, .int .i64 c1, .int .i64 c2, .int .i64 c3, .int .i64 c4, .int .i64 c5, .int .i64 c6, .int .i64 c7]] (.returned (.tuple #[.string U, .int .i64 o2, .int .i64 0])) (bookA p 9 T2))
    (s64 : S.size = 64) (u64 : U.size = 64) (k : Nat) (hk : k ≤ 63) (htn : bits .and .i64 tn 63 = (k : Int)) (n1 n2 : Int)
    (hc : ∀ p : Nat, DoesG Tryd.prog (bookA p 9 T2) 17 #[.pointer (some ⟨p, 0, none⟩), .string (U.extract 0 k ++ zerN (64 - k)), .int .i64 1, .int .i64 0] (.returned (.tuple #[.agg #[.int .i64 0, .int .i64 0, .int .i64 0, .int .i64 0, .int .i64 0, .int .i64 0, .int .i64 0, .int .i64 0, .int .i64 0, .int .i64 0, .int .i64 0], .int .i64 n1, .int .i64 900])) (bookA p 9 T2))
    (hd : ∀ p : Nat, DoesG Tryd.prog (bookA p 9 T2) 17 #[.pointer (some ⟨p, 0, none⟩), .string (U.extract 0 k ++ S.extract k 64), .int .i64 1, .int .i64 0] (.returned (.tuple #[.agg #[.int .i64 1, .int .i64 (1 + B), .int .i64 0, .int .i64 a0, .int .i64 a1, .int .i64 a2, .int .i64 a3, .int .i64 a4, .int .i64 a5, .int .i64 a6, .int .i64 a7], .int .i64 n2, .int .i64 0])) (bookA p 9 T2))
    (x1 : ((U.extract 0 k ++ zerN (64 - k)).toList == U.toList) = false) (x2 : ((U.extract 0 k ++ S.extract k 64).toList == U.toList) = false) (x3 : ((U.extract 0 k ++ S.extract k 64).toList == S.toList) = true)
    (w : World) (hg : Gd w) : Calls Tryd.prog 7 #[.agg #[.int .i64 a0, .int .i64 a1, .int .i64 a2, .int .i64 a3, .int .i64 a4, .int .i64 a5, .int .i64 a6, .int .i64 a7], .agg #[.int .i64 c0, .int .i64 c1, .int .i64 c2, .int .i64 c3, .int .i64 c4, .int .i64 c5, .int .i64 c6, .int .i64 c7], .int .i64 tn, .int .i64 bo] w fun e w' => e = .returned (.bool true) ∧ Below w.heap.size w w' := by
  have HA := Lib.hid ha
  have HB := Lib.hid hb
  have HG := Lib.hid hg
  clear ha hb
  have HC := Lib.hid hc
  have HD := Lib.hid hd
  clear hc hd
  have hki : (k : Int) ≤ 64 := by omega
  have hk64 : (64 : Int) - (k : Int) = ((64 - k : Nat) : Int) := by omega
  have hwk : IntKind.i64.wrap ((64 - k : Nat) : Int) = ((64 - k : Nat) : Int) := by rw [IntKind.wrap_i64]; omega
  have s64i : (S.size : Int) = 64 := by omega
  have u64i : (U.size : Int) = 64 := by omega
  have zz := zerN_size (64 - k)
  have hmk := zk_made (64 - k) (by omega)
  have hcv := zk_conv (64 - k) (by omega)
  have hcd := zk_conv_drew (64 - k) (by omega)
  generalize hzn : zerN (64 - k) = ZN at *
  generalize hkk : (64 - k : Nat) = kk at *
  have ad1 : ¬ 9223372036854775807 < k + kk := by omega
  have ad2 : ¬ 9223372036854775807 < k + (64 - k) := by omega
  have hkU : (k : Int) ≤ (U.size : Int) := by omega
  have hkS : (k : Int) ≤ (S.size : Int) := by omega
  have hS0 : At w ((ownA (w.heap.size + 1) #[.int .i64 c0, .int .i64 c1, .int .i64 c2, .int .i64 c3, .int .i64 c4, .int .i64 c5, .int .i64 c6, .int .i64 c7] 32).star ((ownA w.heap.size #[.int .i64 a0, .int .i64 a1, .int .i64 a2, .int .i64 a3, .int .i64 a4, .int .i64 a5, .int .i64 a6, .int .i64 a7] 32).star emp)) ((w.alloc (.cells #[.int .i64 a0, .int .i64 a1, .int .i64 a2, .int .i64 a3, .int .i64 a4, .int .i64 a5, .int .i64 a6, .int .i64 a7] 32)).alloc (.cells #[.int .i64 c0, .int .i64 c1, .int .i64 c2, .int .i64 c3, .int .i64 c4, .int .i64 c5, .int .i64 c6, .int .i64 c7] 32)) := (At.none (Below.refl w.heap.size w)).hold2 emp_good _ _ _ _
  have HW := Lib.hid (awake9 ((w.alloc (.cells #[.int .i64 a0, .int .i64 a1, .int .i64 a2, .int .i64 a3, .int .i64 a4, .int .i64 a5, .int .i64 a6, .int .i64 a7] 32)).alloc (.cells #[.int .i64 c0, .int .i64 c1, .int .i64 c2, .int .i64 c3, .int .i64 c4, .int .i64 c5, .int .i64 c6, .int .i64 c7] 32)) (hS0.gd hg))
  clear hg
  go_enter Tryd.func7, Tryd.ntmps7
  go_wp2_with (first
    | (go_at_call 13; (with_reducible refine (HW.out).mono ?_); rintro e w1 ⟨rfl, hb0⟩; replace hS0 := hS0.lay ((ownA_good _ _ _).star ((ownA_good _ _ _).star emp_good)) hb0; clear hb0)
    | (go_at_call 21; (with_reducible refine (bnew_ok 9 _ (by omega) (by omega)).mono ?_); rintro e w1 ⟨p, rfl, hb⟩; have hS := At.add ((ownA_good _ _ _).star ((ownA_good _ _ _).star emp_good)) hS0 hb; clear hb hS0; obtain ⟨e1, g1, l1⟩ := hS.drop.own; obtain ⟨e2, g2, l2⟩ := hS.drop.drop.own)
    | (go_at_call 14; first
        | ((with_reducible refine (At.op2G (HA.out _) (ownA_good _ _ _) (ownA_good _ _ _) ((ownA_good _ _ _).star ((ownA_good _ _ _).star emp_good)) HG.out (hS.hold2 ((bookA_good _ _ _).star ((ownA_good _ _ _).star ((ownA_good _ _ _).star emp_good))) _ _ _ _)).mono ?_); rintro e w1 ⟨rfl, hS1⟩; replace hS := hS1; clear hS1; obtain ⟨e1, g1, l1⟩ := hS.own; obtain ⟨e2, g2, l2⟩ := hS.drop.own)
        | ((with_reducible refine (At.op2G (HB.out _) (ownA_good _ _ _) (ownA_good _ _ _) ((ownA_good _ _ _).star ((ownA_good _ _ _).star emp_good)) HG.out hS).mono ?_); rintro e w1 ⟨rfl, hS1⟩; replace hS := hS1; clear hS1; obtain ⟨e1, g1, l1⟩ := hS.own; obtain ⟨e2, g2, l2⟩ := hS.drop.own))
    | (go_at_call 16; (with_reducible refine (lnum _ _).mono ?_); rintro e w1 ⟨rfl, rfl⟩))
  go_region
  all_goals
    go_wp2
    go_region
    all_goals
      replace hS := hS.lay (w' := (w1.alloc (zkObj kk)).drew.drew) ((ownA_good _ _ _).star ((ownA_good _ _ _).star ((bookA_good _ _ _).star ((ownA_good _ _ _).star ((ownA_good _ _ _).star emp_good))))) (((Below.refl _ _).alloc (Nat.le_refl _) _).trans ⟨rfl, rfl, rfl, Nat.le_refl _, fun _ _ => rfl⟩)
      obtain ⟨e1, g1, l1⟩ := hS.own
      obtain ⟨e2, g2, l2⟩ := hS.drop.own
      go_wp2_with (first
        | (go_at_call 17; first
            | ((with_reducible refine (At.op2G (HC.out _) (ownA_good _ _ _) (ownA_good _ _ _) ((ownA_good _ _ _).star ((ownA_good _ _ _).star emp_good)) HG.out hS).mono ?_); rintro e w1 ⟨rfl, hS1⟩; replace hS := hS1; clear hS1; obtain ⟨e1, g1, l1⟩ := hS.own; obtain ⟨e2, g2, l2⟩ := hS.drop.own)
            | ((with_reducible refine (At.op3G (HD.out _) (ownA_good _ _ _) (ownA_good _ _ _) (ownA_good _ _ _) ((ownA_good _ _ _).star ((ownA_good _ _ _).star emp_good)) HG.out (hS.hold ((ownA_good _ _ _).star ((ownA_good _ _ _).star ((bookA_good _ _ _).star ((ownA_good _ _ _).star ((ownA_good _ _ _).star emp_good))))) _ _)).mono ?_); rintro e w1 ⟨rfl, hS1⟩; replace hS := hS1; clear hS1; obtain ⟨e0, g0, l0⟩ := hS.own; obtain ⟨e1, g1, l1⟩ := hS.drop.own; obtain ⟨e2, g2, l2⟩ := hS.drop.drop.own))
        | (go_at_call 16; (with_reducible refine (lnum _ _).mono ?_); rintro e w1 ⟨rfl, rfl⟩))
      go_ret
      exact ⟨rfl, (At.bel hS).alloc (At.bel hS).size _⟩
set_option maxRecDepth 100000 in
set_option maxHeartbeats 8000000 in
theorem rtorn_nn (a0 a1 a2 a3 a4 a5 a6 a7 c0 c1 c2 c3 c4 c5 c6 c7 tn bo B : Int) (hB : bits .and .i64 bo 1 = B) (hB0 : 0 ≤ B) (hB1 : B ≤ 1) (S U : ByteArray) (T1 T2 : List ByteArray) (o1 o2 : Int)
    (ha : ∀ p : Nat, DoesG Tryd.prog (bookA p 9 []) 14 #[.pointer (some ⟨p, 0, none⟩), .agg #[.int .i64 1, .int .i64 (1 + B), .int .i64 0, .int .i64 a0, .int .i64 a1, .int .i64 a2, .int .i64 a3, .int .i64 a4, .int .i64 a5, .int .i64 a6, .int .i64 a7]] (.returned (.tuple #[.string S, .int .i64 o1, .int .i64 0])) (bookA p 9 T1))
    (hb : ∀ p : Nat, DoesG Tryd.prog (bookA p 9 T1) 14 #[.pointer (some ⟨p, 0, none⟩), .agg #[.int .i64 1, .int .i64 3, .int .i64 0, .int .i64 c0, .int .i64 c1, .int .i64 c2, .int .i64 c3, .int .i64 c4, .int .i64 c5, .int .i64 c6, .int .i64 c7]] (.returned (.tuple #[.string U, .int .i64 o2, .int .i64 0])) (bookA p 9 T2))
    (s64 : S.size = 64) (u64 : U.size = 64) (k : Nat) (hk : k ≤ 63) (htn : bits .and .i64 tn 63 = (k : Int)) (n1 n2 : Int)
    (hc : ∀ p : Nat, DoesG Tryd.prog (bookA p 9 T2) 17 #[.pointer (some ⟨p, 0, none⟩), .string (U.extract 0 k ++ zerN (64 - k)), .int .i64 1, .int .i64 0] (.returned (.tuple #[.agg #[.int .i64 0, .int .i64 0, .int .i64 0, .int .i64 0, .int .i64 0, .int .i64 0, .int .i64 0, .int .i64 0, .int .i64 0, .int .i64 0, .int .i64 0], .int .i64 n1, .int .i64 900])) (bookA p 9 T2))
    (hd : ∀ p : Nat, DoesG Tryd.prog (bookA p 9 T2) 17 #[.pointer (some ⟨p, 0, none⟩), .string (U.extract 0 k ++ S.extract k 64), .int .i64 1, .int .i64 0] (.returned (.tuple #[.agg #[.int .i64 0, .int .i64 0, .int .i64 0, .int .i64 0, .int .i64 0, .int .i64 0, .int .i64 0, .int .i64 0, .int .i64 0, .int .i64 0, .int .i64 0], .int .i64 n2, .int .i64 900])) (bookA p 9 T2))
    (x1 : ((U.extract 0 k ++ zerN (64 - k)).toList == U.toList) = false) (x2 : ((U.extract 0 k ++ S.extract k 64).toList == U.toList) = false) (x3 : ((U.extract 0 k ++ S.extract k 64).toList == S.toList) = false)
    (w : World) (hg : Gd w) : Calls Tryd.prog 7 #[.agg #[.int .i64 a0, .int .i64 a1, .int .i64 a2, .int .i64 a3, .int .i64 a4, .int .i64 a5, .int .i64 a6, .int .i64 a7], .agg #[.int .i64 c0, .int .i64 c1, .int .i64 c2, .int .i64 c3, .int .i64 c4, .int .i64 c5, .int .i64 c6, .int .i64 c7], .int .i64 tn, .int .i64 bo] w fun e w' => e = .returned (.bool true) ∧ Below w.heap.size w w' := by
  have HA := Lib.hid ha
  have HB := Lib.hid hb
  have HG := Lib.hid hg
  clear ha hb
  have HC := Lib.hid hc
  have HD := Lib.hid hd
  clear hc hd
  have hki : (k : Int) ≤ 64 := by omega
  have hk64 : (64 : Int) - (k : Int) = ((64 - k : Nat) : Int) := by omega
  have hwk : IntKind.i64.wrap ((64 - k : Nat) : Int) = ((64 - k : Nat) : Int) := by rw [IntKind.wrap_i64]; omega
  have s64i : (S.size : Int) = 64 := by omega
  have u64i : (U.size : Int) = 64 := by omega
  have zz := zerN_size (64 - k)
  have hmk := zk_made (64 - k) (by omega)
  have hcv := zk_conv (64 - k) (by omega)
  have hcd := zk_conv_drew (64 - k) (by omega)
  generalize hzn : zerN (64 - k) = ZN at *
  generalize hkk : (64 - k : Nat) = kk at *
  have ad1 : ¬ 9223372036854775807 < k + kk := by omega
  have ad2 : ¬ 9223372036854775807 < k + (64 - k) := by omega
  have hkU : (k : Int) ≤ (U.size : Int) := by omega
  have hkS : (k : Int) ≤ (S.size : Int) := by omega
  have hS0 : At w ((ownA (w.heap.size + 1) #[.int .i64 c0, .int .i64 c1, .int .i64 c2, .int .i64 c3, .int .i64 c4, .int .i64 c5, .int .i64 c6, .int .i64 c7] 32).star ((ownA w.heap.size #[.int .i64 a0, .int .i64 a1, .int .i64 a2, .int .i64 a3, .int .i64 a4, .int .i64 a5, .int .i64 a6, .int .i64 a7] 32).star emp)) ((w.alloc (.cells #[.int .i64 a0, .int .i64 a1, .int .i64 a2, .int .i64 a3, .int .i64 a4, .int .i64 a5, .int .i64 a6, .int .i64 a7] 32)).alloc (.cells #[.int .i64 c0, .int .i64 c1, .int .i64 c2, .int .i64 c3, .int .i64 c4, .int .i64 c5, .int .i64 c6, .int .i64 c7] 32)) := (At.none (Below.refl w.heap.size w)).hold2 emp_good _ _ _ _
  have HW := Lib.hid (awake9 ((w.alloc (.cells #[.int .i64 a0, .int .i64 a1, .int .i64 a2, .int .i64 a3, .int .i64 a4, .int .i64 a5, .int .i64 a6, .int .i64 a7] 32)).alloc (.cells #[.int .i64 c0, .int .i64 c1, .int .i64 c2, .int .i64 c3, .int .i64 c4, .int .i64 c5, .int .i64 c6, .int .i64 c7] 32)) (hS0.gd hg))
  clear hg
  go_enter Tryd.func7, Tryd.ntmps7
  go_wp2_with (first
    | (go_at_call 13; (with_reducible refine (HW.out).mono ?_); rintro e w1 ⟨rfl, hb0⟩; replace hS0 := hS0.lay ((ownA_good _ _ _).star ((ownA_good _ _ _).star emp_good)) hb0; clear hb0)
    | (go_at_call 21; (with_reducible refine (bnew_ok 9 _ (by omega) (by omega)).mono ?_); rintro e w1 ⟨p, rfl, hb⟩; have hS := At.add ((ownA_good _ _ _).star ((ownA_good _ _ _).star emp_good)) hS0 hb; clear hb hS0; obtain ⟨e1, g1, l1⟩ := hS.drop.own; obtain ⟨e2, g2, l2⟩ := hS.drop.drop.own)
    | (go_at_call 14; first
        | ((with_reducible refine (At.op2G (HA.out _) (ownA_good _ _ _) (ownA_good _ _ _) ((ownA_good _ _ _).star ((ownA_good _ _ _).star emp_good)) HG.out (hS.hold2 ((bookA_good _ _ _).star ((ownA_good _ _ _).star ((ownA_good _ _ _).star emp_good))) _ _ _ _)).mono ?_); rintro e w1 ⟨rfl, hS1⟩; replace hS := hS1; clear hS1; obtain ⟨e1, g1, l1⟩ := hS.own; obtain ⟨e2, g2, l2⟩ := hS.drop.own)
        | ((with_reducible refine (At.op2G (HB.out _) (ownA_good _ _ _) (ownA_good _ _ _) ((ownA_good _ _ _).star ((ownA_good _ _ _).star emp_good)) HG.out hS).mono ?_); rintro e w1 ⟨rfl, hS1⟩; replace hS := hS1; clear hS1; obtain ⟨e1, g1, l1⟩ := hS.own; obtain ⟨e2, g2, l2⟩ := hS.drop.own))
    | (go_at_call 16; (with_reducible refine (lnum _ _).mono ?_); rintro e w1 ⟨rfl, rfl⟩))
  go_region
  all_goals
    go_wp2
    go_region
    all_goals
      replace hS := hS.lay (w' := (w1.alloc (zkObj kk)).drew.drew) ((ownA_good _ _ _).star ((ownA_good _ _ _).star ((bookA_good _ _ _).star ((ownA_good _ _ _).star ((ownA_good _ _ _).star emp_good))))) (((Below.refl _ _).alloc (Nat.le_refl _) _).trans ⟨rfl, rfl, rfl, Nat.le_refl _, fun _ _ => rfl⟩)
      obtain ⟨e1, g1, l1⟩ := hS.own
      obtain ⟨e2, g2, l2⟩ := hS.drop.own
      go_wp2_with (first
        | (go_at_call 17; first
            | ((with_reducible refine (At.op2G (HC.out _) (ownA_good _ _ _) (ownA_good _ _ _) ((ownA_good _ _ _).star ((ownA_good _ _ _).star emp_good)) HG.out hS).mono ?_); rintro e w1 ⟨rfl, hS1⟩; replace hS := hS1; clear hS1; obtain ⟨e1, g1, l1⟩ := hS.own; obtain ⟨e2, g2, l2⟩ := hS.drop.own)
            | ((with_reducible refine (At.op3G (HD.out _) (ownA_good _ _ _) (ownA_good _ _ _) (ownA_good _ _ _) ((ownA_good _ _ _).star ((ownA_good _ _ _).star emp_good)) HG.out (hS.hold ((ownA_good _ _ _).star ((ownA_good _ _ _).star ((bookA_good _ _ _).star ((ownA_good _ _ _).star ((ownA_good _ _ _).star emp_good))))) _ _)).mono ?_); rintro e w1 ⟨rfl, hS1⟩; replace hS := hS1; clear hS1; obtain ⟨e0, g0, l0⟩ := hS.own; obtain ⟨e1, g1, l1⟩ := hS.drop.own; obtain ⟨e2, g2, l2⟩ := hS.drop.drop.own))
        | (go_at_call 16; (with_reducible refine (lnum _ _).mono ?_); rintro e w1 ⟨rfl, rfl⟩))
      go_ret
      exact ⟨rfl, (At.bel hS).alloc (At.bel hS).size _⟩
end Go.Proofs.YtiebpjkppjollaaDoor

namespace Go.Proofs.YtiebpjkppjollaaDoor
open Go Go.RowKit

theorem ba_ne' {s t : ByteArray} (h : s ≠ t) : (s.toList == t.toList) = false := by
  cases c : (s.toList == t.toList)
  · rfl
  · exfalso
    refine h ?_
    have h1 : s.toList = t.toList := by simpa using c
    obtain ⟨⟨a⟩⟩ := s
    obtain ⟨⟨b⟩⟩ := t
    rw [ByteArray.toList_mk, ByteArray.toList_mk] at h1
    exact congrArg (fun l => (⟨⟨l⟩⟩ : ByteArray)) h1
theorem ba_eq' {s t : ByteArray} (h : s = t) : (s.toList == t.toList) = true := by subst h; simp
/-- What two records of a book find there. -/
structure Two9 (ts : List ByteArray) (x y : Rc) (ox oy : Int) : Prop where
  mx : x.may = true
  my : y.may = true
  kx : okNum ox = true
  ky : okNum oy = true
  cx : ckI ts true x.tm ox = true
  cy : ckI ts true y.tm oy = true
  all : ∀ t ∈ ts, t = x.tm ∨ t = y.tm
theorem two9_of {x y : Rc} (hx : rcE 9 [] x = 0) (hy : rcE 9 (rcT 9 [] x) y = 0) : Two9 (rcT 9 (rcT 9 [] x) y) x y (rcN 9 [] x) (rcN 9 (rcT 9 [] x) y) := by
  obtain ⟨h1, h2, h3, _⟩ := put_in hx
  obtain ⟨g1, g2, g3, _⟩ := put_in hy
  obtain ⟨k1, k2⟩ := rcT_keep (most := 9) y h2
  have l1 := rcT_len (most := 9) (ts := []) x
  have l2 := rcT_len (most := 9) (ts := rcT 9 [] x) y
  simp only [List.length_nil] at l1
  rw [← k2] at h3
  refine ⟨h1, g1, by rw [h3]; exact idx_ok k1 (by omega), by rw [g3]; exact idx_ok g2 (by omega), by rw [h3]; exact ckI_of k1, by rw [g3]; exact ckI_of g2, fun t ht => ?_⟩
  rcases rcT_mem ht with h | h
  · rcases rcT_mem h with h | h
    · cases h
    · exact .inl h
  · exact .inr h
theorem Two9.found {ts : List ByteArray} {x y : Rc} {ox oy : Int} (h : Two9 ts x y ox oy) (hs : x.seq = 1 ∧ x.prev = 0) (gs : y.seq = 1 ∧ y.prev = 0) (u : ByteArray) :
    (u = y.sec oy → rgR ts u 1 0 = y ∧ rgN ts u 1 0 = oy ∧ rgE ts u 1 0 = 0) ∧ (u = x.sec ox → rgR ts u 1 0 = x ∧ rgN ts u 1 0 = ox ∧ rgE ts u 1 0 = 0) ∧
    (u ≠ y.sec oy → u ≠ x.sec ox → rgR ts u 1 0 = Rc.zero ∧ rgN ts u 1 0 = 0 ∧ rgE ts u 1 0 = 900) := by
  refine ⟨fun e => ?_, fun e => ?_, fun n1 n2 => ?_⟩
  · subst e; exact (find_of h.my h.ky h.cy 1 0).2.1 gs
  · subst e; exact (find_of h.mx h.kx h.cx 1 0).2.1 hs
  · refine find_no ?_ 1 0
    cases hf : rcFind ts u with
    | none => rfl
    | some z =>
      obtain ⟨r, own⟩ := z
      obtain ⟨a, _, c, d⟩ := (rcFind_iff ts u r own).1 hf
      obtain ⟨hm, ho⟩ := ckI_in d
      rcases h.all _ hm with e | e
      · have hr := Rc.tm_inj a h.mx e
        subst hr
        obtain ⟨_, ho2⟩ := ckI_in h.cx
        exact absurd (by rw [c, ho, ← ho2]) n2
      · have hr := Rc.tm_inj a h.my e
        subst hr
        obtain ⟨_, ho2⟩ := ckI_in h.cy
        exact absurd (by rw [c, ho, ← ho2]) n1
/-- The fourth byte tells the boot. -/
def b3 (s : ByteArray) : Option UInt8 := s.data.toList[3]?
theorem b3_pre (a b c d : UInt8) (r : ByteArray) : b3 ((⟨#[a, b, c, d]⟩ : ByteArray) ++ r) = some d := by
  unfold b3
  rw [ByteArray.data_append, Array.toList_append]
  rfl
theorem sec_pre {r : Rc} (own : Int) (hs : r.seq = 1) {b : UInt8} (hb : numS r.boot = ⟨#[1, b]⟩) : b3 (r.sec own) = some b := by
  have e : ∃ q : ByteArray, r.sec own = (⟨#[1, 1, 1, b]⟩ : ByteArray) ++ q := by
    unfold Rc.sec padS Rc.body Rc.fl
    simp only [encL]
    rw [show Fld.enc (.n r.seq) = numS r.seq from rfl, show Fld.enc (.n r.boot) = numS r.boot from rfl, hs, hb, show numS 1 = ⟨#[1, 1]⟩ by kernel_rfl]
    simp only [ba_assoc]
    exact ⟨_, by rw [← ba_assoc]; rfl⟩
  obtain ⟨q, hq⟩ := e
  rw [hq]
  exact b3_pre _ _ _ _ q
theorem b3_cut {u : ByteArray} {k n : Nat} : b3 (u.extract 0 k ++ zerN n) = some 0 ∨ b3 (u.extract 0 k ++ zerN n) = none ∨ b3 (u.extract 0 k ++ zerN n) = b3 u := by
  unfold b3
  rw [ByteArray.data_append, Array.toList_append, ByteArray.data_extract, Array.toList_extract, List.extract_eq_take_drop, List.drop_zero, Nat.sub_zero, show (zerN n).data.toList = List.replicate n 0 from rfl, List.getElem?_append]
  split
  · right; right
    rename_i h
    rw [List.getElem?_take, if_pos (by simp at h; omega)]
  · rw [List.getElem?_replicate]
    split
    · exact .inl rfl
    · exact .inr (.inl rfl)
theorem rtorn_walk (a c : Ev) (tn bo : Int) (w : World) (hg : Gd w) : Calls Tryd.prog 7 #[a.val, c.val, .int .i64 tn, .int .i64 bo] w fun e w' => e = .returned (.bool true) ∧ Below w.heap.size w w' := by
  have hb1 := i64_mask bo 1 (by omega)
  rw [show ((2 ^ 1 - 1 : Nat) : Int) = 1 from by decide, show ((2 ^ 1 : Nat) : Int) = 2 from by decide] at hb1
  obtain ⟨B, hB⟩ : ∃ B : Int, bo % 2 = B := ⟨_, rfl⟩
  rw [hB] at hb1
  have hB0 : 0 ≤ B := by omega
  have hB1 : B ≤ 1 := by omega
  have hk1 := i64_mask tn 6 (by omega)
  rw [show ((2 ^ 6 - 1 : Nat) : Int) = 63 from by decide, show ((2 ^ 6 : Nat) : Int) = 64 from by decide] at hk1
  obtain ⟨k, hkk⟩ : ∃ k : Nat, tn % 64 = (k : Int) := ⟨(tn % 64).toNat, by omega⟩
  rw [hkk] at hk1
  have hk : k ≤ 63 := by omega
  obtain ⟨x, hx⟩ : ∃ x : Rc, x = ⟨1, 1 + B, 0, a⟩ := ⟨_, rfl⟩
  obtain ⟨y, hy⟩ : ∃ y : Rc, y = ⟨1, 3, 0, c⟩ := ⟨_, rfl⟩
  have l1 := rcT_len (most := 9) (ts := []) x
  have l2 := rcT_len (most := 9) (ts := rcT 9 [] x) y
  simp only [List.length_nil] at l1
  have pa := fun p => dpput p 9 [] x (by decide)
  have pb := fun p => dpput p 9 (rcT 9 [] x) y (by omega)
  have pc := fun p u (hu : u.size ≤ 9223372036854770000) => dpget p 9 (rcT 9 (rcT 9 [] x) y) u 1 0 hu
  by_cases e1 : rcE 9 [] x = 0
  · by_cases e2 : rcE 9 (rcT 9 [] x) y = 0
    · obtain ⟨_, _, _, sx⟩ := put_in e1
      obtain ⟨_, _, _, sy⟩ := put_in e2
      have ht := two9_of e1 e2
      have s64 : (rcS 9 [] x).size = 64 := by rw [sx]; exact x.sec_size _
      have u64 : (rcS 9 (rcT 9 [] x) y).size = 64 := by rw [sy]; exact y.sec_size _
      have hne : ((rcS 9 (rcT 9 [] x) y).extract 0 k ++ zerN (64 - k)) ≠ rcS 9 [] x := by
        intro h
        have hyb : b3 (rcS 9 (rcT 9 [] x) y) = some 3 := by rw [sy]; exact sec_pre _ (by rw [hy]) (by rw [hy]; kernel_rfl)
        have hxb : b3 (rcS 9 [] x) = some 1 ∨ b3 (rcS 9 [] x) = some 2 := by
          rw [sx]
          rcases (show B = 0 ∨ B = 1 by omega) with e | e
          · exact .inl (sec_pre _ (by rw [hx]) (by rw [hx, e]; kernel_rfl))
          · exact .inr (sec_pre _ (by rw [hx]) (by rw [hx, e]; kernel_rfl))
        rw [← h] at hxb
        rcases b3_cut (u := rcS 9 (rcT 9 [] x) y) (k := k) (n := 64 - k) with c1 | c1 | c1
        · rw [c1] at hxb; revert hxb; decide
        · rw [c1] at hxb; revert hxb; decide
        · rw [c1, hyb] at hxb; revert hxb; decide
      have f1 := ht.found (by rw [hx]; exact ⟨rfl, rfl⟩) (by rw [hy]; exact ⟨rfl, rfl⟩) ((rcS 9 (rcT 9 [] x) y).extract 0 k ++ zerN (64 - k))
      have f2 := ht.found (by rw [hx]; exact ⟨rfl, rfl⟩) (by rw [hy]; exact ⟨rfl, rfl⟩) ((rcS 9 (rcT 9 [] x) y).extract 0 k ++ (rcS 9 [] x).extract k 64)
      rw [← sx, ← sy] at f1 f2
      have hc := fun p => pc p ((rcS 9 (rcT 9 [] x) y).extract 0 k ++ zerN (64 - k)) (by rw [ByteArray.size_append, ByteArray.size_extract, zerN_size]; omega)
      have hd := fun p => pc p ((rcS 9 (rcT 9 [] x) y).extract 0 k ++ (rcS 9 [] x).extract k 64) (by rw [ByteArray.size_append, ByteArray.size_extract, ByteArray.size_extract]; omega)
      rw [e1] at pa
      rw [e2] at pb
      clear sx sy ht pc l1 l2 e1 e2
      generalize rcS 9 (rcT 9 [] x) y = U at *
      generalize rcS 9 [] x = S at *
      generalize rcN 9 (rcT 9 [] x) y = o2 at *
      generalize rcN 9 [] x = o1 at *
      generalize rcT 9 (rcT 9 [] x) y = T2 at *
      generalize rcT 9 [] x = T1 at *
      by_cases q1 : U.extract 0 k ++ zerN (64 - k) = U
      · obtain ⟨r1, r2, r3⟩ := f1.1 q1
        rw [r1, r3] at hc
        by_cases q2 : U.extract 0 k ++ S.extract k 64 = U
        · obtain ⟨t1, t2, t3⟩ := f2.1 q2
          rw [t1, t3] at hd
          subst hx hy
          exact rtorn_tt _ _ _ _ _ _ _ _ _ _ _ _ _ _ _ _ tn bo B hb1 hB0 hB1 S U T1 T2 o1 o2 pa pb s64 u64 k hk hk1 _ _ hc hd (ba_eq' q1) (ba_eq' q2) w hg
        · by_cases q3 : U.extract 0 k ++ S.extract k 64 = S
          · obtain ⟨t1, t2, t3⟩ := f2.2.1 q3
            rw [t1, t3] at hd
            subst hx hy
            exact rtorn_ts _ _ _ _ _ _ _ _ _ _ _ _ _ _ _ _ tn bo B hb1 hB0 hB1 S U T1 T2 o1 o2 pa pb s64 u64 k hk hk1 _ _ hc hd (ba_eq' q1) (ba_ne' q2) (ba_eq' q3) w hg
          · obtain ⟨t1, t2, t3⟩ := f2.2.2 q2 q3
            rw [t1, t3] at hd
            subst hx hy
            exact rtorn_tn _ _ _ _ _ _ _ _ _ _ _ _ _ _ _ _ tn bo B hb1 hB0 hB1 S U T1 T2 o1 o2 pa pb s64 u64 k hk hk1 _ _ hc hd (ba_eq' q1) (ba_ne' q2) (ba_ne' q3) w hg
      · obtain ⟨r1, r2, r3⟩ := f1.2.2 q1 hne
        rw [r1, r3] at hc
        by_cases q2 : U.extract 0 k ++ S.extract k 64 = U
        · obtain ⟨t1, t2, t3⟩ := f2.1 q2
          rw [t1, t3] at hd
          subst hx hy
          exact rtorn_nt _ _ _ _ _ _ _ _ _ _ _ _ _ _ _ _ tn bo B hb1 hB0 hB1 S U T1 T2 o1 o2 pa pb s64 u64 k hk hk1 _ _ hc hd (ba_ne' q1) (ba_eq' q2) w hg
        · by_cases q3 : U.extract 0 k ++ S.extract k 64 = S
          · obtain ⟨t1, t2, t3⟩ := f2.2.1 q3
            rw [t1, t3] at hd
            subst hx hy
            exact rtorn_ns _ _ _ _ _ _ _ _ _ _ _ _ _ _ _ _ tn bo B hb1 hB0 hB1 S U T1 T2 o1 o2 pa pb s64 u64 k hk hk1 _ _ hc hd (ba_ne' q1) (ba_ne' q2) (ba_eq' q3) w hg
          · obtain ⟨t1, t2, t3⟩ := f2.2.2 q2 q3
            rw [t1, t3] at hd
            subst hx hy
            exact rtorn_nn _ _ _ _ _ _ _ _ _ _ _ _ _ _ _ _ tn bo B hb1 hB0 hB1 S U T1 T2 o1 o2 pa pb s64 u64 k hk hk1 _ _ hc hd (ba_ne' q1) (ba_ne' q2) (ba_ne' q3) w hg
    · rw [e1] at pa
      rw [(put_no e2).1] at pb
      subst hx hy
      exact rtorn_r2 _ _ _ _ _ _ _ _ _ _ _ _ _ _ _ _ tn bo B hb1 hB0 hB1 _ _ _ _ _ _ pa pb w hg
  · rw [(put_no e1).1] at pa
    subst hx hy
    exact rtorn_r1 _ _ _ _ _ _ _ _ _ _ _ _ _ _ _ _ tn bo B hb1 hB0 hB1 _ _ _ _ _ _ _ pa pb w hg
end Go.Proofs.YtiebpjkppjollaaDoor

