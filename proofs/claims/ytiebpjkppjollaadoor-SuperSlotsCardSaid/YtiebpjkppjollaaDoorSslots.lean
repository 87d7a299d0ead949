/- The walk of SuperSlots, at each way. Conditions: as typed. -/
import Derived.Test.YtiebpjkppjollaaDoorSuaw
import Derived.Test.YtiebpjkppjollaaDoorBdz
import Derived.IntWalk
import Derived.Laws.BitsLemmas
namespace Go.Proofs.YtiebpjkppjollaaDoor
open Go Go.RowKit

set_option maxRecDepth 100000 in
set_option maxHeartbeats 8000000 in
theorem sslots_ge1 (x y torn which : Int) (m1 m2 : Nat) (S U : ByteArray) (T1 T2 : List ByteArray) (s64 : S.size = 64) (u64 : U.size = 64)
    (hx : (IntKind.u64.wrap x).tmod 1023 = (m1 : Int)) (hy : (IntKind.u64.wrap y).tmod 1023 = (m2 : Int)) (hm1 : m1 ≤ 1022) (hm2 : m2 ≤ 1022)
    (k : Nat) (hk : k ≤ 1) (htn : bits .and .i64 torn 1 = (k : Int)) (hw : bits .and .i64 which 1 = 1) (hc : m2 ≤ m1)
    (x1 : ((U.extract 0 k ++ zerN (64 - k)).toList == U.toList) = false)
    (ha : ∀ p : Nat, DoesG Tryd.prog (bookA p 9 []) 24 #[.pointer (some ⟨p, 0, none⟩), .int .i64 (1 + (m1 : Int))] (.returned (.tuple #[.string S, .int .i64 0])) (bookA p 9 T1))
    (hb : ∀ p : Nat, DoesG Tryd.prog (bookA p 9 T1) 24 #[.pointer (some ⟨p, 0, none⟩), .int .i64 (1 + (m2 : Int))] (.returned (.tuple #[.string U, .int .i64 0])) (bookA p 9 T2))
    (hd : ∀ p : Nat, DoesG Tryd.prog (bookA p 9 T2) 28 #[.pointer (some ⟨p, 0, none⟩), .string S, .string U] (.returned (.tuple #[.int .i64 (1 + (m1 : Int)), .int .i64 1, .int .i64 0])) (bookA p 9 T2))
    (he : ∀ p : Nat, DoesG Tryd.prog (bookA p 9 T2) 28 #[.pointer (some ⟨p, 0, none⟩), .string (U.extract 0 k ++ zerN (64 - k)), .string S] (.returned (.tuple #[.int .i64 (1 + (m1 : Int)), .int .i64 0, .int .i64 0])) (bookA p 9 T2))
    (w : World) (hg : Gd w) : Calls Tryd.prog 9 #[.int .i64 x, .int .i64 y, .int .i64 torn, .int .i64 which] w fun e w' => e = .returned (.bool true) ∧ Below w.heap.size w w' := by
  have HA := Lib.hid ha
  have HB := Lib.hid hb
  have HD := Lib.hid hd
  have HE := Lib.hid he
  have HG := Lib.hid hg
  have HW := Lib.hid (awake10 w hg)
  clear ha hb hd he hg
  have hmax : max (1 + (m1 : Int)) (1 + (m2 : Int)) = (1 + (m1 : Int)) := by omega
  have hmax2 : (if 1 + (m1 : Int) < 1 + (m2 : Int) then 1 + (m2 : Int) else 1 + (m1 : Int)) = (1 + (m1 : Int)) := by rw [if_neg (by omega)]
  have hki : (k : Int) ≤ 64 := by omega
  have hk64 : (64 : Int) - (k : Int) = ((64 - k : Nat) : Int) := by omega
  have hwk : IntKind.i64.wrap ((64 - k : Nat) : Int) = ((64 - k : Nat) : Int) := by rw [IntKind.wrap_i64]; omega
  have s64i : (S.size : Int) = 64 := by omega
  have u64i : (U.size : Int) = 64 := by omega
  have zz := zerN_size (64 - k)
  have hmk := zk_made (64 - k) (by omega)
  have hcv := zk_conv (64 - k) (by omega)
  have hcd := zk_conv_drew (64 - k) (by omega)
  generalize hzn : zerN (64 - k) = ZN at *
  generalize hkk : (64 - k : Nat) = kk at *
  have ad1 : ¬ 9223372036854775807 < k + kk := by omega
  have ad2 : ¬ 9223372036854775807 < k + (64 - k) := by omega
  have hkU : (k : Int) ≤ (U.size : Int) := by omega
  go_enter Tryd.func9, Tryd.ntmps9
  go_wp2_with (first
    | (go_at_call 23; (with_reducible refine (HW.out).mono ?_); rintro e w1 ⟨rfl, hb0⟩)
    | (go_at_call 22; (with_reducible refine (twin_none10 9 _ (by omega) (by omega)).mono ?_); rintro e w1 ⟨p, q, rfl, hb⟩; have hS := (At.start hb).under hb0; clear hb)
    | (go_at_call 24; first
        | ((with_reducible refine (At.op1G (HA.out _) (refA_good _ _ _) emp_good HG.out hS).mono ?_); rintro e w1 ⟨rfl, hS1⟩; replace hS := hS1; clear hS1)
        | ((with_reducible refine (At.op1G (HB.out _) (refA_good _ _ _) emp_good HG.out hS).mono ?_); rintro e w1 ⟨rfl, hS1⟩; replace hS := hS1; clear hS1))
    | (go_at_call 28; (with_reducible refine (At.op1G (HD.out _) (refA_good _ _ _) emp_good HG.out hS).mono ?_); rintro e w1 ⟨rfl, hS1⟩; replace hS := hS1; clear hS1)
    | (go_at_call 16; (with_reducible refine (lnum _ _).mono ?_); rintro e w1 ⟨rfl, rfl⟩))
  go_region
  all_goals
    replace hS := (hS.lay ((refA_good _ _ _).star (good1 _ _ _)) (balloc w1 (zkObj kk))).lay ((refA_good _ _ _).star (good1 _ _ _)) (bdrew _)
    go_wp2_with (first
      | (go_at_call 28; (with_reducible refine (At.op1G (HE.out _) (refA_good _ _ _) emp_good HG.out hS).mono ?_); rintro e w1 ⟨rfl, hS1⟩; replace hS := hS1; clear hS1)
      | (go_at_call 16; (with_reducible refine (lnum _ _).mono ?_); rintro e w1 ⟨rfl, rfl⟩))
    go_ret
    exact ⟨rfl, hS.bel⟩
set_option maxRecDepth 100000 in
set_option maxHeartbeats 8000000 in
theorem sslots_ge0 (x y torn which : Int) (m1 m2 : Nat) (S U : ByteArray) (T1 T2 : List ByteArray) (s64 : S.size = 64) (u64 : U.size = 64)
    (hx : (IntKind.u64.wrap x).tmod 1023 = (m1 : Int)) (hy : (IntKind.u64.wrap y).tmod 1023 = (m2 : Int)) (hm1 : m1 ≤ 1022) (hm2 : m2 ≤ 1022)
    (k : Nat) (hk : k ≤ 1) (htn : bits .and .i64 torn 1 = (k : Int)) (hw : bits .and .i64 which 1 = 0) (hc : m2 ≤ m1)
    (x1 : ((U.extract 0 k ++ zerN (64 - k)).toList == U.toList) = false)
    (ha : ∀ p : Nat, DoesG Tryd.prog (bookA p 9 []) 24 #[.pointer (some ⟨p, 0, none⟩), .int .i64 (1 + (m1 : Int))] (.returned (.tuple #[.string S, .int .i64 0])) (bookA p 9 T1))
    (hb : ∀ p : Nat, DoesG Tryd.prog (bookA p 9 T1) 24 #[.pointer (some ⟨p, 0, none⟩), .int .i64 (1 + (m2 : Int))] (.returned (.tuple #[.string U, .int .i64 0])) (bookA p 9 T2))
    (hd : ∀ p : Nat, DoesG Tryd.prog (bookA p 9 T2) 28 #[.pointer (some ⟨p, 0, none⟩), .string S, .string U] (.returned (.tuple #[.int .i64 (1 + (m1 : Int)), .int .i64 1, .int .i64 0])) (bookA p 9 T2))
    (he : ∀ p : Nat, DoesG Tryd.prog (bookA p 9 T2) 28 #[.pointer (some ⟨p, 0, none⟩), .string S, .string (U.extract 0 k ++ zerN (64 - k))] (.returned (.tuple #[.int .i64 (1 + (m1 : Int)), .int .i64 1, .int .i64 0])) (bookA p 9 T2))
    (w : World) (hg : Gd w) : Calls Tryd.prog 9 #[.int .i64 x, .int .i64 y, .int .i64 torn, .int .i64 which] w fun e w' => e = .returned (.bool true) ∧ Below w.heap.size w w' := by
  have HA := Lib.hid ha
  have HB := Lib.hid hb
  have HD := Lib.hid hd
  have HE := Lib.hid he
  have HG := Lib.hid hg
  have HW := Lib.hid (awake10 w hg)
  clear ha hb hd he hg
  have hmax : max (1 + (m1 : Int)) (1 + (m2 : Int)) = (1 + (m1 : Int)) := by omega
  have hmax2 : (if 1 + (m1 : Int) < 1 + (m2 : Int) then 1 + (m2 : Int) else 1 + (m1 : Int)) = (1 + (m1 : Int)) := by rw [if_neg (by omega)]
  have hki : (k : Int) ≤ 64 := by omega
  have hk64 : (64 : Int) - (k : Int) = ((64 - k : Nat) : Int) := by omega
  have hwk : IntKind.i64.wrap ((64 - k : Nat) : Int) = ((64 - k : Nat) : Int) := by rw [IntKind.wrap_i64]; omega
  have s64i : (S.size : Int) = 64 := by omega
  have u64i : (U.size : Int) = 64 := by omega
  have zz := zerN_size (64 - k)
  have hmk := zk_made (64 - k) (by omega)
  have hcv := zk_conv (64 - k) (by omega)
  have hcd := zk_conv_drew (64 - k) (by omega)
  generalize hzn : zerN (64 - k) = ZN at *
  generalize hkk : (64 - k : Nat) = kk at *
  have ad1 : ¬ 9223372036854775807 < k + kk := by omega
  have ad2 : ¬ 9223372036854775807 < k + (64 - k) := by omega
  have hkU : (k : Int) ≤ (U.size : Int) := by omega
  go_enter Tryd.func9, Tryd.ntmps9
  go_wp2_with (first
    | (go_at_call 23; (with_reducible refine (HW.out).mono ?_); rintro e w1 ⟨rfl, hb0⟩)
    | (go_at_call 22; (with_reducible refine (twin_none10 9 _ (by omega) (by omega)).mono ?_); rintro e w1 ⟨p, q, rfl, hb⟩; have hS := (At.start hb).under hb0; clear hb)
    | (go_at_call 24; first
        | ((with_reducible refine (At.op1G (HA.out _) (refA_good _ _ _) emp_good HG.out hS).mono ?_); rintro e w1 ⟨rfl, hS1⟩; replace hS := hS1; clear hS1)
        | ((with_reducible refine (At.op1G (HB.out _) (refA_good _ _ _) emp_good HG.out hS).mono ?_); rintro e w1 ⟨rfl, hS1⟩; replace hS := hS1; clear hS1))
    | (go_at_call 28; (with_reducible refine (At.op1G (HD.out _) (refA_good _ _ _) emp_good HG.out hS).mono ?_); rintro e w1 ⟨rfl, hS1⟩; replace hS := hS1; clear hS1)
    | (go_at_call 16; (with_reducible refine (lnum _ _).mono ?_); rintro e w1 ⟨rfl, rfl⟩))
  go_region
  all_goals
    replace hS := (hS.lay ((refA_good _ _ _).star (good1 _ _ _)) (balloc w1 (zkObj kk))).lay ((refA_good _ _ _).star (good1 _ _ _)) (bdrew _)
    go_wp2_with (first
      | (go_at_call 28; (with_reducible refine (At.op1G (HE.out _) (refA_good _ _ _) emp_good HG.out hS).mono ?_); rintro e w1 ⟨rfl, hS1⟩; replace hS := hS1; clear hS1)
      | (go_at_call 16; (with_reducible refine (lnum _ _).mono ?_); rintro e w1 ⟨rfl, rfl⟩))
    go_ret
    exact ⟨rfl, hS.bel⟩
set_option maxRecDepth 100000 in
set_option maxHeartbeats 8000000 in
theorem sslots_lt1 (x y torn which : Int) (m1 m2 : Nat) (S U : ByteArray) (T1 T2 : List ByteArray) (s64 : S.size = 64) (u64 : U.size = 64)
    (hx : (IntKind.u64.wrap x).tmod 1023 = (m1 : Int)) (hy : (IntKind.u64.wrap y).tmod 1023 = (m2 : Int)) (hm1 : m1 ≤ 1022) (hm2 : m2 ≤ 1022)
    (k : Nat) (hk : k ≤ 1) (htn : bits .and .i64 torn 1 = (k : Int)) (hw : bits .and .i64 which 1 = 1) (hc : m1 < m2)
    (x1 : ((U.extract 0 k ++ zerN (64 - k)).toList == U.toList) = false)
    (ha : ∀ p : Nat, DoesG Tryd.prog (bookA p 9 []) 24 #[.pointer (some ⟨p, 0, none⟩), .int .i64 (1 + (m1 : Int))] (.returned (.tuple #[.string S, .int .i64 0])) (bookA p 9 T1))
    (hb : ∀ p : Nat, DoesG Tryd.prog (bookA p 9 T1) 24 #[.pointer (some ⟨p, 0, none⟩), .int .i64 (1 + (m2 : Int))] (.returned (.tuple #[.string U, .int .i64 0])) (bookA p 9 T2))
    (hd : ∀ p : Nat, DoesG Tryd.prog (bookA p 9 T2) 28 #[.pointer (some ⟨p, 0, none⟩), .string S, .string U] (.returned (.tuple #[.int .i64 (1 + (m2 : Int)), .int .i64 0, .int .i64 0])) (bookA p 9 T2))
    (he : ∀ p : Nat, DoesG Tryd.prog (bookA p 9 T2) 28 #[.pointer (some ⟨p, 0, none⟩), .string (U.extract 0 k ++ zerN (64 - k)), .string S] (.returned (.tuple #[.int .i64 (1 + (m1 : Int)), .int .i64 0, .int .i64 0])) (bookA p 9 T2))
    (w : World) (hg : Gd w) : Calls Tryd.prog 9 #[.int .i64 x, .int .i64 y, .int .i64 torn, .int .i64 which] w fun e w' => e = .returned (.bool true) ∧ Below w.heap.size w w' := by
  have HA := Lib.hid ha
  have HB := Lib.hid hb
  have HD := Lib.hid hd
  have HE := Lib.hid he
  have HG := Lib.hid hg
  have HW := Lib.hid (awake10 w hg)
  clear ha hb hd he hg
  have hmax : max (1 + (m1 : Int)) (1 + (m2 : Int)) = (1 + (m2 : Int)) := by omega
  have hmax2 : (if 1 + (m1 : Int) < 1 + (m2 : Int) then 1 + (m2 : Int) else 1 + (m1 : Int)) = (1 + (m2 : Int)) := by rw [if_pos (by omega)]
  have hki : (k : Int) ≤ 64 := by omega
  have hk64 : (64 : Int) - (k : Int) = ((64 - k : Nat) : Int) := by omega
  have hwk : IntKind.i64.wrap ((64 - k : Nat) : Int) = ((64 - k : Nat) : Int) := by rw [IntKind.wrap_i64]; omega
  have s64i : (S.size : Int) = 64 := by omega
  have u64i : (U.size : Int) = 64 := by omega
  have zz := zerN_size (64 - k)
  have hmk := zk_made (64 - k) (by omega)
  have hcv := zk_conv (64 - k) (by omega)
  have hcd := zk_conv_drew (64 - k) (by omega)
  generalize hzn : zerN (64 - k) = ZN at *
  generalize hkk : (64 - k : Nat) = kk at *
  have ad1 : ¬ 9223372036854775807 < k + kk := by omega
  have ad2 : ¬ 9223372036854775807 < k + (64 - k) := by omega
  have hkU : (k : Int) ≤ (U.size : Int) := by omega
  go_enter Tryd.func9, Tryd.ntmps9
  go_wp2_with (first
    | (go_at_call 23; (with_reducible refine (HW.out).mono ?_); rintro e w1 ⟨rfl, hb0⟩)
    | (go_at_call 22; (with_reducible refine (twin_none10 9 _ (by omega) (by omega)).mono ?_); rintro e w1 ⟨p, q, rfl, hb⟩; have hS := (At.start hb).under hb0; clear hb)
    | (go_at_call 24; first
        | ((with_reducible refine (At.op1G (HA.out _) (refA_good _ _ _) emp_good HG.out hS).mono ?_); rintro e w1 ⟨rfl, hS1⟩; replace hS := hS1; clear hS1)
        | ((with_reducible refine (At.op1G (HB.out _) (refA_good _ _ _) emp_good HG.out hS).mono ?_); rintro e w1 ⟨rfl, hS1⟩; replace hS := hS1; clear hS1))
    | (go_at_call 28; (with_reducible refine (At.op1G (HD.out _) (refA_good _ _ _) emp_good HG.out hS).mono ?_); rintro e w1 ⟨rfl, hS1⟩; replace hS := hS1; clear hS1)
    | (go_at_call 16; (with_reducible refine (lnum _ _).mono ?_); rintro e w1 ⟨rfl, rfl⟩))
  go_region
  all_goals
    replace hS := (hS.lay ((refA_good _ _ _).star (good1 _ _ _)) (balloc w1 (zkObj kk))).lay ((refA_good _ _ _).star (good1 _ _ _)) (bdrew _)
    go_wp2_with (first
      | (go_at_call 28; (with_reducible refine (At.op1G (HE.out _) (refA_good _ _ _) emp_good HG.out hS).mono ?_); rintro e w1 ⟨rfl, hS1⟩; replace hS := hS1; clear hS1)
      | (go_at_call 16; (with_reducible refine (lnum _ _).mono ?_); rintro e w1 ⟨rfl, rfl⟩))
    go_ret
    exact ⟨rfl, hS.bel⟩
set_option maxRecDepth 100000 in
set_option maxHeartbeats 8000000 in
theorem sslots_lt0 (x y torn which : Int) (m1 m2 : Nat) (S U : ByteArray) (T1 T2 : List ByteArray) (s64 : S.size = 64) (u64 : U.size = 64)
    (hx : (IntKind.u64.wrap x).tmod 1023 = (m1 : Int)) (hy : (IntKind.u64.wrap y).tmod 1023 = (m2 : Int)) (hm1 : m1 ≤ 1022) (hm2 : m2 ≤ 1022)
    (k : Nat) (hk : k ≤ 1) (htn : bits .and .i64 torn 1 = (k : Int)) (hw : bits .and .i64 which 1 = 0) (hc : m1 < m2)
    (x1 : ((U.extract 0 k ++ zerN (64 - k)).toList == U.toList) = false)
    (ha : ∀ p : Nat, DoesG Tryd.prog (bookA p 9 []) 24 #[.pointer (some ⟨p, 0, none⟩), .int .i64 (1 + (m1 : Int))] (.returned (.tuple #[.string S, .int .i64 0])) (bookA p 9 T1))
    (hb : ∀ p : Nat, DoesG Tryd.prog (bookA p 9 T1) 24 #[.pointer (some ⟨p, 0, none⟩), .int .i64 (1 + (m2 : Int))] (.returned (.tuple #[.string U, .int .i64 0])) (bookA p 9 T2))
    (hd : ∀ p : Nat, DoesG Tryd.prog (bookA p 9 T2) 28 #[.pointer (some ⟨p, 0, none⟩), .string S, .string U] (.returned (.tuple #[.int .i64 (1 + (m2 : Int)), .int .i64 0, .int .i64 0])) (bookA p 9 T2))
    (he : ∀ p : Nat, DoesG Tryd.prog (bookA p 9 T2) 28 #[.pointer (some ⟨p, 0, none⟩), .string S, .string (U.extract 0 k ++ zerN (64 - k))] (.returned (.tuple #[.int .i64 (1 + (m1 : Int)), .int .i64 1, .int .i64 0])) (bookA p 9 T2))
    (w : World) (hg : Gd w) : Calls Tryd.prog 9 #[.int .i64 x, .int .i64 y, .int .i64 torn, .int .i64 which] w fun e w' => e = .returned (.bool true) ∧ Below w.heap.size w w' := by
  have HA := Lib.hid ha
  have HB := Lib.hid hb
  have HD := Lib.hid hd
  have HE := Lib.hid he
  have HG := Lib.hid hg
  have HW := Lib.hid (awake10 w hg)
  clear ha hb hd he hg
  have hmax : max (1 + (m1 : Int)) (1 + (m2 : Int)) = (1 + (m2 : Int)) := by omega
  have hmax2 : (if 1 + (m1 : Int) < 1 + (m2 : Int) then 1 + (m2 : Int) else 1 + (m1 : Int)) = (1 + (m2 : Int)) := by rw [if_pos (by omega)]
  have hki : (k : Int) ≤ 64 := by omega
  have hk64 : (64 : Int) - (k : Int) = ((64 - k : Nat) : Int) := by omega
  have hwk : IntKind.i64.wrap ((64 - k : Nat) : Int) = ((64 - k : Nat) : Int) := by rw [IntKind.wrap_i64]; omega
  have s64i : (S.size : Int) = 64 := by omega
  have u64i : (U.size : Int) = 64 := by omega
  have zz := zerN_size (64 - k)
  have hmk := zk_made (64 - k) (by omega)
  have hcv := zk_conv (64 - k) (by omega)
  have hcd := zk_conv_drew (64 - k) (by omega)
  generalize hzn : zerN (64 - k) = ZN at *
  generalize hkk : (64 - k : Nat) = kk at *
  have ad1 : ¬ 9223372036854775807 < k + kk := by omega
  have ad2 : ¬ 9223372036854775807 < k + (64 - k) := by omega
  have hkU : (k : Int) ≤ (U.size : Int) := by omega
  go_enter Tryd.func9, Tryd.ntmps9
  go_wp2_with (first
    | (go_at_call 23; (with_reducible refine (HW.out).mono ?_); rintro e w1 ⟨rfl, hb0⟩)
    | (go_at_call 22; (with_reducible refine (twin_none10 9 _ (by omega) (by omega)).mono ?_); rintro e w1 ⟨p, q, rfl, hb⟩; have hS := (At.start hb).under hb0; clear hb)
    | (go_at_call 24; first
        | ((with_reducible refine (At.op1G (HA.out _) (refA_good _ _ _) emp_good HG.out hS).mono ?_); rintro e w1 ⟨rfl, hS1⟩; replace hS := hS1; clear hS1)
        | ((with_reducible refine (At.op1G (HB.out _) (refA_good _ _ _) emp_good HG.out hS).mono ?_); rintro e w1 ⟨rfl, hS1⟩; replace hS := hS1; clear hS1))
    | (go_at_call 28; (with_reducible refine (At.op1G (HD.out _) (refA_good _ _ _) emp_good HG.out hS).mono ?_); rintro e w1 ⟨rfl, hS1⟩; replace hS := hS1; clear hS1)
    | (go_at_call 16; (with_reducible refine (lnum _ _).mono ?_); rintro e w1 ⟨rfl, rfl⟩))
  go_region
  all_goals
    replace hS := (hS.lay ((refA_good _ _ _).star (good1 _ _ _)) (balloc w1 (zkObj kk))).lay ((refA_good _ _ _).star (good1 _ _ _)) (bdrew _)
    go_wp2_with (first
      | (go_at_call 28; (with_reducible refine (At.op1G (HE.out _) (refA_good _ _ _) emp_good HG.out hS).mono ?_); rintro e w1 ⟨rfl, hS1⟩; replace hS := hS1; clear hS1)
      | (go_at_call 16; (with_reducible refine (lnum _ _).mono ?_); rintro e w1 ⟨rfl, rfl⟩))
    go_ret
    exact ⟨rfl, hS.bel⟩
end Go.Proofs.YtiebpjkppjollaaDoor
