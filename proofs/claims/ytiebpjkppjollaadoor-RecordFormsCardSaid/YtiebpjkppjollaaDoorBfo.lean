/- Put together: Rcforms, Rcforms2. Conditions: each theorem's own. -/
import Derived.Test.YtiebpjkppjollaaDoorRcaw
import Derived.IntWalk
import Derived.Laws.BitsLemmas
import Derived.Test.YtiebpjkppjollaaDoorBfp
namespace Go.Proofs.YtiebpjkppjollaaDoor
open Go Go.RowKit

abbrev gdV : Array Value := #[.int .i64 1073741823, .int .i64 1073741823, .int .i64 1073741823, .int .i64 6, .int .i64 0, .int .i64 1073741823, .int .i64 0, .int .i64 1073741823, .int .i64 4, .int .i64 0, .int .i64 1048575]
set_option maxRecDepth 100000 in
set_option maxHeartbeats 8000000 in
theorem rforms0 (S : ByteArray) (T : List ByteArray) (n x : Int) (m : Nat) (m1 : m ≤ 1023) (hm : bits .and .i64 x 1023 = (m : Int)) (hj : (IntKind.u64.wrap n).tmod 9 = 0) (h64 : S.size = 64) (hT : T.length = 1)
    (ha : ∀ p : Nat, DoesG Tryd.prog (bookA p 1 []) 14 #[.pointer (some ⟨p, 0, none⟩), .agg gdV] (.returned (.tuple #[.string S, .int .i64 0, .int .i64 0])) (bookA p 1 T))
    (hb : ∀ p : Nat, DoesG Tryd.prog (bookA p 1 T) 14 #[.pointer (some ⟨p, 0, none⟩), .agg #[.int .i64 (1 - (1 + (m : Int))), .int .i64 1073741823, .int .i64 1073741823, .int .i64 6, .int .i64 0, .int .i64 1073741823, .int .i64 0, .int .i64 1073741823, .int .i64 4, .int .i64 0, .int .i64 1048575]] (.returned (.tuple #[.string ⟨#[]⟩, .int .i64 0, .int .i64 900])) (bookA p 1 T))
    (hc : ∀ p : Nat, DoesG Tryd.prog (bookA p 1 T) 17 #[.pointer (some ⟨p, 0, none⟩), .string S, .int .i64 1073741823, .int .i64 1073741823] (.returned (.tuple #[.agg gdV, .int .i64 0, .int .i64 0])) (bookA p 1 T)) (w : World) (hg : Gd w) :
    Calls Tryd.prog 5 #[.int .i64 n, .int .i64 x] w fun e w' => e = .returned (.bool true) ∧ Below w.heap.size w w' := by
  have HA := Lib.hid ha
  have HB := Lib.hid hb
  have HC := Lib.hid hc
  have HG := Lib.hid hg
  have HW := Lib.hid (awake9 w hg)
  have HL := Lib.hid (fun p => dlen p 1 T)
  rw [hT] at HL
  clear ha hb hc hg
  go_enter Tryd.func5, Tryd.ntmps5
  go_wp2_with (first
    | (go_at_call 13; (with_reducible refine (HW.out).mono ?_); rintro e w1 ⟨rfl, hb0⟩; have hS0 := At.none hb0; clear hb0)
    | (go_at_call 21; (with_reducible refine (bnew_ok 1 _ (by omega) (by omega)).mono ?_); rintro e w1 ⟨p, rfl, hb⟩; have hS := At.add emp_good hS0 hb; clear hb hS0)
    | (go_at_call 14; first
        | ((with_reducible refine (At.op1G (HA.out _) (ownA_good _ _ _) emp_good HG.out (hS.hold (good1 _ _ _) _ _)).mono ?_); rintro e w1 ⟨rfl, hS1⟩; replace hS := hS1; clear hS1; obtain ⟨e1, g1, l1⟩ := hS.own)
        | ((with_reducible refine (At.op2G (HB.out _) (ownA_good _ _ _) (ownA_good _ _ _) emp_good HG.out (hS.hold ((ownA_good _ _ _).star (good1 _ _ _)) _ _)).mono ?_); rintro e w1 ⟨rfl, hS1⟩; replace hS := hS1; clear hS1; obtain ⟨e1, g1, l1⟩ := hS.drop.own))
    | (go_at_call 17; (with_reducible refine (At.op2G (HC.out _) (ownA_good _ _ _) (ownA_good _ _ _) emp_good HG.out hS).mono ?_); rintro e w1 ⟨rfl, hS1⟩; replace hS := hS1; clear hS1; obtain ⟨e1, g1, l1⟩ := hS.drop.own)
    | (go_at_call 20; (with_reducible refine (At.op3G ((HL.out _).g) (ownA_good _ _ _) (ownA_good _ _ _) (ownA_good _ _ _) emp_good HG.out (hS.hold ((ownA_good _ _ _).star ((ownA_good _ _ _).star (good1 _ _ _))) _ _)).mono ?_); rintro e w1 ⟨rfl, hS1⟩; replace hS := hS1; clear hS1)
    | (go_at_call 16; (with_reducible refine (lnum _ _).mono ?_); rintro e w1 ⟨rfl, rfl⟩))
  go_ret
  exact ⟨rfl, hS.bel⟩
set_option maxRecDepth 100000 in
set_option maxHeartbeats 8000000 in
theorem rforms1 (S : ByteArray) (T : List ByteArray) (n x : Int) (m : Nat) (m1 : m ≤ 1023) (hm : bits .and .i64 x 1023 = (m : Int)) (hj : (IntKind.u64.wrap n).tmod 9 = 1) (h64 : S.size = 64) (hT : T.length = 1)
    (ha : ∀ p : Nat, DoesG Tryd.prog (bookA p 1 []) 14 #[.pointer (some ⟨p, 0, none⟩), .agg gdV] (.returned (.tuple #[.string S, .int .i64 0, .int .i64 0])) (bookA p 1 T))
    (hb : ∀ p : Nat, DoesG Tryd.prog (bookA p 1 T) 14 #[.pointer (some ⟨p, 0, none⟩), .agg #[.int .i64 (1073741823 + (1 + (m : Int))), .int .i64 1073741823, .int .i64 1073741823, .int .i64 6, .int .i64 0, .int .i64 1073741823, .int .i64 0, .int .i64 1073741823, .int .i64 4, .int .i64 0, .int .i64 1048575]] (.returned (.tuple #[.string ⟨#[]⟩, .int .i64 0, .int .i64 900])) (bookA p 1 T))
    (hc : ∀ p : Nat, DoesG Tryd.prog (bookA p 1 T) 17 #[.pointer (some ⟨p, 0, none⟩), .string S, .int .i64 1073741823, .int .i64 1073741823] (.returned (.tuple #[.agg gdV, .int .i64 0, .int .i64 0])) (bookA p 1 T)) (w : World) (hg : Gd w) :
    Calls Tryd.prog 5 #[.int .i64 n, .int .i64 x] w fun e w' => e = .returned (.bool true) ∧ Below w.heap.size w w' := by
  have HA := Lib.hid ha
  have HB := Lib.hid hb
  have HC := Lib.hid hc
  have HG := Lib.hid hg
  have HW := Lib.hid (awake9 w hg)
  have HL := Lib.hid (fun p => dlen p 1 T)
  rw [hT] at HL
  clear ha hb hc hg
  go_enter Tryd.func5, Tryd.ntmps5
  go_wp2_with (first
    | (go_at_call 13; (with_reducible refine (HW.out).mono ?_); rintro e w1 ⟨rfl, hb0⟩; have hS0 := At.none hb0; clear hb0)
    | (go_at_call 21; (with_reducible refine (bnew_ok 1 _ (by omega) (by omega)).mono ?_); rintro e w1 ⟨p, rfl, hb⟩; have hS := At.add emp_good hS0 hb; clear hb hS0)
    | (go_at_call 14; first
        | ((with_reducible refine (At.op1G (HA.out _) (ownA_good _ _ _) emp_good HG.out (hS.hold (good1 _ _ _) _ _)).mono ?_); rintro e w1 ⟨rfl, hS1⟩; replace hS := hS1; clear hS1; obtain ⟨e1, g1, l1⟩ := hS.own)
        | ((with_reducible refine (At.op2G (HB.out _) (ownA_good _ _ _) (ownA_good _ _ _) emp_good HG.out (hS.hold ((ownA_good _ _ _).star (good1 _ _ _)) _ _)).mono ?_); rintro e w1 ⟨rfl, hS1⟩; replace hS := hS1; clear hS1; obtain ⟨e1, g1, l1⟩ := hS.drop.own))
    | (go_at_call 17; (with_reducible refine (At.op2G (HC.out _) (ownA_good _ _ _) (ownA_good _ _ _) emp_good HG.out hS).mono ?_); rintro e w1 ⟨rfl, hS1⟩; replace hS := hS1; clear hS1; obtain ⟨e1, g1, l1⟩ := hS.drop.own)
    | (go_at_call 20; (with_reducible refine (At.op3G ((HL.out _).g) (ownA_good _ _ _) (ownA_good _ _ _) (ownA_good _ _ _) emp_good HG.out (hS.hold ((ownA_good _ _ _).star ((ownA_good _ _ _).star (good1 _ _ _))) _ _)).mono ?_); rintro e w1 ⟨rfl, hS1⟩; replace hS := hS1; clear hS1)
    | (go_at_call 16; (with_reducible refine (lnum _ _).mono ?_); rintro e w1 ⟨rfl, rfl⟩))
  go_ret
  exact ⟨rfl, hS.bel⟩
set_option maxRecDepth 100000 in
set_option maxHeartbeats 8000000 in
theorem rforms2 (S : ByteArray) (T : List ByteArray) (n x : Int) (m : Nat) (m1 : m ≤ 1023) (hm : bits .and .i64 x 1023 = (m : Int)) (hj : (IntKind.u64.wrap n).tmod 9 = 2) (h64 : S.size = 64) (hT : T.length = 1)
    (ha : ∀ p : Nat, DoesG Tryd.prog (bookA p 1 []) 14 #[.pointer (some ⟨p, 0, none⟩), .agg gdV] (.returned (.tuple #[.string S, .int .i64 0, .int .i64 0])) (bookA p 1 T))
    (hb : ∀ p : Nat, DoesG Tryd.prog (bookA p 1 T) 14 #[.pointer (some ⟨p, 0, none⟩), .agg #[.int .i64 1073741823, .int .i64 (1 - (1 + (m : Int))), .int .i64 1073741823, .int .i64 6, .int .i64 0, .int .i64 1073741823, .int .i64 0, .int .i64 1073741823, .int .i64 4, .int .i64 0, .int .i64 1048575]] (.returned (.tuple #[.string ⟨#[]⟩, .int .i64 0, .int .i64 900])) (bookA p 1 T))
    (hc : ∀ p : Nat, DoesG Tryd.prog (bookA p 1 T) 17 #[.pointer (some ⟨p, 0, none⟩), .string S, .int .i64 1073741823, .int .i64 1073741823] (.returned (.tuple #[.agg gdV, .int .i64 0, .int .i64 0])) (bookA p 1 T)) (w : World) (hg : Gd w) :
    Calls Tryd.prog 5 #[.int .i64 n, .int .i64 x] w fun e w' => e = .returned (.bool true) ∧ Below w.heap.size w w' := by
  have HA := Lib.hid ha
  have HB := Lib.hid hb
  have HC := Lib.hid hc
  have HG := Lib.hid hg
  have HW := Lib.hid (awake9 w hg)
  have HL := Lib.hid (fun p => dlen p 1 T)
  rw [hT] at HL
  clear ha hb hc hg
  go_enter Tryd.func5, Tryd.ntmps5
  go_wp2_with (first
    | (go_at_call 13; (with_reducible refine (HW.out).mono ?_); rintro e w1 ⟨rfl, hb0⟩; have hS0 := At.none hb0; clear hb0)
    | (go_at_call 21; (with_reducible refine (bnew_ok 1 _ (by omega) (by omega)).mono ?_); rintro e w1 ⟨p, rfl, hb⟩; have hS := At.add emp_good hS0 hb; clear hb hS0)
    | (go_at_call 14; first
        | ((with_reducible refine (At.op1G (HA.out _) (ownA_good _ _ _) emp_good HG.out (hS.hold (good1 _ _ _) _ _)).mono ?_); rintro e w1 ⟨rfl, hS1⟩; replace hS := hS1; clear hS1; obtain ⟨e1, g1, l1⟩ := hS.own)
        | ((with_reducible refine (At.op2G (HB.out _) (ownA_good _ _ _) (ownA_good _ _ _) emp_good HG.out (hS.hold ((ownA_good _ _ _).star (good1 _ _ _)) _ _)).mono ?_); rintro e w1 ⟨rfl, hS1⟩; replace hS := hS1; clear hS1; obtain ⟨e1, g1, l1⟩ := hS.drop.own))
    | (go_at_call 17; (with_reducible refine (At.op2G (HC.out _) (ownA_good _ _ _) (ownA_good _ _ _) emp_good HG.out hS).mono ?_); rintro e w1 ⟨rfl, hS1⟩; replace hS := hS1; clear hS1; obtain ⟨e1, g1, l1⟩ := hS.drop.own)
    | (go_at_call 20; (with_reducible refine (At.op3G ((HL.out _).g) (ownA_good _ _ _) (ownA_good _ _ _) (ownA_good _ _ _) emp_good HG.out (hS.hold ((ownA_good _ _ _).star ((ownA_good _ _ _).star (good1 _ _ _))) _ _)).mono ?_); rintro e w1 ⟨rfl, hS1⟩; replace hS := hS1; clear hS1)
    | (go_at_call 16; (with_reducible refine (lnum _ _).mono ?_); rintro e w1 ⟨rfl, rfl⟩))
  go_ret
  exact ⟨rfl, hS.bel⟩
set_option maxRecDepth 100000 in
set_option maxHeartbeats 8000000 in
theorem rforms3 (S : ByteArray) (T : List ByteArray) (n x : Int) (m : Nat) (m1 : m ≤ 1023) (hm : bits .and .i64 x 1023 = (m : Int)) (hj : (IntKind.u64.wrap n).tmod 9 = 3) (h64 : S.size = 64) (hT : T.length = 1)
    (ha : ∀ p : Nat, DoesG Tryd.prog (bookA p 1 []) 14 #[.pointer (some ⟨p, 0, none⟩), .agg gdV] (.returned (.tuple #[.string S, .int .i64 0, .int .i64 0])) (bookA p 1 T))
    (hb : ∀ p : Nat, DoesG Tryd.prog (bookA p 1 T) 14 #[.pointer (some ⟨p, 0, none⟩), .agg #[.int .i64 1073741823, .int .i64 (1073741823 + (1 + (m : Int))), .int .i64 1073741823, .int .i64 6, .int .i64 0, .int .i64 1073741823, .int .i64 0, .int .i64 1073741823, .int .i64 4, .int .i64 0, .int .i64 1048575]] (.returned (.tuple #[.string ⟨#[]⟩, .int .i64 0, .int .i64 900])) (bookA p 1 T))
    (hc : ∀ p : Nat, DoesG Tryd.prog (bookA p 1 T) 17 #[.pointer (some ⟨p, 0, none⟩), .string S, .int .i64 1073741823, .int .i64 1073741823] (.returned (.tuple #[.agg gdV, .int .i64 0, .int .i64 0])) (bookA p 1 T)) (w : World) (hg : Gd w) :
    Calls Tryd.prog 5 #[.int .i64 n, .int .i64 x] w fun e w' => e = .returned (.bool true) ∧ Below w.heap.size w w' := by
  have HA := Lib.hid ha
  have HB := Lib.hid hb
  have HC := Lib.hid hc
  have HG := Lib.hid hg
  have HW := Lib.hid (awake9 w hg)
  have HL := Lib.hid (fun p => dlen p 1 T)
  rw [hT] at HL
  clear ha hb hc hg
  go_enter Tryd.func5, Tryd.ntmps5
  go_wp2_with (first
    | (go_at_call 13; (with_reducible refine (HW.out).mono ?_); rintro e w1 ⟨rfl, hb0⟩; have hS0 := At.none hb0; clear hb0)
    | (go_at_call 21; (with_reducible refine (bnew_ok 1 _ (by omega) (by omega)).mono ?_); rintro e w1 ⟨p, rfl, hb⟩; have hS := At.add emp_good hS0 hb; clear hb hS0)
    | (go_at_call 14; first
        | ((with_reducible refine (At.op1G (HA.out _) (ownA_good _ _ _) emp_good HG.out (hS.hold (good1 _ _ _) _ _)).mono ?_); rintro e w1 ⟨rfl, hS1⟩; replace hS := hS1; clear hS1; obtain ⟨e1, g1, l1⟩ := hS.own)
        | ((with_reducible refine (At.op2G (HB.out _) (ownA_good _ _ _) (ownA_good _ _ _) emp_good HG.out (hS.hold ((ownA_good _ _ _).star (good1 _ _ _)) _ _)).mono ?_); rintro e w1 ⟨rfl, hS1⟩; replace hS := hS1; clear hS1; obtain ⟨e1, g1, l1⟩ := hS.drop.own))
    | (go_at_call 17; (with_reducible refine (At.op2G (HC.out _) (ownA_good _ _ _) (ownA_good _ _ _) emp_good HG.out hS).mono ?_); rintro e w1 ⟨rfl, hS1⟩; replace hS := hS1; clear hS1; obtain ⟨e1, g1, l1⟩ := hS.drop.own)
    | (go_at_call 20; (with_reducible refine (At.op3G ((HL.out _).g) (ownA_good _ _ _) (ownA_good _ _ _) (ownA_good _ _ _) emp_good HG.out (hS.hold ((ownA_good _ _ _).star ((ownA_good _ _ _).star (good1 _ _ _))) _ _)).mono ?_); rintro e w1 ⟨rfl, hS1⟩; replace hS := hS1; clear hS1)
    | (go_at_call 16; (with_reducible refine (lnum _ _).mono ?_); rintro e w1 ⟨rfl, rfl⟩))
  go_ret
  exact ⟨rfl, hS.bel⟩
set_option maxRecDepth 100000 in
set_option maxHeartbeats 8000000 in
theorem rforms4 (S : ByteArray) (T : List ByteArray) (n x : Int) (m : Nat) (m1 : m ≤ 1023) (hm : bits .and .i64 x 1023 = (m : Int)) (hj : (IntKind.u64.wrap n).tmod 9 = 4) (h64 : S.size = 64) (hT : T.length = 1)
    (ha : ∀ p : Nat, DoesG Tryd.prog (bookA p 1 []) 14 #[.pointer (some ⟨p, 0, none⟩), .agg gdV] (.returned (.tuple #[.string S, .int .i64 0, .int .i64 0])) (bookA p 1 T))
    (hb : ∀ p : Nat, DoesG Tryd.prog (bookA p 1 T) 14 #[.pointer (some ⟨p, 0, none⟩), .agg #[.int .i64 1073741823, .int .i64 1073741823, .int .i64 (-(1 + (m : Int))), .int .i64 6, .int .i64 0, .int .i64 1073741823, .int .i64 0, .int .i64 1073741823, .int .i64 4, .int .i64 0, .int .i64 1048575]] (.returned (.tuple #[.string ⟨#[]⟩, .int .i64 0, .int .i64 900])) (bookA p 1 T))
    (hc : ∀ p : Nat, DoesG Tryd.prog (bookA p 1 T) 17 #[.pointer (some ⟨p, 0, none⟩), .string S, .int .i64 1073741823, .int .i64 1073741823] (.returned (.tuple #[.agg gdV, .int .i64 0, .int .i64 0])) (bookA p 1 T)) (w : World) (hg : Gd w) :
    Calls Tryd.prog 5 #[.int .i64 n, .int .i64 x] w fun e w' => e = .returned (.bool true) ∧ Below w.heap.size w w' := by
  have HA := Lib.hid ha
  have HB := Lib.hid hb
  have HC := Lib.hid hc
  have HG := Lib.hid hg
  have HW := Lib.hid (awake9 w hg)
  have HL := Lib.hid (fun p => dlen p 1 T)
  rw [hT] at HL
  clear ha hb hc hg
  go_enter Tryd.func5, Tryd.ntmps5
  go_wp2_with (first
    | (go_at_call 13; (with_reducible refine (HW.out).mono ?_); rintro e w1 ⟨rfl, hb0⟩; have hS0 := At.none hb0; clear hb0)
    | (go_at_call 21; (with_reducible refine (bnew_ok 1 _ (by omega) (by omega)).mono ?_); rintro e w1 ⟨p, rfl, hb⟩; have hS := At.add emp_good hS0 hb; clear hb hS0)
    | (go_at_call 14; first
        | ((with_reducible refine (At.op1G (HA.out _) (ownA_good _ _ _) emp_good HG.out (hS.hold (good1 _ _ _) _ _)).mono ?_); rintro e w1 ⟨rfl, hS1⟩; replace hS := hS1; clear hS1; obtain ⟨e1, g1, l1⟩ := hS.own)
        | ((with_reducible refine (At.op2G (HB.out _) (ownA_good _ _ _) (ownA_good _ _ _) emp_good HG.out (hS.hold ((ownA_good _ _ _).star (good1 _ _ _)) _ _)).mono ?_); rintro e w1 ⟨rfl, hS1⟩; replace hS := hS1; clear hS1; obtain ⟨e1, g1, l1⟩ := hS.drop.own))
    | (go_at_call 17; (with_reducible refine (At.op2G (HC.out _) (ownA_good _ _ _) (ownA_good _ _ _) emp_good HG.out hS).mono ?_); rintro e w1 ⟨rfl, hS1⟩; replace hS := hS1; clear hS1; obtain ⟨e1, g1, l1⟩ := hS.drop.own)
    | (go_at_call 20; (with_reducible refine (At.op3G ((HL.out _).g) (ownA_good _ _ _) (ownA_good _ _ _) (ownA_good _ _ _) emp_good HG.out (hS.hold ((ownA_good _ _ _).star ((ownA_good _ _ _).star (good1 _ _ _))) _ _)).mono ?_); rintro e w1 ⟨rfl, hS1⟩; replace hS := hS1; clear hS1)
    | (go_at_call 16; (with_reducible refine (lnum _ _).mono ?_); rintro e w1 ⟨rfl, rfl⟩))
  go_ret
  exact ⟨rfl, hS.bel⟩
set_option maxRecDepth 100000 in
set_option maxHeartbeats 8000000 in
theorem rforms5 (S : ByteArray) (T : List ByteArray) (n x : Int) (m : Nat) (m1 : m ≤ 1023) (hm : bits .and .i64 x 1023 = (m : Int)) (hj : (IntKind.u64.wrap n).tmod 9 = 5) (h64 : S.size = 64) (hT : T.length = 1)
    (ha : ∀ p : Nat, DoesG Tryd.prog (bookA p 1 []) 14 #[.pointer (some ⟨p, 0, none⟩), .agg gdV] (.returned (.tuple #[.string S, .int .i64 0, .int .i64 0])) (bookA p 1 T))
    (hb : ∀ p : Nat, DoesG Tryd.prog (bookA p 1 T) 14 #[.pointer (some ⟨p, 0, none⟩), .agg #[.int .i64 1073741823, .int .i64 1073741823, .int .i64 (1073741823 + (1 + (m : Int))), .int .i64 6, .int .i64 0, .int .i64 1073741823, .int .i64 0, .int .i64 1073741823, .int .i64 4, .int .i64 0, .int .i64 1048575]] (.returned (.tuple #[.string ⟨#[]⟩, .int .i64 0, .int .i64 900])) (bookA p 1 T))
    (hc : ∀ p : Nat, DoesG Tryd.prog (bookA p 1 T) 17 #[.pointer (some ⟨p, 0, none⟩), .string S, .int .i64 1073741823, .int .i64 1073741823] (.returned (.tuple #[.agg gdV, .int .i64 0, .int .i64 0])) (bookA p 1 T)) (w : World) (hg : Gd w) :
    Calls Tryd.prog 5 #[.int .i64 n, .int .i64 x] w fun e w' => e = .returned (.bool true) ∧ Below w.heap.size w w' := by
  have HA := Lib.hid ha
  have HB := Lib.hid hb
  have HC := Lib.hid hc
  have HG := Lib.hid hg
  have HW := Lib.hid (awake9 w hg)
  have HL := Lib.hid (fun p => dlen p 1 T)
  rw [hT] at HL
  clear ha hb hc hg
  go_enter Tryd.func5, Tryd.ntmps5
  go_wp2_with (first
    | (go_at_call 13; (with_reducible refine (HW.out).mono ?_); rintro e w1 ⟨rfl, hb0⟩; have hS0 := At.none hb0; clear hb0)
    | (go_at_call 21; (with_reducible refine (bnew_ok 1 _ (by omega) (by omega)).mono ?_); rintro e w1 ⟨p, rfl, hb⟩; have hS := At.add emp_good hS0 hb; clear hb hS0)
    | (go_at_call 14; first
        | ((with_reducible refine (At.op1G (HA.out _) (ownA_good _ _ _) emp_good HG.out (hS.hold (good1 _ _ _) _ _)).mono ?_); rintro e w1 ⟨rfl, hS1⟩; replace hS := hS1; clear hS1; obtain ⟨e1, g1, l1⟩ := hS.own)
        | ((with_reducible refine (At.op2G (HB.out _) (ownA_good _ _ _) (ownA_good _ _ _) emp_good HG.out (hS.hold ((ownA_good _ _ _).star (good1 _ _ _)) _ _)).mono ?_); rintro e w1 ⟨rfl, hS1⟩; replace hS := hS1; clear hS1; obtain ⟨e1, g1, l1⟩ := hS.drop.own))
    | (go_at_call 17; (with_reducible refine (At.op2G (HC.out _) (ownA_good _ _ _) (ownA_good _ _ _) emp_good HG.out hS).mono ?_); rintro e w1 ⟨rfl, hS1⟩; replace hS := hS1; clear hS1; obtain ⟨e1, g1, l1⟩ := hS.drop.own)
    | (go_at_call 20; (with_reducible refine (At.op3G ((HL.out _).g) (ownA_good _ _ _) (ownA_good _ _ _) (ownA_good _ _ _) emp_good HG.out (hS.hold ((ownA_good _ _ _).star ((ownA_good _ _ _).star (good1 _ _ _))) _ _)).mono ?_); rintro e w1 ⟨rfl, hS1⟩; replace hS := hS1; clear hS1)
    | (go_at_call 16; (with_reducible refine (lnum _ _).mono ?_); rintro e w1 ⟨rfl, rfl⟩))
  go_ret
  exact ⟨rfl, hS.bel⟩
set_option maxRecDepth 100000 in
set_option maxHeartbeats 8000000 in
theorem rforms6 (S : ByteArray) (T : List ByteArray) (n x : Int) (m : Nat) (m1 : m ≤ 1023) (hm : bits .and .i64 x 1023 = (m : Int)) (hj : (IntKind.u64.wrap n).tmod 9 = 6) (h64 : S.size = 64) (hT : T.length = 1)
    (ha : ∀ p : Nat, DoesG Tryd.prog (bookA p 1 []) 14 #[.pointer (some ⟨p, 0, none⟩), .agg gdV] (.returned (.tuple #[.string S, .int .i64 0, .int .i64 0])) (bookA p 1 T))
    (hb : ∀ p : Nat, DoesG Tryd.prog (bookA p 1 T) 14 #[.pointer (some ⟨p, 0, none⟩), .agg #[.int .i64 1073741823, .int .i64 1073741823, .int .i64 1073741823, .int .i64 (9 + (1 + (m : Int))), .int .i64 0, .int .i64 1073741823, .int .i64 0, .int .i64 1073741823, .int .i64 4, .int .i64 0, .int .i64 1048575]] (.returned (.tuple #[.string ⟨#[]⟩, .int .i64 0, .int .i64 900])) (bookA p 1 T))
    (hc : ∀ p : Nat, DoesG Tryd.prog (bookA p 1 T) 17 #[.pointer (some ⟨p, 0, none⟩), .string S, .int .i64 1073741823, .int .i64 1073741823] (.returned (.tuple #[.agg gdV, .int .i64 0, .int .i64 0])) (bookA p 1 T)) (w : World) (hg : Gd w) :
    Calls Tryd.prog 5 #[.int .i64 n, .int .i64 x] w fun e w' => e = .returned (.bool true) ∧ Below w.heap.size w w' := by
  have HA := Lib.hid ha
  have HB := Lib.hid hb
  have HC := Lib.hid hc
  have HG := Lib.hid hg
  have HW := Lib.hid (awake9 w hg)
  have HL := Lib.hid (fun p => dlen p 1 T)
  rw [hT] at HL
  clear ha hb hc hg
  go_enter Tryd.func5, Tryd.ntmps5
  go_wp2_with (first
    | (go_at_call 13; (with_reducible refine (HW.out).mono ?_); rintro e w1 ⟨rfl, hb0⟩; have hS0 := At.none hb0; clear hb0)
    | (go_at_call 21; (with_reducible refine (bnew_ok 1 _ (by omega) (by omega)).mono ?_); rintro e w1 ⟨p, rfl, hb⟩; have hS := At.add emp_good hS0 hb; clear hb hS0)
    | (go_at_call 14; first
        | ((with_reducible refine (At.op1G (HA.out _) (ownA_good _ _ _) emp_good HG.out (hS.hold (good1 _ _ _) _ _)).mono ?_); rintro e w1 ⟨rfl, hS1⟩; replace hS := hS1; clear hS1; obtain ⟨e1, g1, l1⟩ := hS.own)
        | ((with_reducible refine (At.op2G (HB.out _) (ownA_good _ _ _) (ownA_good _ _ _) emp_good HG.out (hS.hold ((ownA_good _ _ _).star (good1 _ _ _)) _ _)).mono ?_); rintro e w1 ⟨rfl, hS1⟩; replace hS := hS1; clear hS1; obtain ⟨e1, g1, l1⟩ := hS.drop.own))
    | (go_at_call 17; (with_reducible refine (At.op2G (HC.out _) (ownA_good _ _ _) (ownA_good _ _ _) emp_good HG.out hS).mono ?_); rintro e w1 ⟨rfl, hS1⟩; replace hS := hS1; clear hS1; obtain ⟨e1, g1, l1⟩ := hS.drop.own)
    | (go_at_call 20; (with_reducible refine (At.op3G ((HL.out _).g) (ownA_good _ _ _) (ownA_good _ _ _) (ownA_good _ _ _) emp_good HG.out (hS.hold ((ownA_good _ _ _).star ((ownA_good _ _ _).star (good1 _ _ _))) _ _)).mono ?_); rintro e w1 ⟨rfl, hS1⟩; replace hS := hS1; clear hS1)
    | (go_at_call 16; (with_reducible refine (lnum _ _).mono ?_); rintro e w1 ⟨rfl, rfl⟩))
  go_ret
  exact ⟨rfl, hS.bel⟩
set_option maxRecDepth 100000 in
set_option maxHeartbeats 8000000 in
theorem rforms7 (S : ByteArray) (T : List ByteArray) (n x : Int) (m : Nat) (m1 : m ≤ 1023) (hm : bits .and .i64 x 1023 = (m : Int)) (hj : (IntKind.u64.wrap n).tmod 9 = 7) (h64 : S.size = 64) (hT : T.length = 1)
    (ha : ∀ p : Nat, DoesG Tryd.prog (bookA p 1 []) 14 #[.pointer (some ⟨p, 0, none⟩), .agg gdV] (.returned (.tuple #[.string S, .int .i64 0, .int .i64 0])) (bookA p 1 T))
    (hb : ∀ p : Nat, DoesG Tryd.prog (bookA p 1 T) 14 #[.pointer (some ⟨p, 0, none⟩), .agg #[.int .i64 1073741823, .int .i64 1073741823, .int .i64 1073741823, .int .i64 6, .int .i64 (1 + (m : Int)), .int .i64 1073741823, .int .i64 0, .int .i64 1073741823, .int .i64 4, .int .i64 0, .int .i64 1048575]] (.returned (.tuple #[.string ⟨#[]⟩, .int .i64 0, .int .i64 900])) (bookA p 1 T))
    (hc : ∀ p : Nat, DoesG Tryd.prog (bookA p 1 T) 17 #[.pointer (some ⟨p, 0, none⟩), .string S, .int .i64 1073741823, .int .i64 1073741823] (.returned (.tuple #[.agg gdV, .int .i64 0, .int .i64 0])) (bookA p 1 T)) (w : World) (hg : Gd w) :
    Calls Tryd.prog 5 #[.int .i64 n, .int .i64 x] w fun e w' => e = .returned (.bool true) ∧ Below w.heap.size w w' := by
  have HA := Lib.hid ha
  have HB := Lib.hid hb
  have HC := Lib.hid hc
  have HG := Lib.hid hg
  have HW := Lib.hid (awake9 w hg)
  have HL := Lib.hid (fun p => dlen p 1 T)
  rw [hT] at HL
  clear ha hb hc hg
  go_enter Tryd.func5, Tryd.ntmps5
  go_wp2_with (first
    | (go_at_call 13; (with_reducible refine (HW.out).mono ?_); rintro e w1 ⟨rfl, hb0⟩; have hS0 := At.none hb0; clear hb0)
    | (go_at_call 21; (with_reducible refine (bnew_ok 1 _ (by omega) (by omega)).mono ?_); rintro e w1 ⟨p, rfl, hb⟩; have hS := At.add emp_good hS0 hb; clear hb hS0)
    | (go_at_call 14; first
        | ((with_reducible refine (At.op1G (HA.out _) (ownA_good _ _ _) emp_good HG.out (hS.hold (good1 _ _ _) _ _)).mono ?_); rintro e w1 ⟨rfl, hS1⟩; replace hS := hS1; clear hS1; obtain ⟨e1, g1, l1⟩ := hS.own)
        | ((with_reducible refine (At.op2G (HB.out _) (ownA_good _ _ _) (ownA_good _ _ _) emp_good HG.out (hS.hold ((ownA_good _ _ _).star (good1 _ _ _)) _ _)).mono ?_); rintro e w1 ⟨rfl, hS1⟩; replace hS := hS1; clear hS1; obtain ⟨e1, g1, l1⟩ := hS.drop.own))
    | (go_at_call 17; (with_reducible refine (At.op2G (HC.out _) (ownA_good _ _ _) (ownA_good _ _ _) emp_good HG.out hS).mono ?_); rintro e w1 ⟨rfl, hS1⟩; replace hS := hS1; clear hS1; obtain ⟨e1, g1, l1⟩ := hS.drop.own)
    | (go_at_call 20; (with_reducible refine (At.op3G ((HL.out _).g) (ownA_good _ _ _) (ownA_good _ _ _) (ownA_good _ _ _) emp_good HG.out (hS.hold ((ownA_good _ _ _).star ((ownA_good _ _ _).star (good1 _ _ _))) _ _)).mono ?_); rintro e w1 ⟨rfl, hS1⟩; replace hS := hS1; clear hS1)
    | (go_at_call 16; (with_reducible refine (lnum _ _).mono ?_); rintro e w1 ⟨rfl, rfl⟩))
  go_ret
  exact ⟨rfl, hS.bel⟩
set_option maxRecDepth 100000 in
set_option maxHeartbeats 8000000 in
theorem rforms8 (S : ByteArray) (T : List ByteArray) (n x : Int) (m : Nat) (m1 : m ≤ 1023) (hm : bits .and .i64 x 1023 = (m : Int)) (hj : (IntKind.u64.wrap n).tmod 9 = 8) (h64 : S.size = 64) (hT : T.length = 1)
    (ha : ∀ p : Nat, DoesG Tryd.prog (bookA p 1 []) 14 #[.pointer (some ⟨p, 0, none⟩), .agg gdV] (.returned (.tuple #[.string S, .int .i64 0, .int .i64 0])) (bookA p 1 T))
    (hb : ∀ p : Nat, DoesG Tryd.prog (bookA p 1 T) 14 #[.pointer (some ⟨p, 0, none⟩), .agg #[.int .i64 (1073741823 - (1 + (m : Int))), .int .i64 1073741823, .int .i64 1073741823, .int .i64 6, .int .i64 0, .int .i64 1073741823, .int .i64 0, .int .i64 1073741823, .int .i64 4, .int .i64 0, .int .i64 1048575]] (.returned (.tuple #[.string ⟨#[]⟩, .int .i64 0, .int .i64 900])) (bookA p 1 T))
    (hc : ∀ p : Nat, DoesG Tryd.prog (bookA p 1 T) 17 #[.pointer (some ⟨p, 0, none⟩), .string S, .int .i64 1073741823, .int .i64 1073741823] (.returned (.tuple #[.agg gdV, .int .i64 0, .int .i64 0])) (bookA p 1 T)) (w : World) (hg : Gd w) :
    Calls Tryd.prog 5 #[.int .i64 n, .int .i64 x] w fun e w' => e = .returned (.bool true) ∧ Below w.heap.size w w' := by
  have HA := Lib.hid ha
  have HB := Lib.hid hb
  have HC := Lib.hid hc
  have HG := Lib.hid hg
  have HW := Lib.hid (awake9 w hg)
  have HL := Lib.hid (fun p => dlen p 1 T)
  rw [hT] at HL
  clear ha hb hc hg
  go_enter Tryd.func5, Tryd.ntmps5
  go_wp2_with (first
    | (go_at_call 13; (with_reducible refine (HW.out).mono ?_); rintro e w1 ⟨rfl, hb0⟩; have hS0 := At.none hb0; clear hb0)
    | (go_at_call 21; (with_reducible refine (bnew_ok 1 _ (by omega) (by omega)).mono ?_); rintro e w1 ⟨p, rfl, hb⟩; have hS := At.add emp_good hS0 hb; clear hb hS0)
    | (go_at_call 14; first
        | ((with_reducible refine (At.op1G (HA.out _) (ownA_good _ _ _) emp_good HG.out (hS.hold (good1 _ _ _) _ _)).mono ?_); rintro e w1 ⟨rfl, hS1⟩; replace hS := hS1; clear hS1; obtain ⟨e1, g1, l1⟩ := hS.own)
        | ((with_reducible refine (At.op2G (HB.out _) (ownA_good _ _ _) (ownA_good _ _ _) emp_good HG.out (hS.hold ((ownA_good _ _ _).star (good1 _ _ _)) _ _)).mono ?_); rintro e w1 ⟨rfl, hS1⟩; replace hS := hS1; clear hS1; obtain ⟨e1, g1, l1⟩ := hS.drop.own))
    | (go_at_call 17; (with_reducible refine (At.op2G (HC.out _) (ownA_good _ _ _) (ownA_good _ _ _) emp_good HG.out hS).mono ?_); rintro e w1 ⟨rfl, hS1⟩; replace hS := hS1; clear hS1; obtain ⟨e1, g1, l1⟩ := hS.drop.own)
    | (go_at_call 20; (with_reducible refine (At.op3G ((HL.out _).g) (ownA_good _ _ _) (ownA_good _ _ _) (ownA_good _ _ _) emp_good HG.out (hS.hold ((ownA_good _ _ _).star ((ownA_good _ _ _).star (good1 _ _ _))) _ _)).mono ?_); rintro e w1 ⟨rfl, hS1⟩; replace hS := hS1; clear hS1)
    | (go_at_call 16; (with_reducible refine (lnum _ _).mono ?_); rintro e w1 ⟨rfl, rfl⟩))
  go_ret
  exact ⟨rfl, hS.bel⟩
end Go.Proofs.YtiebpjkppjollaaDoor

namespace Go.Proofs.YtiebpjkppjollaaDoor
open Go Go.RowKit

def rfG : Rc := ⟨1073741823, 1073741823, 1073741823, ⟨6, 0, 1073741823, 0, 1073741823, 4, 0, 1048575⟩⟩
def rfT : List ByteArray := rcT 1 [] rfG
def rfS : ByteArray := rcS 1 [] rfG
theorem rfT_eq : rfT = [rfG.tm] := by kernel_rfl
theorem rf_put {r : Rc} (h : r.may = false ∨ (r.may = true ∧ r ≠ rfG)) (p : Nat) : DoesG Tryd.prog (bookA p 1 rfT) 14 #[.pointer (some ⟨p, 0, none⟩), r.val] (.returned (.tuple #[.string ⟨#[]⟩, .int .i64 0, .int .i64 900])) (bookA p 1 rfT) := by
  have hg : rfG.may = true := by kernel_rfl
  have h1 : rcOk 1 rfT r = false ∧ rcT 1 rfT r = rfT := by
    rcases h with h | ⟨h, hne⟩
    · exact ⟨by unfold rcOk; rw [h]; rfl, by unfold rcT; rw [h]; rfl⟩
    · have hn : isB rfT r.tm = false := (isB_not _ _).2 (by
        rw [rfT_eq]
        intro hm
        simp at hm
        exact hne (Rc.tm_inj h hg hm))
      have hl : ¬ (rfT.length : Int) < 1 := by rw [rfT_eq]; decide
      have hE : nmE 1 rfT r.tm = 201 := by unfold nmE; rw [r.tm_ok, hn, if_neg hl]; rfl
      have hT : nmT 1 rfT r.tm = rfT := by unfold nmT; rw [r.tm_ok, hn, if_neg hl]; rfl
      exact ⟨by unfold rcOk; rw [hE]; simp, by unfold rcT; rw [h, hT]; rfl⟩
  have hd := dpput p 1 rfT r (by rw [rfT_eq]; decide)
  rw [show rcS 1 rfT r = ⟨#[]⟩ by unfold rcS; rw [h1.1]; rfl, show rcN 1 rfT r = 0 by unfold rcN; rw [h1.1]; rfl, show rcE 1 rfT r = 900 by unfold rcE; rw [h1.1]; rfl, h1.2] at hd
  exact hd
theorem rf_no {r : Rc} (h : ¬ (1 ≤ r.seq ∧ okNum r.seq = true ∧ 1 ≤ r.boot ∧ okNum r.boot = true ∧ okNum r.prev = true ∧ r.ev.may = true)) : r.may = false := by
  cases hm : r.may with
  | false => rfl
  | true => exact absurd ((Rc.may_iff r).1 hm) h
theorem okNum_not {x : Int} (h : x < 0 ∨ 1073741823 < x) : okNum x ≠ true := by unfold okNum; simp; omega
theorem Ev.may_part {p : Ev} (h : p.may = true) : p.part = some p := by unfold Ev.may at h; simp at h; exact h.1.2
theorem rf_kind (m : Nat) (h : Ev.may { rfG.ev with kind := 9 + (1 + (m : Int)) } = true) : False := by
  have hp := Ev.may_part h
  unfold Ev.part at hp
  rw [if_neg (by simp; omega), if_neg (by simp; omega), if_neg (by simp; omega), if_neg (by simp; omega), if_neg (by simp; omega), if_neg (by simp; omega), if_neg (by simp; omega), if_neg (by simp; omega), if_neg (by simp; omega), if_neg (by simp; omega)] at hp
  cases hp
theorem rf_user (m : Nat) (h : Ev.may { rfG.ev with user := 1 + (m : Int) } = true) : False := by
  have hp := Ev.may_part h
  have hu := congrArg (fun o => (o.map Ev.user).getD 0) hp
  simp [Ev.part, rfG] at hu
  omega
theorem rforms_walk (n x : Int) (w : World) (hg : Gd w) : Calls Tryd.prog 5 #[.int .i64 n, .int .i64 x] w fun e w' => e = .returned (.bool true) ∧ Below w.heap.size w w' := by
  have hu0 : 0 ≤ IntKind.u64.wrap n := by rw [IntKind.wrap_u64]; omega
  have hm := i64_mask x 10 (by omega)
  rw [show ((2 ^ 10 - 1 : Nat) : Int) = 1023 from by decide, show ((2 ^ 10 : Nat) : Int) = 1024 from by decide] at hm
  obtain ⟨m, hmm⟩ : ∃ m : Nat, x % 1024 = (m : Int) := ⟨(x % 1024).toNat, by omega⟩
  rw [hmm] at hm
  have m1 : m ≤ 1023 := by omega
  have ca : ∀ p : Nat, _ := fun p => (dpput p 1 [] rfG (by decide)).to (v2 := .returned (.tuple #[.string rfS, .int .i64 0, .int .i64 0])) (A2 := bookA p 1 rfT) (by kernel_rfl) rfl
  have cc : ∀ p : Nat, _ := fun p => (dpget p 1 rfT rfS 1073741823 1073741823 (by decide +kernel)).to (v2 := .returned (.tuple #[.agg gdV, .int .i64 0, .int .i64 0])) (A2 := bookA p 1 rfT) (by kernel_rfl) rfl
  have h64 : rfS.size = 64 := by decide +kernel
  have hT : rfT.length = 1 := by rw [rfT_eq]; rfl
  obtain ⟨j, hj, h9⟩ : ∃ j : Nat, (IntKind.u64.wrap n).tmod 9 = (j : Int) ∧ j < 9 := ⟨((IntKind.u64.wrap n) % 9).toNat, by rw [Int.tmod_eq_emod_of_nonneg hu0]; omega, by omega⟩
  match j, h9, hj with
  | 0, _, hj => exact rforms0 rfS rfT n x m m1 hm hj h64 hT ca (rf_put (r := { rfG with seq := 1 - (1 + (m : Int)) }) (.inl (rf_no fun h => by have := h.1; simp at this; omega))) cc w hg
  | 1, _, hj => exact rforms1 rfS rfT n x m m1 hm hj h64 hT ca (rf_put (r := { rfG with seq := 1073741823 + (1 + (m : Int)) }) (.inl (rf_no fun h => okNum_not (.inr (by simp; omega)) h.2.1))) cc w hg
  | 2, _, hj => exact rforms2 rfS rfT n x m m1 hm hj h64 hT ca (rf_put (r := { rfG with boot := 1 - (1 + (m : Int)) }) (.inl (rf_no fun h => by have := h.2.2.1; simp at this; omega))) cc w hg
  | 3, _, hj => exact rforms3 rfS rfT n x m m1 hm hj h64 hT ca (rf_put (r := { rfG with boot := 1073741823 + (1 + (m : Int)) }) (.inl (rf_no fun h => okNum_not (.inr (by simp; omega)) h.2.2.2.1))) cc w hg
  | 4, _, hj => exact rforms4 rfS rfT n x m m1 hm hj h64 hT ca (rf_put (r := { rfG with prev := -(1 + (m : Int)) }) (.inl (rf_no fun h => okNum_not (.inl (by simp; omega)) h.2.2.2.2.1))) cc w hg
  | 5, _, hj => exact rforms5 rfS rfT n x m m1 hm hj h64 hT ca (rf_put (r := { rfG with prev := 1073741823 + (1 + (m : Int)) }) (.inl (rf_no fun h => okNum_not (.inr (by simp; omega)) h.2.2.2.2.1))) cc w hg
  | 6, _, hj => exact rforms6 rfS rfT n x m m1 hm hj h64 hT ca (rf_put (r := { rfG with ev := { rfG.ev with kind := 9 + (1 + (m : Int)) } }) (.inl (rf_no fun h => rf_kind m h.2.2.2.2.2))) cc w hg
  | 7, _, hj => exact rforms7 rfS rfT n x m m1 hm hj h64 hT ca (rf_put (r := { rfG with ev := { rfG.ev with user := 1 + (m : Int) } }) (.inl (rf_no fun h => rf_user m h.2.2.2.2.2))) cc w hg
  | 8, _, hj => exact rforms8 rfS rfT n x m m1 hm hj h64 hT ca (rf_put (r := { rfG with seq := 1073741823 - (1 + (m : Int)) }) (by
      by_cases hmay : ({ rfG with seq := 1073741823 - (1 + (m : Int)) } : Rc).may = true
      · exact .inr ⟨hmay, fun e => by have := congrArg Rc.seq e; simp [rfG] at this; omega⟩
      · exact .inl (by simpa using hmay))) cc w hg
end Go.Proofs.YtiebpjkppjollaaDoor

