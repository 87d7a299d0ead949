/- The walk of Books: at every number of terms, row of terms and name it answers true. No condition. -/
import Derived.Test.YtebmineddgpjjaaBarg
namespace Go.Proofs.Ytebmineddgpjjaa
open Go Go.RowKit Go.Maps

theorem books_bad (most name : Int) (ao : Option Addr) (cap n : Nat) (w : World) (h : most < 1 ∨ 65536 < most) :
    Calls Try.prog 3 #[.int .i64 most, .slice ao n cap, .int .i64 name] w fun e w' => e = .returned (.bool true) ∧ Below w.heap.size w w' := by
  have Hb := Lib.hid (fun w => bnew_bad most w h)
  have Hr := Lib.hid (fun w => rnew_bad most w h)
  clear h
  go_enter Try.func3, Try.ntmps3
  go_wp2_with (first
    | (go_at_call 7; (with_reducible refine (Hb.out _).mono ?_); rintro e w1 ⟨rfl, rfl⟩)
    | (go_at_call 8; (with_reducible refine (Hr.out _).mono ?_); rintro e w1 ⟨rfl, rfl⟩)
    | (go_at_call 10; (with_reducible refine (awake2 _).mono ?_); rintro e w1 ⟨rfl, hb1⟩)
    | (go_at_call 9; refine (lnum _ _).mono ?_; rintro e w1 ⟨rfl, rfl⟩))
  go_ret
  exact ⟨rfl, hb1⟩

set_option maxRecDepth 100000 in
set_option maxHeartbeats 4000000 in
theorem books_ok (most name : Int) (ao : Option Addr) (cap : Nat) (ss : List ByteArray) (w : World) (hA : SArg w ao ss) (h1 : 1 ≤ most) (h2 : most ≤ 65536) :
    Calls Try.prog 3 #[.int .i64 most, .slice ao ss.length cap, .int .i64 name] w fun e w' => e = .returned (.bool true) ∧ Below w.heap.size w w' := by
  have hfew := hA.few
  have HA := Lib.hid hA
  clear hA
  have hS := At.none (Below.refl w.heap.size w)
  go_enter Try.func3, Try.ntmps3
  go_wp2_with (first
    | (go_at_call 7; (with_reducible refine (bnew_ok most _ h1 h2).mono ?_); rintro e w1 ⟨p, rfl, hb⟩; replace hS := At.add emp_good hS hb; clear hb)
    | (go_at_call 8; (with_reducible refine (rnew_ok most _ h1 h2).mono ?_); rintro e w1 ⟨q, rfl, hb⟩; replace hS := At.add (good1 _ _ _) hS hb; clear hb)
    | (go_at_call 9; refine (lnum _ _).mono ?_; rintro e w1 ⟨rfl, rfl⟩))
  go_loopw [11] (fun i wr => ∃ (k : Nat) (ts : List ByteArray), k ≤ ss.length ∧ i = .int .i64 k ∧ At w (two p q most ts) wr) (fun i _ => ss.length - (intOf i).toNat)
  case atStart => exact ⟨0, [], Nat.zero_le _, rfl, hS⟩
  case round =>
    clear hS
    obtain ⟨k, ts, hk, rfl, hS⟩ := hrel
    by_cases hlt : k < ss.length
    · by_cases h60 : k < 60
      · obtain ⟨b, off, s, rfl, hs, hsz, hcw⟩ := HA.out.at hlt
        have Hcw := Lib.hid hcw
        have hc := hcw _ hS.bel
        clear hcw hs
        go_wp2_with (first
          | (go_at_call 11; (with_reducible refine (At.op1 (dfind _ _ _ s hsz) (refA_good _ _ _) emp_good hS).mono ?_); rintro e w1 ⟨rfl, hS1⟩; replace hS := hS1; clear hS1; have hc := Hcw.out _ hS.bel)
          | (go_at_call 12; (with_reducible refine (At.op0 (drfind _ _ _ s) (good1 _ _ _) hS).mono ?_); rintro e w1 ⟨rfl, hS1⟩; replace hS := hS1; clear hS1; have hc := Hcw.out _ hS.bel)
          | (go_at_call 13; (with_reducible refine (At.op1 (dname _ _ _ s hsz) (refA_good _ _ _) emp_good hS).mono ?_); rintro e w1 ⟨rfl, hS1⟩; replace hS := hS1; clear hS1; have hc := Hcw.out _ hS.bel)
          | (go_at_call 14; (with_reducible refine (At.op0 (drname _ _ _ s hsz) (good1 _ _ _) hS).mono ?_); rintro e w1 ⟨rfl, hS1⟩; replace hS := hS1; clear hS1; have hc := Hcw.out _ hS.bel)
          | (go_at_call 15; (with_reducible refine (asame _ _ _ _ hS).mono ?_); rintro e w1 ⟨rfl, hS1⟩; replace hS := hS1; clear hS1)
          | (go_at_call 9; refine (lnum _ _).mono ?_; rintro e w1 ⟨rfl, rfl⟩))
        all_goals
          go_roundw
          case rel => exact ⟨k + 1, _, by omega, by go_num, hS⟩
          case measure => simp [intOf]; omega
      · go_wp2_with (first
          | (go_at_call 16; (with_reducible refine (At.op1 (dterm _ _ _ name) (refA_good _ _ _) emp_good hS).mono ?_); rintro e w1 ⟨rfl, hS1⟩; replace hS := hS1; clear hS1)
          | (go_at_call 17; (with_reducible refine (At.op0 (drterm _ _ _ name) (good1 _ _ _) hS).mono ?_); rintro e w1 ⟨rfl, hS1⟩; replace hS := hS1; clear hS1)
          | (go_at_call 10; (with_reducible refine (awake2 _).mono ?_); rintro e w1 ⟨rfl, hb1⟩; replace hS := hS.lay (two_good _ _ _ _) hb1; clear hb1)
          | (go_at_call 9; refine (lnum _ _).mono ?_; rintro e w1 ⟨rfl, rfl⟩))
        go_ret
        exact ⟨rfl, hS.bel⟩
    · go_wp2_with (first
          | (go_at_call 16; (with_reducible refine (At.op1 (dterm _ _ _ name) (refA_good _ _ _) emp_good hS).mono ?_); rintro e w1 ⟨rfl, hS1⟩; replace hS := hS1; clear hS1)
          | (go_at_call 17; (with_reducible refine (At.op0 (drterm _ _ _ name) (good1 _ _ _) hS).mono ?_); rintro e w1 ⟨rfl, hS1⟩; replace hS := hS1; clear hS1)
          | (go_at_call 10; (with_reducible refine (awake2 _).mono ?_); rintro e w1 ⟨rfl, hb1⟩; replace hS := hS.lay (two_good _ _ _ _) hb1; clear hb1)
          | (go_at_call 9; refine (lnum _ _).mono ?_; rintro e w1 ⟨rfl, rfl⟩))
      go_ret
      exact ⟨rfl, hS.bel⟩

theorem books_walk (most name : Int) (ao : Option Addr) (cap : Nat) (ss : List ByteArray) (w : World) (hA : SArg w ao ss) :
    Calls Try.prog 3 #[.int .i64 most, .slice ao ss.length cap, .int .i64 name] w fun e w' => e = .returned (.bool true) ∧ Below w.heap.size w w' := by
  by_cases h : 1 ≤ most ∧ most ≤ 65536
  · exact books_ok most name ao cap ss w hA h.1 h.2
  · exact books_bad most name ao cap ss.length w (by omega)
end Go.Proofs.Ytebmineddgpjjaa
