/- The walk of Rings: at every book, epochs, now and keep the calls of package ring answer as the reference's. No condition. -/
import Derived.Test.YtcfibjfhmfdmkaaRgaw
import Derived.Test.YtcfibjfhmfdmkaaRgr
import Derived.Test.YtcfibjfhmfdmkaaIArg
namespace Go.Proofs.Ytcfibjfhmfdmkaa
open Go Go.RowKit Go.Maps

theorem same_of {P : Program} {f : FuncId} {args : Array Value} {w : World} {v : Ending} (h : Calls P f args w fun e w' => e = v ∧ w = w') : Calls P f args w fun e w' => e = v ∧ w' = w :=
  h.mono fun _ _ ⟨a, b⟩ => ⟨a, b.symm⟩

set_option maxRecDepth 100000 in
theorem rings_bad (most now keep : Int) (ao : Option Addr) (cap n : Nat) (w : World) (h : most < 1 ∨ 65536 < most) :
    Calls Try.prog 3 #[.int .i64 most, .slice ao n cap, .int .i64 now, .int .i64 keep] w fun e w' => e = .returned (.bool true) ∧ Below w.heap.size w w' := by
  have Hb := Lib.hid (fun a n c w => twin_bad14 most a n c w h)
  clear h
  go_enter Try.func3, Try.ntmps3
  go_wp2_with (first
    | (go_at_call 5; (with_reducible refine (Hb.out _ _ _ _).mono ?_); rintro e w1 ⟨rfl, rfl⟩)
    | (go_at_call 6; (with_reducible refine (awake14 _).mono ?_); rintro e w1 ⟨rfl, hb1⟩))
  go_ret
  exact ⟨rfl, hb1⟩

set_option maxRecDepth 100000 in
set_option maxHeartbeats 8000000 in
theorem rings_ok (most now keep : Int) (ao : Option Addr) (cap : Nat) (zs : List Int) (w : World) (hZ : IArg w ao zs) (h1 : 1 ≤ most) (h2 : most ≤ 65536) :
    Calls Try.prog 3 #[.int .i64 most, .slice ao zs.length cap, .int .i64 now, .int .i64 keep] w fun e w' => e = .returned (.bool true) ∧ Below w.heap.size w w' := by
  have hfew := hZ.few
  have HZ := Lib.hid hZ
  clear hZ
  go_enter Try.func3, Try.ntmps3
  go_wp2_with (first
    | (go_at_call 5; (with_reducible refine (twin_none14 most _ h1 h2).mono ?_); rintro e w1 ⟨p, q, rfl, hb⟩; have hS := At.start hb; clear hb))
  go_loopw [11] (fun i wr => ∃ (k : Nat) (ts : List ByteArray), k ≤ zs.length ∧ i = .int .i64 k ∧ At w (two p q most ts) wr) (fun i _ => zs.length - (intOf i).toNat)
  case atStart => exact ⟨0, [], Nat.zero_le _, rfl, hS⟩
  case round =>
    clear hS
    obtain ⟨k, ts, hk, rfl, hS⟩ := hrel
    by_cases hlt : k < zs.length ∧ k < 20
    · obtain ⟨hlt, h20⟩ := hlt
      obtain ⟨b, off, z, rfl, hz, hzb, hcz⟩ := HZ.out.at hlt
      obtain ⟨z0, z1⟩ := hzb
      have Hcz := Lib.hid hcz
      have hc := hcz _ hS.bel
      have c1 := pgkey p most ts z z0 z1
      have c2 := rgkey q most ts z z0 z1
      generalize rgX most ts z = X at *
      generalize rgE most ts z = E at *
      generalize rgT most ts z = T at *
      have l1 := fun w => same_of (pglive z now keep _ rfl w)
      have l2 := fun w => same_of (rglive z now keep _ rfl w)
      generalize rgL z now keep = B at *
      have K1 := Lib.hid c1
      have K2 := Lib.hid c2
      have K3 := Lib.hid l1
      have K4 := Lib.hid l2
      clear c1 c2 l1 l2 hcz hz z0 z1
      go_wp2_with (first
        | (go_at_call 7; (with_reducible refine (At.op1 K1.out (refA_good _ _ _) emp_good hS).mono ?_); rintro e w1 ⟨rfl, hS1⟩; replace hS := hS1; clear hS1; have hc := Hcz.out _ hS.bel)
        | (go_at_call 8; (with_reducible refine (At.op0 K2.out (good1 _ _ _) hS).mono ?_); rintro e w1 ⟨rfl, hS1⟩; replace hS := hS1; clear hS1; have hc := Hcz.out _ hS.bel))
      go_big_quiet (first
        | (go_at_call 10; exact Calls.quiet_of_same (K3.out _))
        | (go_at_call 11; exact Calls.quiet_of_same (K4.out _))
        | (go_at_call 9; exact Calls.quiet_of_same (same_of (lnum _ _))))
      go_wp2
      go_roundw
      case rel => exact ⟨k + 1, T, by omega, by go_num, hS.lay (two_good _ _ _ _) (below_drewN _ _)⟩
      case measure => simp [intOf]; omega
    · by_cases hl : k < zs.length
      · have h20 : ¬ k < 20 := fun c => hlt ⟨hl, c⟩
        clear hlt
        go_wp2_with (first
          | (go_at_call 12; (with_reducible refine (asame14 _ _ _ _ hS).mono ?_); rintro e w1 ⟨rfl, hS1⟩; replace hS := hS1; clear hS1)
          | (go_at_call 6; (with_reducible refine (awake14 _).mono ?_); rintro e w1 ⟨rfl, hb1⟩; replace hS := hS.lay (two_good _ _ _ _) hb1; clear hb1))
        go_ret
        exact ⟨rfl, hS.bel⟩
      · obtain rfl : k = zs.length := by omega
        clear hlt hl hk
        go_wp2_with (first
          | (go_at_call 12; (with_reducible refine (asame14 _ _ _ _ hS).mono ?_); rintro e w1 ⟨rfl, hS1⟩; replace hS := hS1; clear hS1)
          | (go_at_call 6; (with_reducible refine (awake14 _).mono ?_); rintro e w1 ⟨rfl, hb1⟩; replace hS := hS.lay (two_good _ _ _ _) hb1; clear hb1))
        go_ret
        exact ⟨rfl, hS.bel⟩

theorem rings_walk (most now keep : Int) (ao : Option Addr) (cap : Nat) (zs : List Int) (w : World) (hZ : IArg w ao zs) :
    Calls Try.prog 3 #[.int .i64 most, .slice ao zs.length cap, .int .i64 now, .int .i64 keep] w fun e w' => e = .returned (.bool true) ∧ Below w.heap.size w w' := by
  by_cases h : 1 ≤ most ∧ most ≤ 65536
  · exact rings_ok most now keep ao cap zs w hZ h.1 h.2
  · exact rings_bad most now keep ao cap zs.length w (by omega)
end Go.Proofs.Ytcfibjfhmfdmkaa
