/- The walk of Totps: at every book, secret, steps, tick and code the calls of package totp answer as the reference's. No condition. -/
import Derived.Test.YtgafgmcdbpdpgaaTpaw
import Derived.Test.YtgafgmcdbpdpgaaTpr
import Derived.Test.YtgafgmcdbpdpgaaIArg
namespace Go.Proofs.Ytgafgmcdbpdpgaa
open Go Go.RowKit Go.Maps

set_option maxRecDepth 100000 in
theorem totps_bad (most sec last tick code : Int) (ao : Option Addr) (cap n : Nat) (w : World) (h : most < 1 ∨ 65536 < most) :
    Calls Try.prog 3 #[.int .i64 most, .int .i64 sec, .slice ao n cap, .int .i64 last, .int .i64 tick, .int .i64 code] w fun e w' => e = .returned (.bool true) ∧ Below w.heap.size w w' := by
  have Hb := Lib.hid (fun a n c w => twin_bad12 most a n c w h)
  clear h
  go_enter Try.func3, Try.ntmps3
  go_wp2_with (first
    | (go_at_call 7; (with_reducible refine (Hb.out _ _ _ _).mono ?_); rintro e w1 ⟨rfl, rfl⟩)
    | (go_at_call 8; (with_reducible refine (awake12 _).mono ?_); rintro e w1 ⟨rfl, hb1⟩))
  go_ret
  exact ⟨rfl, hb1⟩

set_option maxRecDepth 100000 in
set_option maxHeartbeats 8000000 in
theorem totps_ok (most sec last tick code : Int) (ao : Option Addr) (cap : Nat) (zs : List Int) (w : World) (hZ : IArg w ao zs) (h1 : 1 ≤ most) (h2 : most ≤ 65536) (s0 : -9223372036854775808 ≤ sec) (s1 : sec ≤ 9223372036854775807) :
    Calls Try.prog 3 #[.int .i64 most, .int .i64 sec, .slice ao zs.length cap, .int .i64 last, .int .i64 tick, .int .i64 code] w fun e w' => e = .returned (.bool true) ∧ Below w.heap.size w w' := by
  have hfew := hZ.few
  have HZ := Lib.hid hZ
  have C1 := Lib.hid (fun p ts k => ptcode p most ts sec k s0 s1)
  have C2 := Lib.hid (fun p ts k => rtcode p most ts sec k s0 s1)
  have A1 := Lib.hid (fun p ts c => ptaccept p most ts sec last tick c s0 s1)
  have A2 := Lib.hid (fun p ts c => rtaccept p most ts sec last tick c s0 s1)
  clear hZ s0 s1
  go_enter Try.func3, Try.ntmps3
  go_wp2_with (first
    | (go_at_call 7; (with_reducible refine (twin_none12 most _ h1 h2).mono ?_); rintro e w1 ⟨p, q, rfl, hb⟩; have hS := At.start hb; clear hb))
  go_loopw [15] (fun i wr => ∃ (k : Nat) (ts : List ByteArray), k ≤ zs.length ∧ i = .int .i64 k ∧ At w (two p q most ts) wr) (fun i _ => zs.length - (intOf i).toNat)
  case atStart => exact ⟨0, [], Nat.zero_le _, rfl, hS⟩
  case round =>
    clear hS
    obtain ⟨k, ts, hk, rfl, hS⟩ := hrel
    by_cases hlt : k < zs.length ∧ k < 20
    · obtain ⟨hlt, h20⟩ := hlt
      obtain ⟨b, off, z, rfl, hz, hzb, hcz⟩ := HZ.out.at hlt
      have Hcz := Lib.hid hcz
      have hc := hcz _ hS.bel
      have c1 := C1.out p ts z
      have c2 := C2.out q ts z
      generalize tpX most ts sec z = X at *
      generalize tpE most ts sec z = E at *
      generalize tpT most ts sec z = T at *
      have a1 := A1.out p T X
      have a2 := A2.out q T X
      generalize accX T sec last tick X = P at *
      generalize accB T sec last tick X = B at *
      have K1 := Lib.hid c1
      have K2 := Lib.hid c2
      have K3 := Lib.hid a1
      have K4 := Lib.hid a2
      clear c1 c2 a1 a2 hcz hz
      go_wp2_with (first
        | (go_at_call 9; (with_reducible refine (At.op1 K1.out (refA_good _ _ _) emp_good hS).mono ?_); rintro e w1 ⟨rfl, hS1⟩; replace hS := hS1; clear hS1; have hc := Hcz.out _ hS.bel)
        | (go_at_call 10; (with_reducible refine (At.op0 K2.out (good1 _ _ _) hS).mono ?_); rintro e w1 ⟨rfl, hS1⟩; replace hS := hS1; clear hS1; have hc := Hcz.out _ hS.bel)
        | (go_at_call 11; (with_reducible refine (At.op1 K3.out (refA_good _ _ _) emp_good hS).mono ?_); rintro e w1 ⟨rfl, hS1⟩; replace hS := hS1; clear hS1)
        | (go_at_call 12; (with_reducible refine (At.op0 K4.out (good1 _ _ _) hS).mono ?_); rintro e w1 ⟨rfl, hS1⟩; replace hS := hS1; clear hS1)
        | (go_at_call 13; refine (lnum _ _).mono ?_; rintro e w1 ⟨rfl, rfl⟩))
      go_roundw
      case rel => exact ⟨k + 1, T, by omega, by go_num, hS⟩
      case measure => simp [intOf]; omega
    · have a1 := A1.out p ts code
      have a2 := A2.out q ts code
      have t1 := fun w => ptstep tick w
      have t2 := fun w => rtstep tick w
      generalize accX ts sec last tick code = P at *
      generalize accB ts sec last tick code = B at *
      generalize stX tick = D at *
      have K3 := Lib.hid a1
      have K4 := Lib.hid a2
      have K5 := Lib.hid t1
      have K6 := Lib.hid t2
      clear a1 a2 t1 t2 A1 A2 C1 C2
      have tail : ∀ W, At w (two p q most ts) W → True := fun _ _ => trivial
      clear tail
      by_cases hl : k < zs.length
      · have h20 : ¬ k < 20 := fun c => hlt ⟨hl, c⟩
        clear hlt
        go_wp2_with (first
          | (go_at_call 11; (with_reducible refine (At.op1 K3.out (refA_good _ _ _) emp_good hS).mono ?_); rintro e w1 ⟨rfl, hS1⟩; replace hS := hS1; clear hS1)
          | (go_at_call 12; (with_reducible refine (At.op0 K4.out (good1 _ _ _) hS).mono ?_); rintro e w1 ⟨rfl, hS1⟩; replace hS := hS1; clear hS1)
          | (go_at_call 14; (with_reducible refine (K5.out _).mono ?_); rintro e w1 ⟨rfl, rfl⟩)
          | (go_at_call 15; (with_reducible refine (K6.out _).mono ?_); rintro e w1 ⟨rfl, rfl⟩)
          | (go_at_call 16; (with_reducible refine (asame12 _ _ _ _ hS).mono ?_); rintro e w1 ⟨rfl, hS1⟩; replace hS := hS1; clear hS1)
          | (go_at_call 8; (with_reducible refine (awake12 _).mono ?_); rintro e w1 ⟨rfl, hb1⟩; replace hS := hS.lay (two_good _ _ _ _) hb1; clear hb1))
        go_ret
        exact ⟨rfl, hS.bel⟩
      · obtain rfl : k = zs.length := by omega
        clear hlt hl hk
        go_wp2_with (first
          | (go_at_call 11; (with_reducible refine (At.op1 K3.out (refA_good _ _ _) emp_good hS).mono ?_); rintro e w1 ⟨rfl, hS1⟩; replace hS := hS1; clear hS1)
          | (go_at_call 12; (with_reducible refine (At.op0 K4.out (good1 _ _ _) hS).mono ?_); rintro e w1 ⟨rfl, hS1⟩; replace hS := hS1; clear hS1)
          | (go_at_call 14; (with_reducible refine (K5.out _).mono ?_); rintro e w1 ⟨rfl, rfl⟩)
          | (go_at_call 15; (with_reducible refine (K6.out _).mono ?_); rintro e w1 ⟨rfl, rfl⟩)
          | (go_at_call 16; (with_reducible refine (asame12 _ _ _ _ hS).mono ?_); rintro e w1 ⟨rfl, hS1⟩; replace hS := hS1; clear hS1)
          | (go_at_call 8; (with_reducible refine (awake12 _).mono ?_); rintro e w1 ⟨rfl, hb1⟩; replace hS := hS.lay (two_good _ _ _ _) hb1; clear hb1))
        go_ret
        exact ⟨rfl, hS.bel⟩

theorem totps_walk (most sec last tick code : Int) (ao : Option Addr) (cap : Nat) (zs : List Int) (w : World) (hZ : IArg w ao zs) (s0 : -9223372036854775808 ≤ sec) (s1 : sec ≤ 9223372036854775807) :
    Calls Try.prog 3 #[.int .i64 most, .int .i64 sec, .slice ao zs.length cap, .int .i64 last, .int .i64 tick, .int .i64 code] w fun e w' => e = .returned (.bool true) ∧ Below w.heap.size w w' := by
  by_cases h : 1 ≤ most ∧ most ≤ 65536
  · exact totps_ok most sec last tick code ao cap zs w hZ h.1 h.2 s0 s1
  · exact totps_bad most sec last tick code ao cap zs.length w (by omega)
end Go.Proofs.Ytgafgmcdbpdpgaa
