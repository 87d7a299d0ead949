/- The walk of Crafts: at every book, key, text and tag the makers, the asking calls and Open answer as the reference's. No condition. -/
import Derived.Test.YthbpnffiibjgjaaClaw
namespace Go.Proofs.Ythbpnffiibjgjaa
open Go Go.RowKit Go.Maps

set_option maxRecDepth 100000 in
theorem crafts_bad (most key tag : Int) (s : ByteArray) (ao : Option Addr) (cap n : Nat) (w : World) (h : most < 1 ∨ 65536 < most) :
    Calls Try.prog 3 #[.int .i64 most, .slice ao n cap, .int .i64 key, .string s, .int .i64 tag] w fun e w' => e = .returned (.bool true) ∧ Below w.heap.size w w' := by
  have Hb := Lib.hid (fun a n c w => twin_bad most a n c w h)
  clear h
  go_enter Try.func3, Try.ntmps3
  go_wp2_with (first
    | (go_at_call 8; (with_reducible refine (Hb.out _ _ _ _).mono ?_); rintro e w1 ⟨rfl, rfl⟩)
    | (go_at_call 9; (with_reducible refine (awake3 _).mono ?_); rintro e w1 ⟨rfl, hb1⟩))
  go_ret
  exact ⟨rfl, hb1⟩

set_option maxRecDepth 100000 in
set_option maxHeartbeats 8000000 in
theorem crafts_ok (most key tag : Int) (s : ByteArray) (ao : Option Addr) (cap : Nat) (ss : List ByteArray) (w : World) (hA : SArg w ao ss) (h1 : 1 ≤ most) (h2 : most ≤ 65536) (hs : s.size ≤ 140737488351232) (k0 : -9223372036854775808 ≤ key) (k1 : key ≤ 9223372036854775807) :
    Calls Try.prog 3 #[.int .i64 most, .slice ao ss.length cap, .int .i64 key, .string s, .int .i64 tag] w fun e w' => e = .returned (.bool true) ∧ Below w.heap.size w w' := by
  have hs' : s.size ≤ 9223372036854770000 := by omega
  have HA := Lib.hid hA
  have D1 := Lib.hid (fun p ts => dishash p most ts s tag hs')
  have D2 := Lib.hid (fun p ts => dismac p most ts key s tag hs' k0 k1)
  have D3 := Lib.hid (fun p ts => dopen p most ts key tag k0 k1)
  have D4 := Lib.hid (fun p ts => datom p most ts s hs')
  have D5 := Lib.hid (fun p ts => dhash p most ts s hs')
  have D6 := Lib.hid (fun p ts => dmac p most ts key s hs' k0 k1)
  have D7 := Lib.hid (fun p ts => dseal p most ts key s hs' k0 k1)
  have R1 := Lib.hid (fun p ts => drishash p most ts s tag hs')
  have R2 := Lib.hid (fun p ts => drismac p most ts key s tag hs' k0 k1)
  have R3 := Lib.hid (fun p ts => dropen p most ts key tag k0 k1)
  have R4 := Lib.hid (fun p ts => dratom p most ts s hs')
  have R5 := Lib.hid (fun p ts => drhash p most ts s hs')
  have R6 := Lib.hid (fun p ts => drmac p most ts key s hs' k0 k1)
  have R7 := Lib.hid (fun p ts => drseal p most ts key s hs' k0 k1)
  clear hA hs hs' k0 k1
  go_enter Try.func3, Try.ntmps3
  go_wp2_with (first
    | (go_at_call 8; (with_reducible refine (twin_ok most _ _ ss _ HA.out h1 h2).mono ?_); rintro e w1 ⟨p, q, ts, rfl, _, hb⟩; have hS := At.start hb; clear hb)
    | (go_at_call 10; (with_reducible refine (At.op1 ((D1).out _ _) (refA_good _ _ _) emp_good hS).mono ?_); rintro e w1 ⟨rfl, hS1⟩; replace hS := hS1; clear hS1)
    | (go_at_call 14; (with_reducible refine (At.op0 ((R1).out _ _) (good1 _ _ _) hS).mono ?_); rintro e w1 ⟨rfl, hS1⟩; replace hS := hS1; clear hS1)
    | (go_at_call 11; (with_reducible refine (At.op1 ((D2).out _ _) (refA_good _ _ _) emp_good hS).mono ?_); rintro e w1 ⟨rfl, hS1⟩; replace hS := hS1; clear hS1)
    | (go_at_call 15; (with_reducible refine (At.op0 ((R2).out _ _) (good1 _ _ _) hS).mono ?_); rintro e w1 ⟨rfl, hS1⟩; replace hS := hS1; clear hS1)
    | (go_at_call 12; (with_reducible refine (At.op1 ((D3).out _ _) (refA_good _ _ _) emp_good hS).mono ?_); rintro e w1 ⟨rfl, hS1⟩; replace hS := hS1; clear hS1)
    | (go_at_call 13; (with_reducible refine (At.op0 ((R3).out _ _) (good1 _ _ _) hS).mono ?_); rintro e w1 ⟨rfl, hS1⟩; replace hS := hS1; clear hS1)
    | (go_at_call 18; (with_reducible refine (At.op1 ((D4).out _ _) (refA_good _ _ _) emp_good hS).mono ?_); rintro e w1 ⟨rfl, hS1⟩; replace hS := hS1; clear hS1)
    | (go_at_call 19; (with_reducible refine (At.op0 ((R4).out _ _) (good1 _ _ _) hS).mono ?_); rintro e w1 ⟨rfl, hS1⟩; replace hS := hS1; clear hS1)
    | (go_at_call 20; (with_reducible refine (At.op1 ((D5).out _ _) (refA_good _ _ _) emp_good hS).mono ?_); rintro e w1 ⟨rfl, hS1⟩; replace hS := hS1; clear hS1)
    | (go_at_call 21; (with_reducible refine (At.op0 ((R5).out _ _) (good1 _ _ _) hS).mono ?_); rintro e w1 ⟨rfl, hS1⟩; replace hS := hS1; clear hS1)
    | (go_at_call 22; (with_reducible refine (At.op1 ((D6).out _ _) (refA_good _ _ _) emp_good hS).mono ?_); rintro e w1 ⟨rfl, hS1⟩; replace hS := hS1; clear hS1)
    | (go_at_call 23; (with_reducible refine (At.op0 ((R6).out _ _) (good1 _ _ _) hS).mono ?_); rintro e w1 ⟨rfl, hS1⟩; replace hS := hS1; clear hS1)
    | (go_at_call 24; (with_reducible refine (At.op1 ((D7).out _ _) (refA_good _ _ _) emp_good hS).mono ?_); rintro e w1 ⟨rfl, hS1⟩; replace hS := hS1; clear hS1)
    | (go_at_call 25; (with_reducible refine (At.op0 ((R7).out _ _) (good1 _ _ _) hS).mono ?_); rintro e w1 ⟨rfl, hS1⟩; replace hS := hS1; clear hS1)
    | (go_at_call 17; (with_reducible refine (asame3 _ _ _ _ hS).mono ?_); rintro e w1 ⟨rfl, hS1⟩; replace hS := hS1; clear hS1)
    | (go_at_call 9; (with_reducible refine (awake3 _).mono ?_); rintro e w1 ⟨rfl, hb1⟩; replace hS := hS.lay (two_good _ _ _ _) hb1; clear hb1)
    | (go_at_call 16; refine (lnum _ _).mono ?_; rintro e w1 ⟨rfl, rfl⟩))
  go_ret
  exact ⟨rfl, hS.bel⟩

theorem crafts_walk (most key tag : Int) (s : ByteArray) (ao : Option Addr) (cap : Nat) (ss : List ByteArray) (w : World) (hA : SArg w ao ss) (hs : s.size ≤ 140737488351232) (k0 : -9223372036854775808 ≤ key) (k1 : key ≤ 9223372036854775807) :
    Calls Try.prog 3 #[.int .i64 most, .slice ao ss.length cap, .int .i64 key, .string s, .int .i64 tag] w fun e w' => e = .returned (.bool true) ∧ Below w.heap.size w w' := by
  by_cases h : 1 ≤ most ∧ most ≤ 65536
  · exact crafts_ok most key tag s ao cap ss w hA h.1 h.2 hs k0 k1
  · exact crafts_bad most key tag s ao cap ss.length w (by omega)
end Go.Proofs.Ythbpnffiibjgjaa
