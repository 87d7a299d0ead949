/- The walk of Records: the program's records against the reference's. Conditions: the book's size, the text's, the handle of the type error. -/
import Derived.Test.YtiebpjkppjollaaDoorRcaw
import Derived.Test.YtiebpjkppjollaaDoorBgc
namespace Go.Proofs.YtiebpjkppjollaaDoor
open Go Go.RowKit

/-- Records that came in. -/
structure RcArg (w : World) (ao : Option Addr) (xs : List Rc) : Prop where
  cell : ∀ j, j < xs.length → ∃ b off, ao = some ⟨b, off, Option.none⟩ ∧ w.cell? ⟨b, off + j * 11, Option.none⟩ = some (.int .i64 (xs.getD j Rc.zero).seq) ∧ w.cell? ⟨b, off + j * 11 + 1, Option.none⟩ = some (.int .i64 (xs.getD j Rc.zero).boot) ∧ w.cell? ⟨b, off + j * 11 + 2, Option.none⟩ = some (.int .i64 (xs.getD j Rc.zero).prev) ∧ w.cell? ⟨b, off + j * 11 + 3, Option.none⟩ = some (.int .i64 (xs.getD j Rc.zero).ev.kind) ∧ w.cell? ⟨b, off + j * 11 + 4, Option.none⟩ = some (.int .i64 (xs.getD j Rc.zero).ev.user) ∧ w.cell? ⟨b, off + j * 11 + 5, Option.none⟩ = some (.int .i64 (xs.getD j Rc.zero).ev.session) ∧ w.cell? ⟨b, off + j * 11 + 6, Option.none⟩ = some (.int .i64 (xs.getD j Rc.zero).ev.address) ∧ w.cell? ⟨b, off + j * 11 + 7, Option.none⟩ = some (.int .i64 (xs.getD j Rc.zero).ev.a) ∧ w.cell? ⟨b, off + j * 11 + 8, Option.none⟩ = some (.int .i64 (xs.getD j Rc.zero).ev.b) ∧ w.cell? ⟨b, off + j * 11 + 9, Option.none⟩ = some (.int .i64 (xs.getD j Rc.zero).ev.c) ∧ w.cell? ⟨b, off + j * 11 + 10, Option.none⟩ = some (.int .i64 (xs.getD j Rc.zero).ev.tick)
  few : xs.length ≤ 9223372036854770000
theorem RcArg.below {w w' : World} {ao : Option Addr} {xs : List Rc} (h : RcArg w ao xs) (hb : Below w.heap.size w w') : RcArg w' ao xs := by
  refine ⟨fun j hj => ?_, h.few⟩
  obtain ⟨b, off, e, c0, c1, c2, c3, c4, c5, c6, c7, c8, c9, c10⟩ := h.cell j hj
  have hl := World.block_lt_of_cell? w ⟨b, off + j * 11, Option.none⟩ c0
  have hk := fun i => World.cell?_of_block (a := ⟨b, i, Option.none⟩) (hb.block b hl)
  exact ⟨b, off, e, (hk _).trans c0, (hk _).trans c1, (hk _).trans c2, (hk _).trans c3, (hk _).trans c4, (hk _).trans c5, (hk _).trans c6, (hk _).trans c7, (hk _).trans c8, (hk _).trans c9, (hk _).trans c10⟩
theorem RcArg.at {w : World} {ao : Option Addr} {xs : List Rc} (h : RcArg w ao xs) {j : Nat} (hj : j < xs.length) {r : Rc} (hr : xs.getD j Rc.zero = r) : ∃ b off, ao = some ⟨b, off, Option.none⟩ ∧ ∀ W, Below w.heap.size w W → W.cell? ⟨b, off + j * 11, Option.none⟩ = some (.int .i64 r.seq) ∧ W.cell? ⟨b, off + j * 11 + 1, Option.none⟩ = some (.int .i64 r.boot) ∧ W.cell? ⟨b, off + j * 11 + 2, Option.none⟩ = some (.int .i64 r.prev) ∧ W.cell? ⟨b, off + j * 11 + 3, Option.none⟩ = some (.int .i64 r.ev.kind) ∧ W.cell? ⟨b, off + j * 11 + 4, Option.none⟩ = some (.int .i64 r.ev.user) ∧ W.cell? ⟨b, off + j * 11 + 5, Option.none⟩ = some (.int .i64 r.ev.session) ∧ W.cell? ⟨b, off + j * 11 + 6, Option.none⟩ = some (.int .i64 r.ev.address) ∧ W.cell? ⟨b, off + j * 11 + 7, Option.none⟩ = some (.int .i64 r.ev.a) ∧ W.cell? ⟨b, off + j * 11 + 8, Option.none⟩ = some (.int .i64 r.ev.b) ∧ W.cell? ⟨b, off + j * 11 + 9, Option.none⟩ = some (.int .i64 r.ev.c) ∧ W.cell? ⟨b, off + j * 11 + 10, Option.none⟩ = some (.int .i64 r.ev.tick) := by
  obtain ⟨b, off, e, c0, c1, c2, c3, c4, c5, c6, c7, c8, c9, c10⟩ := h.cell j hj
  rw [hr] at c0 c1 c2 c3 c4 c5 c6 c7 c8 c9 c10
  have hl := World.block_lt_of_cell? w ⟨b, off + j * 11, Option.none⟩ c0
  refine ⟨b, off, e, fun W hb => ?_⟩
  have hk := fun i => World.cell?_of_block (a := ⟨b, i, Option.none⟩) (hb.block b hl)
  exact ⟨(hk _).trans c0, (hk _).trans c1, (hk _).trans c2, (hk _).trans c3, (hk _).trans c4, (hk _).trans c5, (hk _).trans c6, (hk _).trans c7, (hk _).trans c8, (hk _).trans c9, (hk _).trans c10⟩
theorem rcS_small (most : Int) (ts : List ByteArray) (r : Rc) : (rcS most ts r).size ≤ 9223372036854770000 := by
  unfold rcS
  split
  · rw [Rc.sec_size]; decide
  · exact Nat.zero_le _
set_option maxRecDepth 100000 in
set_option maxHeartbeats 8000000 in
theorem records_ok (most : Int) (ao : Option Addr) (cap : Nat) (xs : List Rc) (s : ByteArray) (seq prev : Int) (w : World) (hg : Gd w) (hA : RcArg w ao xs) (h1 : 1 ≤ most) (h2 : most ≤ 65536) (hs : s.size ≤ 9223372036854770000) :
    Calls Tryd.prog 3 #[.int .i64 most, .slice ao xs.length cap, .string s, .int .i64 seq, .int .i64 prev] w fun e w' => e = .returned (.bool true) ∧ Below w.heap.size w w' := by
  have hfew := hA.few
  have HA := Lib.hid hA
  have HG := Lib.hid hg
  clear hA hg
  go_enter Tryd.func3, Tryd.ntmps3
  go_wp2_with (first
    | (go_at_call 12; (with_reducible refine (twin_none most _ h1 h2).mono ?_); rintro e w1 ⟨p, q, rfl, hb⟩; have hS := At.start hb; clear hb))
  go_loopw [13] (fun x wr => ∃ (k : Nat) (ts : List ByteArray), k ≤ xs.length ∧ k ≤ 20 ∧ x = .int .i64 (k : Int) ∧ ts.length ≤ k ∧ At w (two p q most ts) wr) (fun x _ => xs.length - (intOf x).toNat)
  case atStart => exact ⟨0, [], Nat.zero_le _, Nat.zero_le _, rfl, Nat.le_refl _, hS⟩
  case round =>
    clear hS
    obtain ⟨k, ts, hk, hk20, rfl, hts, hS⟩ := hrel
    have hgo : (k < xs.length ∧ k < 20) ∨ (¬ k < xs.length ∨ ¬ k < 20) := by omega
    rcases hgo with ⟨hlt, h20⟩ | hend
    · obtain ⟨r, hr⟩ : ∃ r, xs.getD k Rc.zero = r := ⟨_, rfl⟩
      obtain ⟨b, off, rfl, hC⟩ := HA.out.at hlt hr
      clear hr
      have hT := rcT_len (most := most) (ts := ts) r
      have HP := dpput p most ts r (by omega)
      have HQ := drput q most ts r (by omega)
      have HGP := dpget p most (rcT most ts r) (rcS most ts r) seq prev (rcS_small _ _ _)
      have HGR := drget q most (rcT most ts r) (rcS most ts r) seq prev (rcS_small _ _ _)
      obtain ⟨y, hy⟩ : ∃ y, rgR (rcT most ts r) (rcS most ts r) seq prev = y := ⟨_, rfl⟩
      rw [hy] at HGP HGR
      clear hy
      generalize rgN (rcT most ts r) (rcS most ts r) seq prev = gn at *
      generalize rgE (rcT most ts r) (rcS most ts r) seq prev = ge at *
      generalize rcS most ts r = S at *
      generalize rcN most ts r = N at *
      generalize rcE most ts r = E at *
      generalize rcT most ts r = T at *
      obtain ⟨x0, x1, x2, ⟨x3, x4, x5, x6, x7, x8, x9, x10⟩⟩ := r
      obtain ⟨y0, y1, y2, ⟨y3, y4, y5, y6, y7, y8, y9, y10⟩⟩ := y
      unfold Rc.val at HP HQ HGP HGR
      simp only at hC HP HQ HGP HGR
      have HC := Lib.hid hC
      obtain ⟨c0, c1, c2, c3, c4, c5, c6, c7, c8, c9, c10⟩ := hC _ hS.bel
      clear hC
      replace HP := Lib.hid HP
      replace HQ := Lib.hid HQ
      replace HGP := Lib.hid HGP
      replace HGR := Lib.hid HGR
      go_wp2_with (first
        | (go_at_call 14; (with_reducible refine (At.op1G (HP.out) (refA_good _ _ _) emp_good HG.out hS).mono ?_); rintro e w1 ⟨rfl, hS1⟩; replace hS := hS1; clear hS1; obtain ⟨c0, c1, c2, c3, c4, c5, c6, c7, c8, c9, c10⟩ := HC.out _ hS.bel)
        | (go_at_call 15; (with_reducible refine (At.op0G ((HQ.out).g) (good1 _ _ _) HG.out hS).mono ?_); rintro e w1 ⟨rfl, hS1⟩; replace hS := hS1; clear hS1)
        | (go_at_call 17; (with_reducible refine (At.op1G (HGP.out) (refA_good _ _ _) emp_good HG.out hS).mono ?_); rintro e w1 ⟨rfl, hS1⟩; replace hS := hS1.hold (two_good _ _ _ _) #[.int .i64 y0, .int .i64 y1, .int .i64 y2, .int .i64 y3, .int .i64 y4, .int .i64 y5, .int .i64 y6, .int .i64 y7, .int .i64 y8, .int .i64 y9, .int .i64 y10] 34; clear hS1; obtain ⟨e1, f1, l1⟩ := hS.own)
        | (go_at_call 18; (with_reducible refine (At.op1G ((HGR.out).g) (ownA_good _ _ _) (good1 _ _ _) HG.out hS).mono ?_); rintro e w1 ⟨rfl, hS1⟩; replace hS := hS1; clear hS1; obtain ⟨e1, f1, l1⟩ := hS.own)
        | (go_at_call 16; (with_reducible refine (lnum _ _).mono ?_); rintro e w1 ⟨rfl, rfl⟩))
      go_round
      case rel => exact ⟨k + 1, T, by omega, by omega, by go_num, by omega, (hS.drop).lay1 (two_good _ _ _ _) _⟩
      case measure => simp [intOf]; omega
    · obtain ⟨y, hy⟩ : ∃ y, rgR ts s seq prev = y := ⟨_, rfl⟩
      have HGP := dpget p most ts s seq prev hs
      have HGR := drget q most ts s seq prev hs
      rw [hy] at HGP HGR
      clear hy
      generalize rgN ts s seq prev = gn at *
      generalize rgE ts s seq prev = ge at *
      obtain ⟨y0, y1, y2, ⟨y3, y4, y5, y6, y7, y8, y9, y10⟩⟩ := y
      unfold Rc.val at HGP HGR
      simp only at HGP HGR
      replace HGP := Lib.hid HGP
      replace HGR := Lib.hid HGR
      have hend2 : (k = xs.length ∧ k < 20) ∨ (k < xs.length ∧ k = 20) ∨ (k = xs.length ∧ k = 20) := by omega
      clear hend
      rcases hend2 with ⟨rfl, h20⟩ | ⟨hlt, rfl⟩ | ⟨rfl, h20⟩
      all_goals
        go_wp2_with (first
        | (go_at_call 17; (with_reducible refine (At.op1G (HGP.out) (refA_good _ _ _) emp_good HG.out hS).mono ?_); rintro e w1 ⟨rfl, hS1⟩; replace hS := hS1.hold (two_good _ _ _ _) #[.int .i64 y0, .int .i64 y1, .int .i64 y2, .int .i64 y3, .int .i64 y4, .int .i64 y5, .int .i64 y6, .int .i64 y7, .int .i64 y8, .int .i64 y9, .int .i64 y10] 34; clear hS1; obtain ⟨e1, f1, l1⟩ := hS.own)
        | (go_at_call 18; (with_reducible refine (At.op1G ((HGR.out).g) (ownA_good _ _ _) (good1 _ _ _) HG.out hS).mono ?_); rintro e w1 ⟨rfl, hS1⟩; replace hS := hS1; clear hS1; obtain ⟨e1, f1, l1⟩ := hS.own)
          | (go_at_call 19; (with_reducible refine (asame9 p q most ts ((hS.drop).lay1 (two_good _ _ _ _) _)).mono ?_); rintro e w1 ⟨rfl, hS1⟩; replace hS := hS1; clear hS1)
          | (go_at_call 13; (with_reducible refine (awake9 _ (hS.gd HG.out)).mono ?_); rintro e w1 ⟨rfl, hb⟩; replace hS := hS.lay (two_good _ _ _ _) hb; clear hb)
          | (go_at_call 16; (with_reducible refine (lnum _ _).mono ?_); rintro e w1 ⟨rfl, rfl⟩))
        go_ret
        exact ⟨rfl, hS.bel⟩
theorem records_bad (most : Int) (ao : Option Addr) (len cap : Nat) (s : ByteArray) (seq prev : Int) (w : World) (hg : Gd w) (h : most < 1 ∨ 65536 < most) :
    Calls Tryd.prog 3 #[.int .i64 most, .slice ao len cap, .string s, .int .i64 seq, .int .i64 prev] w fun e w' => e = .returned (.bool true) ∧ Below w.heap.size w w' := by
  have HW := Lib.hid (awake9 w hg)
  clear hg
  go_enter Tryd.func3, Tryd.ntmps3
  go_wp2_with (first
    | (go_at_call 12; (with_reducible refine (twin_bad most _ _ _ _ h).mono ?_); rintro e w1 ⟨rfl, rfl⟩)
    | (go_at_call 13; (with_reducible refine (HW.out).mono ?_); rintro e w1 ⟨rfl, hb⟩))
  go_ret
  exact ⟨rfl, hb⟩
theorem records_walk (most : Int) (ao : Option Addr) (cap : Nat) (xs : List Rc) (s : ByteArray) (seq prev : Int) (w : World) (hg : Gd w) (hA : RcArg w ao xs) (hs : s.size ≤ 9223372036854770000) :
    Calls Tryd.prog 3 #[.int .i64 most, .slice ao xs.length cap, .string s, .int .i64 seq, .int .i64 prev] w fun e w' => e = .returned (.bool true) ∧ Below w.heap.size w w' := by
  by_cases h : most < 1 ∨ 65536 < most
  · exact records_bad most ao xs.length cap s seq prev w hg h
  · exact records_ok most ao cap xs s seq prev w hg hA (by omega) (by omega) hs
end Go.Proofs.YtiebpjkppjollaaDoor
