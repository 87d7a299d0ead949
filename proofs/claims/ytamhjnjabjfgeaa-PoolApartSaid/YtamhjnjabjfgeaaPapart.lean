/- The walk of PoolApart: taking and freeing one address turns no other one. No condition. -/
import Derived.Test.YtamhjnjabjfgeaaPab
import Derived.Test.YtamhjnjabjfgeaaPap7
import Derived.Deep.RegionWith
import Derived.Deep.QuietTactic
import Derived.IntWalk
namespace Go.Proofs.Ytamhjnjabjfgeaa
open Go Go.RowKit

def paw6 : List Pa := List.replicate 6 paNew
set_option maxRecDepth 100000 in
set_option maxHeartbeats 16000000 in
theorem papart_walk (ao : Option Addr) (cap : Nat) (cs : List Int) (w : World) (hA : IArg w ao cs) :
    Calls Try.prog 7 #[.slice ao cs.length cap] w fun e w' => e = .returned (.bool true) ∧ Below w.heap.size w w' := by
  have P := poolsOk
  have hB : Below w.heap.size w w := Below.refl _ _
  have HA := Lib.hid hA
  have hfew := hA.few
  clear hA
  go_enter Try.func7, Try.ntmps7
  go_wp2_with (first
    | (go_at_call 21; (with_reducible refine (awake16 P _).mono ?_); rintro e w1 ⟨rfl, hb⟩; replace hB := hb; clear hb)
    | (go_at_call 15; (with_reducible refine (P.news (k := 6) (es2 := paw6) (m := 6) (r := 0) (by decide) rfl (by decide) _).mono ?_); rintro e w2 ⟨a2, c2, rfl, hP, hb⟩; replace hB := pab hB hb; clear hb)
    | (go_at_call 17; (with_reducible refine (lnum _ _).mono ?_); rintro e w7 ⟨rfl, rfl⟩))
  have hM6 : poMay paw6 = true ∧ paw6.length = 6 := by decide
  generalize paw6 = es0 at *
  go_loopw [3, 5] (fun s i wr => ∃ (k : Nat) (es : List Pa) (a3 : Option Addr) (c3 : Nat), k ≤ cs.length ∧ k ≤ 50 ∧ i = .int .i64 (k : Int) ∧ s = .slice a3 6 c3 ∧ (poMay es = true ∧ es.length = 6) ∧ PaIn [] wr a3 6 es ∧ Below w.heap.size w wr) (fun _ i _ => cs.length - (intOf i).toNat)
  case atStart => exact ⟨0, es0, a2, c2, Nat.zero_le _, by omega, rfl, rfl, hM6, hP, hB⟩
  case round =>
    clear hB hP hM6
    obtain ⟨k, es, a3, c3, hk, hk5, rfl, rfl, hM, hP, hB⟩ := hrel
    by_cases hlt : k < cs.length
    · by_cases h50 : k < 50
      · obtain ⟨b0, off0, z, rfl, hz, hzb, hcz⟩ := HA.out.at hlt
        have HZ := Lib.hid hcz
        have c0 := hcz _ hB
        have hBd : Below w.heap.size w wr.drew := ⟨hB.os, hB.tape, hB.output, hB.size, hB.block⟩
        have c0d := hcz _ hBd
        clear hcz hz
        obtain ⟨m, hm, hm1⟩ := mask1023 z
        obtain ⟨q, hq, hq6⟩ : ∃ q : Nat, (m : Int).tmod 6 = (q : Int) ∧ q < 6 := ⟨m % 6, by rw [Int.tmod_eq_emod_of_nonneg (by omega)]; omega, by omega⟩
        obtain ⟨u, hu, hu8⟩ := mask7 (z / 8)
        obtain ⟨y, hy, hy5⟩ := mask31 (z / 64)
        have hqI : (q : Int) < 6 := by omega
        obtain ⟨b, off, rfl, hcell⟩ := hP.place (by decide)
        obtain ⟨x0, x1, x2⟩ := hcell q hq6 _ (Below.refl _ _)
        obtain ⟨y0, y1, y2⟩ := hcell q hq6 wr.drew ⟨rfl, rfl, rfl, Nat.le_refl _, fun _ _ => rfl⟩
        obtain ⟨a, ha⟩ : ∃ a, es.getD q Pa.none = a := ⟨_, rfl⟩
        obtain ⟨ab, al, au⟩ := a
        rw [ha] at x0 x1 x2 y0 y1 y2
        dsimp only at x0 x1 x2 y0 y1 y2
        have hG : ((ownA wr.heap.size #[.bool ab, .int .i64 al, .int .i64 au] TPa).star emp).Good := (ownA_good _ _ _).star emp_good
        have hS0 : At w ((ownA wr.heap.size #[.bool ab, .int .i64 al, .int .i64 au] TPa).star emp) (wr.alloc (.cells #[.bool ab, .int .i64 al, .int .i64 au] TPa)).drew := (At.hold emp_good (At.none hB) _ _).drewn hG
        have hb1 : Below wr.heap.size wr (wr.alloc (.cells #[.bool ab, .int .i64 al, .int .i64 au] TPa)).drew := by
          have h := (Below.refl wr.heap.size wr).alloc (Nat.le_refl _) (.cells #[.bool ab, .int .i64 al, .int .i64 au] TPa)
          exact ⟨h.os, h.tape, h.output, h.size, h.block⟩
        have hP0 := (hP.old (F := [wr.heap.size]) (by simp)).lay hb1
        obtain ⟨z0, z1, z2⟩ := hcell q hq6 _ hb1
        rw [ha] at z0 z1 z2
        dsimp only at z0 z1 z2
        have cz := HZ.out _ hS0.bel
        clear hb1
        have hl : q < es.length := by rw [hM.2]; exact hq6
        clear hP hcell
        cases ab with
        | true =>
          obtain ⟨e1, e2, e3⟩ := pfree_ok hM.1 hl ha rfl (y := (y : Int)) (by omega)
          have hM2 : poMay (es.set q ⟨false, al, (y : Int)⟩) = true ∧ (es.set q ⟨false, al, (y : Int)⟩).length = 6 := ⟨e3, by rw [List.length_set]; exact hM.2⟩
          have HF := Lib.hid (P.freeN (cap := c3) hP0.any (by decide) 6 e1 hM2.2 e2)
          have hG2 : ((ownA wr.heap.size #[.bool false, .int .i64 al, .int .i64 (y : Int)] TPa).star emp).Good := (ownA_good _ _ _).star emp_good
          go_wp2
          go_region
          go_wp2_with (first
            | (go_at_call 13; (with_reducible refine HF.out.mono ?_); rintro e w3 ⟨a4, c4, rfl, hb, hC⟩; replace hC := hC [wr.heap.size] (by simp); have hS1 := hS0.lay hG hb; have hS2 := hS1.poke emp_good 0 (.bool false); have hS3 : At w ((ownA wr.heap.size #[.bool false, .int .i64 al, .int .i64 (y : Int)] TPa).star emp) _ := hS2.poke emp_good 2 (.int .i64 (y : Int)); have cz2 := HZ.out _ hS2.bel; have s0 : w3.cell? ⟨wr.heap.size, 0, none⟩ = some (.bool true) := hS1.own.1 0; have f0 := hS1.own.2.1 0; have s2 : (w3.setCell ⟨wr.heap.size, 0, none⟩ (.bool false)).cell? ⟨wr.heap.size, 2, none⟩ = some (.int .i64 au) := hS2.own.1 2; have f2 := hS2.own.2.1 2; have hP3 := ((hP0.lay hb).poke (p := wr.heap.size) (by simp) 0 (.bool false)).poke (p := wr.heap.size) (by simp) 2 (.int .i64 (y : Int)); have hC3 := (hC.poke (p := wr.heap.size) (by simp) 0 (.bool false)).poke (p := wr.heap.size) (by simp) 2 (.int .i64 (y : Int)); clear hb hC hS1 hS2)
            | (go_at_call 17; (with_reducible refine (lnum _ _).mono ?_); rintro e w7 ⟨rfl, rfl⟩))
          generalize wr.heap.size = p at *
          go_loopw [11] (fun x wr2 => ∃ j : Nat, j ≤ 6 ∧ x = .int .i64 (j : Int) ∧ PaIn [] wr2 (some ⟨b, off, none⟩) 6 es ∧ PaIn [] wr2 a4 6 (es.set q ⟨false, al, (y : Int)⟩) ∧ At w ((ownA p #[.bool false, .int .i64 al, .int .i64 (y : Int)] TPa).star emp) wr2) (fun x _ => 6 - (intOf x).toNat)
          case atStart => exact ⟨0, by omega, rfl, hP3.any, hC3.any, hS3⟩
          case round =>
            clear hS3 hP3 hC3
            obtain ⟨j, hj, rfl, hP3, hC3, hS3⟩ := hrel
            by_cases hj6 : j < 6
            · have hjI : (j : Int) < 6 := by omega
              obtain ⟨b5, off5, rfl, hc5⟩ := hC3.place (by decide)
              obtain ⟨b6, off6, e6, hc6⟩ := hP3.place (by decide)
              obtain ⟨rfl, rfl⟩ : b = b6 ∧ off = off6 := by simpa using e6
              obtain ⟨o1, _, _⟩ := hS3.own
              obtain ⟨x0, x1, x2⟩ := hc5 j hj6 _ (Below.refl _ _)
              obtain ⟨y0, y1, y2⟩ := hc6 j hj6 _ (Below.refl _ _)
              have w0 := o1 0
              have w1 := o1 1
              have w2 := o1 2
              clear hc5 hc6 o1 e6
              rw [set_getD hl] at x0 x1 x2
              have HK := Lib.hid (fun n => And.intro (hP3.on (below_drewN wr n)) (And.intro (hC3.on (below_drewN wr n)) (hS3.lay hG2 (below_drewN wr n))))
              clear hP3 hC3 hS3
              by_cases hjq : j = q
              · subst hjq
                rw [if_pos rfl] at x0 x1 x2
                dsimp only at x0 x1 x2
                go_wp2
                go_big_quiet (fail)
                go_wp2
                go_round
                case rel => exact ⟨j + 1, by omega, by go_num, (HK.out _).1, (HK.out _).2.1, (HK.out _).2.2⟩
                case measure => simp [intOf]; omega
              · have hjqI : ¬ (j : Int) = (q : Int) := by omega
                have hd1 : decide ((j : Int) = (q : Int)) = false := decide_eq_false hjqI
                have hd2 : ((j : Int) == (q : Int)) = false := by simpa using hjqI
                have hd3 : ((j : Int) != (q : Int)) = true := by simpa using hjqI
                have hd4 : decide (j = q) = false := decide_eq_false hjq
                rw [if_neg hjq] at x0 x1 x2
                generalize es.getD j Pa.none = c at x0 x1 x2 y0 y1 y2
                obtain ⟨cb, cl, cu⟩ := c
                dsimp only at x0 x1 x2 y0 y1 y2
                go_wp2
                go_big_quiet (fail)
                go_wp2
                go_round
                case rel => exact ⟨j + 1, by omega, by go_num, (HK.out _).1, (HK.out _).2.1, (HK.out _).2.2⟩
                case measure => simp [intOf]; omega
            · obtain rfl : j = 6 := by omega
              have hBe := hS3.bel
              clear hS3 hP3
              go_wp2
              go_roundw
              case rel => exact ⟨k + 1, _, a4, c4, by omega, by omega, by go_num, rfl, hM2, hC3, hBe⟩
              case measure => simp [intOf]; omega
        | false =>
          obtain ⟨e1, e2, e3⟩ := ptake_ok hM.1 hl ha rfl (x := (u : Int)) (by omega) (by omega)
          have hM2 : poMay (es.set q ⟨true, (u : Int), 0⟩) = true ∧ (es.set q ⟨true, (u : Int), 0⟩).length = 6 := ⟨e3, by rw [List.length_set]; exact hM.2⟩
          have HF := Lib.hid (P.takeN (cap := c3) hP0.any (by decide) 6 e1 hM2.2 e2)
          have hG2 : ((ownA wr.heap.size #[.bool true, .int .i64 (u : Int), .int .i64 0] TPa).star emp).Good := (ownA_good _ _ _).star emp_good
          go_wp2
          go_region
          go_wp2_with (first
            | (go_at_call 11; (with_reducible refine HF.out.mono ?_); rintro e w3 ⟨a4, c4, rfl, hb, hC⟩; replace hC := hC [wr.heap.size] (by simp); have hS1 := hS0.lay hG hb; have hS2 := (hS1.poke emp_good 0 (.bool true)).poke emp_good 1 (.int .i64 (u : Int)); have hS3 : At w ((ownA wr.heap.size #[.bool true, .int .i64 (u : Int), .int .i64 0] TPa).star emp) _ := hS2.poke emp_good 2 (.int .i64 0); have s0 : w3.cell? ⟨wr.heap.size, 0, none⟩ = some (.bool false) := hS1.own.1 0; have s1 : w3.cell? ⟨wr.heap.size, 1, none⟩ = some (.int .i64 al) := hS1.own.1 1; have s2 : w3.cell? ⟨wr.heap.size, 2, none⟩ = some (.int .i64 au) := hS1.own.1 2; have f0 := hS1.own.2.1 0; have f1 := hS1.own.2.1 1; have f2 := hS1.own.2.1 2; have hP3 := (((hP0.lay hb).poke (p := wr.heap.size) (by simp) 0 (.bool true)).poke (p := wr.heap.size) (by simp) 1 (.int .i64 (u : Int))).poke (p := wr.heap.size) (by simp) 2 (.int .i64 0); have hC3 := ((hC.poke (p := wr.heap.size) (by simp) 0 (.bool true)).poke (p := wr.heap.size) (by simp) 1 (.int .i64 (u : Int))).poke (p := wr.heap.size) (by simp) 2 (.int .i64 0); clear hb hC hS1 hS2)
            | (go_at_call 17; (with_reducible refine (lnum _ _).mono ?_); rintro e w7 ⟨rfl, rfl⟩))
          generalize wr.heap.size = p at *
          go_loopw [11] (fun x wr2 => ∃ j : Nat, j ≤ 6 ∧ x = .int .i64 (j : Int) ∧ PaIn [] wr2 (some ⟨b, off, none⟩) 6 es ∧ PaIn [] wr2 a4 6 (es.set q ⟨true, (u : Int), 0⟩) ∧ At w ((ownA p #[.bool true, .int .i64 (u : Int), .int .i64 0] TPa).star emp) wr2) (fun x _ => 6 - (intOf x).toNat)
          case atStart => exact ⟨0, by omega, rfl, hP3.any, hC3.any, hS3⟩
          case round =>
            clear hS3 hP3 hC3
            obtain ⟨j, hj, rfl, hP3, hC3, hS3⟩ := hrel
            by_cases hj6 : j < 6
            · have hjI : (j : Int) < 6 := by omega
              obtain ⟨b5, off5, rfl, hc5⟩ := hC3.place (by decide)
              obtain ⟨b6, off6, e6, hc6⟩ := hP3.place (by decide)
              obtain ⟨rfl, rfl⟩ : b = b6 ∧ off = off6 := by simpa using e6
              obtain ⟨o1, _, _⟩ := hS3.own
              obtain ⟨x0, x1, x2⟩ := hc5 j hj6 _ (Below.refl _ _)
              obtain ⟨y0, y1, y2⟩ := hc6 j hj6 _ (Below.refl _ _)
              have w0 := o1 0
              have w1 := o1 1
              have w2 := o1 2
              clear hc5 hc6 o1 e6
              rw [set_getD hl] at x0 x1 x2
              have HK := Lib.hid (fun n => And.intro (hP3.on (below_drewN wr n)) (And.intro (hC3.on (below_drewN wr n)) (hS3.lay hG2 (below_drewN wr n))))
              clear hP3 hC3 hS3
              by_cases hjq : j = q
              · subst hjq
                rw [if_pos rfl] at x0 x1 x2
                dsimp only at x0 x1 x2
                go_wp2
                go_big_quiet (fail)
                go_wp2
                go_round
                case rel => exact ⟨j + 1, by omega, by go_num, (HK.out _).1, (HK.out _).2.1, (HK.out _).2.2⟩
                case measure => simp [intOf]; omega
              · have hjqI : ¬ (j : Int) = (q : Int) := by omega
                have hd1 : decide ((j : Int) = (q : Int)) = false := decide_eq_false hjqI
                have hd2 : ((j : Int) == (q : Int)) = false := by simpa using hjqI
                have hd3 : ((j : Int) != (q : Int)) = true := by simpa using hjqI
                have hd4 : decide (j = q) = false := decide_eq_false hjq
                rw [if_neg hjq] at x0 x1 x2
                generalize es.getD j Pa.none = c at x0 x1 x2 y0 y1 y2
                obtain ⟨cb, cl, cu⟩ := c
                dsimp only at x0 x1 x2 y0 y1 y2
                go_wp2
                go_big_quiet (fail)
                go_wp2
                go_round
                case rel => exact ⟨j + 1, by omega, by go_num, (HK.out _).1, (HK.out _).2.1, (HK.out _).2.2⟩
                case measure => simp [intOf]; omega
            · obtain rfl : j = 6 := by omega
              have hBe := hS3.bel
              clear hS3 hP3
              go_wp2
              go_roundw
              case rel => exact ⟨k + 1, _, a4, c4, by omega, by omega, by go_num, rfl, hM2, hC3, hBe⟩
              case measure => simp [intOf]; omega
      · go_wp2
        go_ret
        exact ⟨rfl, hB⟩
    · go_wp2
      go_ret
      exact ⟨rfl, hB⟩
end Go.Proofs.Ytamhjnjabjfgeaa
