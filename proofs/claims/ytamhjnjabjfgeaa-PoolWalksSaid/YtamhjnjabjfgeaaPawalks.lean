/- The walk of PoolWalks: of leases and releases in any row no address is two's. No condition. -/
import Derived.Test.YtamhjnjabjfgeaaPawk
import Derived.Deep.RegionWith
import Derived.Deep.QuietTactic
import Derived.IntWalk
namespace Go.Proofs.Ytamhjnjabjfgeaa
open Go Go.RowKit

def paw4 : List Pa := List.replicate 4 paNew
theorem pnum (n : Int) (w : World) : Calls Try.prog 17 #[.int .i64 n] w fun e w' => e = .returned (.int .i64 n) ∧ w' = w :=
  (lnum n w).mono fun _ _ ⟨a, b⟩ => ⟨a, b.symm⟩
set_option maxRecDepth 100000 in
set_option maxHeartbeats 16000000 in
theorem pawalks_walk (ao : Option Addr) (cap : Nat) (cs : List Int) (w : World) (hA : IArg w ao cs) :
    Calls Try.prog 4 #[.slice ao cs.length cap] w fun e w' => e = .returned (.bool true) ∧ Below w.heap.size w w' := by
  have P := poolsOk
  have hB : Below w.heap.size w w := Below.refl _ _
  have HA := Lib.hid hA
  have hfew := hA.few
  clear hA
  go_enter Try.func4, Try.ntmps4
  go_wp2_with (first
    | (go_at_call 21; (with_reducible refine (awake16 P _).mono ?_); rintro e w1 ⟨rfl, hb⟩; replace hB := hb; clear hb)
    | (go_at_call 15; (with_reducible refine (P.news (k := 4) (es2 := paw4) (m := 4) (r := 0) (by decide) rfl (by decide) _).mono ?_); rintro e w2 ⟨a2, c2, rfl, hP, hb⟩; replace hB := pab hB hb; clear hb)
    | (go_at_call 17; (with_reducible refine (lnum _ _).mono ?_); rintro e w7 ⟨rfl, rfl⟩))
  have hW : Pw w w2.heap.size (cB paw4) (cL paw4) (cU paw4) (((w2.alloc (.cells #[.bool false, .bool false, .bool false, .bool false] 41)).alloc (.cells #[.int .i64 (-1), .int .i64 (-1), .int .i64 (-1), .int .i64 (-1)] 3)).alloc (.cells #[.int .i64 0, .int .i64 0, .int .i64 0, .int .i64 0] 42)) := Pw.start hB _ _ _
  have hPI : PaIn [w2.heap.size, w2.heap.size + 1, w2.heap.size + 1 + 1] (((w2.alloc (.cells #[.bool false, .bool false, .bool false, .bool false] 41)).alloc (.cells #[.int .i64 (-1), .int .i64 (-1), .int .i64 (-1), .int .i64 (-1)] 3)).alloc (.cells #[.int .i64 0, .int .i64 0, .int .i64 0, .int .i64 0] 42)) a2 4 paw4 := (hP.old (by intro k hk; simp at hk; omega)).lay ((((Below.refl w2.heap.size w2).alloc (Nat.le_refl _) _).alloc (by simp) _).alloc (by simp; omega) _)
  have hM4 : poMay paw4 = true ∧ paw4.length = 4 := by decide
  generalize paw4 = es0 at *
  generalize w2.heap.size = p at *
  go_loopw [3, 8] (fun s i wr => ∃ (k : Nat) (es : List Pa) (a3 : Option Addr) (c3 : Nat), k ≤ cs.length ∧ k ≤ 60 ∧ i = .int .i64 (k : Int) ∧ s = .slice a3 4 c3 ∧ (poMay es = true ∧ es.length = 4) ∧ PaIn [p, p + 1, p + 1 + 1] wr a3 4 es ∧ Pw w p (cB es) (cL es) (cU es) wr) (fun _ i _ => cs.length - (intOf i).toNat)
  case atStart => exact ⟨0, es0, a2, c2, Nat.zero_le _, by omega, rfl, rfl, hM4, hPI, hW⟩
  case round =>
    clear hB hP hM4 hW hPI
    obtain ⟨k, es, a3, c3, hk, hk5, rfl, rfl, hM, hP, hW⟩ := hrel
    have hB := hW.below
    by_cases hlt : k < cs.length
    · by_cases h50 : k < 60
      · obtain ⟨b0, off0, z, rfl, hz, hzb, hcz⟩ := HA.out.at hlt
        have HZ := Lib.hid hcz
        have c0 := hcz _ hB
        have hBd : Below w.heap.size w wr.drew := ⟨hB.os, hB.tape, hB.output, hB.size, hB.block⟩
        have c0d := hcz _ hBd
        have hdr : Below wr.heap.size wr wr.drew := ⟨rfl, rfl, rfl, Nat.le_refl _, fun _ _ => rfl⟩
        have hW0 := hW.lay hdr
        have hP0 := hP.lay hdr
        clear hcz hz hdr hW hP
        obtain ⟨u, hu, hu8⟩ := mask7 z
        obtain ⟨q, hq, hq4⟩ := mask3 (z / 8)
        obtain ⟨f, hf, hf2⟩ := mask1 (z / 32)
        obtain ⟨y, hy, hy8⟩ := mask7 (z / 64)
        have hqI : (q : Int) < 4 := by omega
        by_cases hf1 : f = 1
        · subst hf1
          obtain ⟨a, ha⟩ : ∃ a, es.getD q Pa.none = a := ⟨_, rfl⟩
          have hl : q < es.length := by rw [hM.2]; exact hq4
          obtain ⟨ab, al, au⟩ := a
          cases ab with
          | true =>
            obtain ⟨e1, e2, e3⟩ := pfree_ok hM.1 hl ha rfl (y := (k : Int) + (y : Int)) (by omega)
            have hM2 : poMay (es.set q ⟨false, al, (k : Int) + (y : Int)⟩) = true ∧ (es.set q ⟨false, al, (k : Int) + (y : Int)⟩).length = 4 := ⟨e3, by rw [List.length_set]; exact hM.2⟩
            have HF := Lib.hid (P.freeN (cap := c3) hP0.any (by decide) 4 e1 hM2.2 e2)
            clear e1 e2 e3
            go_wp2
            go_region
            go_wp2_with (first
              | (go_at_call 13; (with_reducible refine HF.out.mono ?_); rintro e w3 ⟨a4, c4, rfl, hb, hC⟩; have hWd : ∀ n, Pw w p (cB es) (cL es) (cU es) (w3.drewN n) := fun n => (hW0.lay hb).lay (below_drewN _ _); have HC := Lib.hid (fun n => (hC [p, p + 1, p + 1 + 1] (by have := hW0.lt; intro k hk; simp at hk; omega)).lay (below_drewN w3 n)); have hW2 : ∀ n, Pw w p ((cB es).setIfInBounds q (.bool false)) (cL es) (cU es) ((w3.drewN n).setCell ⟨p, q, none⟩ (.bool false)) := fun n => (hWd n).setB q _; have x : w3.cell? ⟨p, q, none⟩ = some (.bool true) := ((hW0.lay hb).cB q).1.trans (row_at _ hl ha); have x0 : ∀ n, (w3.drewN n).cell? ⟨p, q, none⟩ = some (.bool true) := fun n => ((hWd n).cB q).1.trans (row_at _ hl ha); have f0 := fun n => ((hWd n).cB q).2; have c2 := fun n => HZ.out _ (hW2 n).below; have y0 : ∀ n, ((w3.drewN n).setCell ⟨p, q, none⟩ (.bool false)).cell? ⟨p + 1 + 1, q, none⟩ = some (.int .i64 au) := fun n => ((hW2 n).cU q).1.trans (row_at _ hl ha); have g0 := fun n => ((hW2 n).cU q).2; have HW3 := Lib.hid (fun n => (((hW2 n).setU q (.int .i64 ((k : Int) + (y : Int)))).to (row_upd _ es q ⟨false, al, (k : Int) + (y : Int)⟩ rfl) (row_keep _ ha rfl) (row_upd _ es q ⟨false, al, (k : Int) + (y : Int)⟩ rfl) : Pw w p (cB (es.set q ⟨false, al, (k : Int) + (y : Int)⟩)) (cL (es.set q ⟨false, al, (k : Int) + (y : Int)⟩)) (cU (es.set q ⟨false, al, (k : Int) + (y : Int)⟩)) _)); clear hWd hW2 hb hC))
            go_big_quiet ((go_at_call 17; exact Calls.quiet_of_same (pnum _ _)))
            go_wp2
            go_roundw
            case rel => exact ⟨k + 1, _, a4, c4, by omega, by omega, by go_num, rfl, hM2, ((HC.out _).poke (by simp) _ _).poke (by simp) _ _, HW3.out _⟩
            case measure => simp [intOf]; omega
          | false =>
            have HF := Lib.hid (P.free_no (cap := c3) hP0.any (by decide) (pfree_not (y := (k : Int) + (y : Int)) ha rfl))
            go_wp2
            go_region
            go_wp2_with (first
              | (go_at_call 13; (with_reducible refine HF.out.mono ?_); rintro e w3 ⟨a4, c4, rfl, hb⟩; have HW3 := Lib.hid (fun n => (hW0.lay hb).lay (below_drewN w3 n)); have HC := Lib.hid (fun n => (hP0.lay hb).lay (below_drewN w3 n)); have x : w3.cell? ⟨p, q, none⟩ = some (.bool false) := ((hW0.lay hb).cB q).1.trans (row_at _ hl ha); have x0 : ∀ n, (w3.drewN n).cell? ⟨p, q, none⟩ = some (.bool false) := fun n => ((HW3.out n).cB q).1.trans (row_at _ hl ha); clear hb))
            go_big_quiet ((go_at_call 17; exact Calls.quiet_of_same (pnum _ _)))
            go_wp2
            go_roundw
            case rel => exact ⟨k + 1, es, a3, c3, by omega, by omega, by go_num, rfl, hM, HC.out _, HW3.out _⟩
            case measure => simp [intOf]; omega
        · obtain rfl : f = 0 := by omega
          have ho := plOk_of (x := (u : Int)) (t := (k : Int)) hM.1 (by omega) (by omega) (by omega) (by omega)
          have HL := Lib.hid (P.lease (cap := c3) hP0.any (u : Int) (k : Int))
          have HO := Lib.hid ho
          clear ho c0 hB hBd
          go_wp2
          go_region
          go_wp2_with (first
            | (go_at_call 9; (with_reducible refine HL.out.mono ?_); rintro e w3 ⟨rfl, hb⟩; replace hW0 := hW0.lay hb; replace hP0 := hP0.lay hb; clear hb))
          clear c0d
          go_loopw [15, 16, 17] (fun c o i wr2 => ∃ (j : Nat) (c' : Int) (o' : Bool), j ≤ 4 ∧ i = .int .i64 (j : Int) ∧ c = .int .i64 c' ∧ o = .bool o' ∧ Aside (0 ≤ c' ∧ c' ≤ (j : Int) ∧ (c' = 0 ↔ (es.take j).any (fun a => a.free (k : Int)) = false) ∧ o' = (es.take j).any (poOwn (u : Int) (k : Int)) ∧ PaIn [p, p + 1, p + 1 + 1] wr2 a3 4 es ∧ Pw w p (cB es) (cL es) (cU es) wr2)) (fun _ _ i _ => 4 - (intOf i).toNat)
          case atStart => exact ⟨0, 0, false, by omega, rfl, rfl, rfl, (show Aside _ from ⟨by omega, by omega, by simp, by simp, hP0, hW0⟩)⟩
          case round =>
            clear hW0 hP0
            obtain ⟨j, c', o', hj, rfl, rfl, rfl, hall⟩ := hrel
            obtain ⟨g1, g2, g3, g4, hP0, hW0⟩ := hall.out
            clear hall
            by_cases hj4 : j < 4
            · obtain ⟨a, ha⟩ : ∃ a, es.getD j Pa.none = a := ⟨_, rfl⟩
              have hl : j < es.length := by rw [hM.2]; exact hj4
              have hjI : (j : Int) < 4 := by omega
              have t1 := any_take (p := fun a => a.free (k : Int)) hl ha
              have t2 := any_take (p := poOwn (u : Int) (k : Int)) hl ha
              obtain ⟨ab, al, au⟩ := a
              have x0 : wr.cell? ⟨p, j, none⟩ = some (.bool ab) := (hW0.cB j).1.trans (row_at _ hl ha)
              have x1 : wr.cell? ⟨p + 1, j, none⟩ = some (.int .i64 al) := (hW0.cL j).1.trans (row_at _ hl ha)
              have x2 : wr.cell? ⟨p + 1 + 1, j, none⟩ = some (.int .i64 au) := (hW0.cU j).1.trans (row_at _ hl ha)
              rw [own_of] at t2
              replace t1 : (es.take (j + 1)).any (fun a => a.free (k : Int)) = ((es.take j).any (fun a => a.free (k : Int)) || (!ab && decide (au ≤ (k : Int)))) := t1
              rw [← g4] at t2
              have H0 := Lib.hid (And.intro hP0 hW0)
              have G3 := Lib.hid g3
              clear g3 g4 hP0 hW0 ha
              by_cases hfr : ab = false ∧ au ≤ (k : Int)
              · obtain ⟨rfl, hau⟩ := hfr
                rw [show (!false && decide (au ≤ (k : Int))) = true by simp [hau]] at t1 t2
                rw [Bool.or_true] at t1
                rw [Bool.true_and] at t2
                have T1 := Lib.hid t1
                have T2 := Lib.hid t2
                clear t1 t2
                cases o' with
                | true =>
                  go_wp2
                  go_roundw
                  case rel => exact ⟨j + 1, c' + 1, true, by omega, by go_num, rfl, rfl, (show Aside _ from ⟨by omega, by omega, ⟨fun c => by omega, fun c => by rw [T1.out] at c; cases c⟩, by rw [T2.out]; rfl, H0.out.1, H0.out.2⟩)⟩
                  case measure => simp [intOf]; omega
                | false =>
                  by_cases hal : al = (u : Int)
                  · have hd : decide (al = (u : Int)) = true := decide_eq_true hal
                    rw [hd] at T2
                    have hd2 : (al == (u : Int)) = true := by simpa using hal
                    go_wp2
                    go_roundw
                    case rel => exact ⟨j + 1, c' + 1, true, by omega, by go_num, rfl, rfl, (show Aside _ from ⟨by omega, by omega, ⟨fun c => by omega, fun c => by rw [T1.out] at c; cases c⟩, by rw [T2.out]; rfl, H0.out.1, H0.out.2⟩)⟩
                    case measure => simp [intOf]; omega
                  · have hd : decide (al = (u : Int)) = false := decide_eq_false hal
                    rw [hd] at T2
                    have hd2 : (al == (u : Int)) = false := by simpa using hal
                    go_wp2
                    go_roundw
                    case rel => exact ⟨j + 1, c' + 1, false, by omega, by go_num, rfl, rfl, (show Aside _ from ⟨by omega, by omega, ⟨fun c => by omega, fun c => by rw [T1.out] at c; cases c⟩, by rw [T2.out]; rfl, H0.out.1, H0.out.2⟩)⟩
                    case measure => simp [intOf]; omega
              · rw [show (!ab && decide (au ≤ (k : Int))) = false by cases ab <;> simp_all] at t1 t2
                rw [Bool.or_false] at t1
                rw [Bool.false_and, Bool.or_false] at t2
                have T1 := Lib.hid t1
                have T2 := Lib.hid t2
                clear t1 t2
                cases ab with
                | true =>
                  go_wp2
                  go_roundw
                  case rel => exact ⟨j + 1, c', o', by omega, by go_num, rfl, rfl, (show Aside _ from ⟨by omega, by omega, by rw [T1.out]; exact G3.out, by rw [T2.out], H0.out.1, H0.out.2⟩)⟩
                  case measure => simp [intOf]; omega
                | false =>
                  have hau : ¬ au ≤ (k : Int) := fun c => hfr ⟨rfl, c⟩
                  go_wp2
                  go_roundw
                  case rel => exact ⟨j + 1, c', o', by omega, by go_num, rfl, rfl, (show Aside _ from ⟨by omega, by omega, by rw [T1.out]; exact G3.out, by rw [T2.out], H0.out.1, H0.out.2⟩)⟩
                  case measure => simp [intOf]; omega
            · obtain rfl : j = 4 := by omega
              rw [show es.take 4 = es by rw [← hM.2, List.take_length]] at g3 g4
              clear hj4 hj
              cases hfree : es.any (fun a => a.free (k : Int)) with
              | false =>
                obtain ⟨e1, e2⟩ := pl_none HO.out hfree
                obtain rfl : c' = 0 := g3.2 hfree
                have H0 := Lib.hid (And.intro hP0 hW0)
                clear g3 g4 hP0 hW0 hfree
                go_wp2_with (go_at_call 17; (with_reducible refine (lnum _ _).mono ?_); rintro e w7 ⟨rfl, rfl⟩)
                go_roundw
                case rel => exact ⟨k + 1, es, a3, c3, by omega, by omega, by go_num, rfl, hM, H0.out.1, H0.out.2⟩
                case measure => simp [intOf]; omega
              | true =>
                obtain ⟨x, e1, e2, hx, hxf, hxo⟩ := pl_one_of HO.out hfree
                have hc0 : ¬ c' = 0 := fun c => by rw [g3.1 c] at hfree; cases hfree
                rw [← g4] at hxo
                obtain ⟨a, ha⟩ : ∃ a, es.getD x Pa.none = a := ⟨_, rfl⟩
                rw [ha] at hxf hxo
                obtain ⟨ab, al, au⟩ := a
                rw [free_of] at hxf
                obtain ⟨rfl, hau⟩ : ab = false ∧ au ≤ (k : Int) := by simpa using hxf
                have hx4 : x < 4 := by rw [← hM.2]; exact hx
                have hxI : ¬ (x : Int) < 0 := by omega
                have hxJ : ¬ 3 < (x : Int) := by omega
                have hxK : (x : Int) < 4 := by omega
                have hd3 : decide ((k : Int) < au) = false := decide_eq_false (by omega)
                have hd1 : decide ((x : Int) < 0) = false := decide_eq_false hxI
                have hd2 : decide (3 < (x : Int)) = false := decide_eq_false hxJ
                have x0 : wr.cell? ⟨p, x, none⟩ = some (.bool false) := (hW0.cB x).1.trans (row_at _ hx ha)
                have x1 : wr.cell? ⟨p + 1, x, none⟩ = some (.int .i64 al) := (hW0.cL x).1.trans (row_at _ hx ha)
                have x2 : wr.cell? ⟨p + 1 + 1, x, none⟩ = some (.int .i64 au) := (hW0.cU x).1.trans (row_at _ hx ha)
                obtain ⟨s1, s2, s3⟩ := ptake_ok hM.1 hx ha rfl (x := (u : Int)) (by omega) (by omega)
                have hM2 : poMay (es.set x ⟨true, (u : Int), 0⟩) = true ∧ (es.set x ⟨true, (u : Int), 0⟩).length = 4 := ⟨s3, by rw [List.length_set]; exact hM.2⟩
                have HT := Lib.hid (P.takeN (cap := c3) hP0.any (by decide) 4 s1 hM2.2 s2)
                clear g3 g4 hP0 hfree hxf s1 s2 s3
                cases o' with
                | true =>
                  obtain rfl := hxo rfl
                  have hbe : ((u : Int) != (u : Int)) = false := by simp
                  go_wp2_with (first
                    | (go_at_call 11; (with_reducible refine HT.out.mono ?_); rintro e w4 ⟨a4, c4, rfl, hb, hC⟩; have hWd := hW0.lay hb; have hC0 := hC [p, p + 1, p + 1 + 1] (by have := hW0.lt; intro k hk; simp at hk; omega); have HC := Lib.hid (((hC0.poke (p := p) (by simp) x (.bool true)).poke (p := p + 1) (by simp) x (.int .i64 (u : Int))).poke (p := p + 1 + 1) (by simp) x (.int .i64 0)); have hW2 := hWd.setB x (.bool true); have hW3 := hW2.setL x (.int .i64 (u : Int)); have y0 : w4.cell? ⟨p, x, none⟩ = some (.bool false) := (hWd.cB x).1.trans (row_at _ hx ha); have f0 := (hWd.cB x).2; have y1 : (w4.setCell ⟨p, x, none⟩ (.bool true)).cell? ⟨p + 1, x, none⟩ = some (.int .i64 (u : Int)) := (hW2.cL x).1.trans (row_at _ hx ha); have f1 := (hW2.cL x).2; have y2 : ((w4.setCell ⟨p, x, none⟩ (.bool true)).setCell ⟨p + 1, x, none⟩ (.int .i64 (u : Int))).cell? ⟨p + 1 + 1, x, none⟩ = some (.int .i64 au) := (hW3.cU x).1.trans (row_at _ hx ha); have f2 := (hW3.cU x).2; have HW3 := Lib.hid ((hW3.setU x (.int .i64 0)).to (row_upd _ es x ⟨true, (u : Int), 0⟩ rfl) (row_upd _ es x ⟨true, (u : Int), 0⟩ rfl) (row_upd _ es x ⟨true, (u : Int), 0⟩ rfl) : Pw w p (cB (es.set x ⟨true, (u : Int), 0⟩)) (cL (es.set x ⟨true, (u : Int), 0⟩)) (cU (es.set x ⟨true, (u : Int), 0⟩)) _); clear hWd hW2 hW3 hb hC hC0 hW0)
                    | (go_at_call 17; (with_reducible refine (lnum _ _).mono ?_); rintro e w7 ⟨rfl, rfl⟩))
                  go_roundw
                  case rel => exact ⟨k + 1, _, a4, c4, by omega, by omega, by go_num, rfl, hM2, HC.out, HW3.out⟩
                  case measure => simp [intOf]; omega
                | false =>
                  clear hxo
                  go_wp2_with (first
                    | (go_at_call 11; (with_reducible refine HT.out.mono ?_); rintro e w4 ⟨a4, c4, rfl, hb, hC⟩; have hWd := hW0.lay hb; have hC0 := hC [p, p + 1, p + 1 + 1] (by have := hW0.lt; intro k hk; simp at hk; omega); have HC := Lib.hid (((hC0.poke (p := p) (by simp) x (.bool true)).poke (p := p + 1) (by simp) x (.int .i64 (u : Int))).poke (p := p + 1 + 1) (by simp) x (.int .i64 0)); have hW2 := hWd.setB x (.bool true); have hW3 := hW2.setL x (.int .i64 (u : Int)); have y0 : w4.cell? ⟨p, x, none⟩ = some (.bool false) := (hWd.cB x).1.trans (row_at _ hx ha); have f0 := (hWd.cB x).2; have y1 : (w4.setCell ⟨p, x, none⟩ (.bool true)).cell? ⟨p + 1, x, none⟩ = some (.int .i64 al) := (hW2.cL x).1.trans (row_at _ hx ha); have f1 := (hW2.cL x).2; have y2 : ((w4.setCell ⟨p, x, none⟩ (.bool true)).setCell ⟨p + 1, x, none⟩ (.int .i64 (u : Int))).cell? ⟨p + 1 + 1, x, none⟩ = some (.int .i64 au) := (hW3.cU x).1.trans (row_at _ hx ha); have f2 := (hW3.cU x).2; have HW3 := Lib.hid ((hW3.setU x (.int .i64 0)).to (row_upd _ es x ⟨true, (u : Int), 0⟩ rfl) (row_upd _ es x ⟨true, (u : Int), 0⟩ rfl) (row_upd _ es x ⟨true, (u : Int), 0⟩ rfl) : Pw w p (cB (es.set x ⟨true, (u : Int), 0⟩)) (cL (es.set x ⟨true, (u : Int), 0⟩)) (cU (es.set x ⟨true, (u : Int), 0⟩)) _); clear hWd hW2 hW3 hb hC hC0 hW0)
                    | (go_at_call 17; (with_reducible refine (lnum _ _).mono ?_); rintro e w7 ⟨rfl, rfl⟩))
                  go_roundw
                  case rel => exact ⟨k + 1, _, a4, c4, by omega, by omega, by go_num, rfl, hM2, HC.out, HW3.out⟩
                  case measure => simp [intOf]; omega
      · go_wp2
        go_ret
        exact ⟨rfl, hB⟩
    · go_wp2
      go_ret
      exact ⟨rfl, hB⟩
end Go.Proofs.Ytamhjnjabjfgeaa
