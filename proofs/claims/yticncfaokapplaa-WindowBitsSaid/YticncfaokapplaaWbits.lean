/- The walk of WindowBits, where the program's calls answer as the chapter says: which numbers came is told by the window alone. No condition. -/
import Derived.Test.YticncfaokapplaaWdb
import Derived.Deep.QuietTactic
import Derived.Deep.RegionWith
namespace Go.Proofs.Yticncfaokapplaa
open Go Go.RowKit

set_option maxRecDepth 100000 in
set_option maxHeartbeats 16000000 in
theorem wbits_walk (P : WinsOk) (ao : Option Addr) (cap : Nat) (cs : List Int) (ask : Int) (w : World) (hA : IArg w ao cs) :
    Calls Try.prog 7 #[.slice ao cs.length cap, .int .i64 ask] w fun e w' => e = .returned (.bool true) ∧ Below w.heap.size w w' := by
  have HA := Lib.hid hA
  have hfew := hA.few
  clear hA
  go_enter Try.func7, Try.ntmps7
  go_wp2_with (go_at_call 13; (with_reducible refine (awake17 P _).mono ?_); rintro e w1 ⟨rfl, hB⟩; have hW : At w (WR (.slice none 0 0) [] w1.heap.size (-1) 0) (w1.alloc (.cells #[.int .i64 (-1), .int .i64 0] TWd)) := At.row0 3 (At.hold emp_good (At.none hB) _ _); have hBa := hB; clear hB)
  go_loopw [6, 7] (fun y i wr => ∃ (k : Nat) (h : Int) (B : Nat) (ns : List Int), k ≤ cs.length ∧ k ≤ 40 ∧ i = .int .i64 (k : Int) ∧ ns.length ≤ k ∧ h ≤ 63 ∧ Win (memC ns) h B ∧ At w (WR y ns w1.heap.size h (B : Int)) wr) (fun _ i _ => cs.length - (intOf i).toNat)
  case atStart => exact ⟨0, -1, 0, [], Nat.zero_le _, by omega, rfl, by decide, by decide, Win.none.to (fun n => rfl), hW⟩
  case round =>
    clear hW hBa
    obtain ⟨k, h, B, ns, hk, hk4, rfl, hkn, h63, hN, hW⟩ := hrel
    obtain ⟨hh0, hh1⟩ := hN.high
    by_cases hlt : k < cs.length ∧ k < 40
    · obtain ⟨hlt, h40⟩ := hlt
      obtain ⟨b0, off0, z, rfl, hz, hzb, hcz⟩ := HA.out.at hlt
      have c0 := hcz _ hW.bel
      clear hcz hz
      obtain ⟨s, hs, hs2⟩ := wmask63 z
      have ew0 := hW.wblk.cell
      generalize w1.heap.size = p at *
      by_cases hnew : memC ns (s : Int) = false ∧ h - 32 < (s : Int)
      · obtain ⟨hn1, hn2⟩ := hnew
        obtain ⟨n1, n2, B', n3, n4⟩ := hN.new (s := (s : Int)) (by omega) (by omega) hn1 hn2
        have hN2 := n4.to (memC_snoc ns s)
        have h63' : (if h < (s : Int) then (s : Int) else h) ≤ 63 := by split <;> omega
        generalize (if h < (s : Int) then (s : Int) else h) = h' at *
        have HAd := Lib.hid (fun w => P.adds n2 n3 n1 w)
        have HN := Lib.hid hN2
        clear n1 n2 n3 n4 hN hN2
        go_wp2_with (first
          | (go_at_call 8; (with_reducible refine (HAd.out _).mono ?_); rintro r w3 ⟨rfl, hb⟩; have hW1 := (hW.wlay hb).wlay1 (.cells #[.int .i64 h', .int .i64 (B' : Int)] TWd); have kx := Blk.new w3 #[.int .i64 h', .int .i64 (B' : Int)] TWd; have ex := kx.cell; have ew := hW1.wblk.cell; have gw := hW1.wblk.froz; have hW2 := hW1.wset h' (B' : Int); have hsz : (((w3.alloc (.cells #[.int .i64 h', .int .i64 (B' : Int)] TWd)).setCell ⟨p, 0, none⟩ (.int .i64 h')).setCell ⟨p, 1, none⟩ (.int .i64 (B' : Int))).heap.size = w3.heap.size + 1 := (by simp); clear hb)
          | (at_builtin; refine app_int ((ownA_good _ _ _).star emp_good) rfl _ _ rfl _ ns (s : Int) rfl (by rw [hsz]; rfl) hW2 (by omega) ?_; intro v' w4 hW3)
          | (go_at_call 10; (with_reducible refine (lnum _ _).mono ?_); rintro e wn ⟨rfl, rfl⟩))
        go_roundw
        case rel => exact ⟨k + 1, h', B', ns ++ [(s : Int)], by omega, by omega, by go_num, by simp; omega, h63', HN.out, hW3⟩
        case measure => simp [intOf]; omega
      · obtain ⟨n1, n2, n3⟩ := hN.old (s := (s : Int)) (by omega) (by omega) (by
          cases hc : memC ns (s : Int) with
          | true => exact .inl rfl
          | false => exact .inr (by rcases Int.lt_or_le (h - 32) (s : Int) with c | c; exact absurd ⟨hc, c⟩ hnew; exact c))
        have HAd := Lib.hid (fun w => P.adds n2 n3 n1 w)
        have HN := Lib.hid hN
        clear n1 n2 n3 hN
        go_wp2_with (first
          | (go_at_call 8; (with_reducible refine (HAd.out _).mono ?_); rintro r w3 ⟨rfl, hb⟩; have hW1 := (hW.wlay hb).wlay1 (.cells #[.int .i64 0, .int .i64 0] TWd); clear hb)
          | (go_at_call 10; (with_reducible refine (lnum _ _).mono ?_); rintro e wn ⟨rfl, rfl⟩))
        go_roundw
        case rel => exact ⟨k + 1, h, B, ns, by omega, by omega, by go_num, by omega, h63, HN.out, hW1⟩
        case measure => simp [intOf]; omega
    · have hcase : ¬ (k : Int) < (cs.length : Int) ∨ ((k : Int) < (cs.length : Int) ∧ ¬ (k : Int) < 40) := by omega
      obtain ⟨v0, c0, rfl⟩ := hW.wshape
      obtain ⟨Q, hQ⟩ : ∃ Q : Nat, max 0 (h - 32 + 1) = (Q : Int) := ⟨(max 0 (h - 32 + 1)).toNat, by omega⟩
      have ew0 := hW.wblk.cell
      have hnl : ns.length ≤ 40 := by omega
      generalize w1.heap.size = p at *
      clear hlt
      rcases hcase with hx | ⟨hx, hx2⟩
      all_goals
        go_wp2
        go_loopw [11] (fun x wr => ∃ q : Int, x = .int .i64 q ∧ (0 ≤ q ∧ h - 31 ≤ q) ∧ q ≤ h + 1 ∧ At w (WR (.slice v0 ns.length c0) ns p h (B : Int)) wr) (fun x _ => (h + 1 - intOf x).toNat)
        case atStart => exact ⟨(Q : Int), rfl, by omega, by omega, hW⟩
        case round =>
          clear hW ew0
          obtain ⟨q, rfl, ⟨hq0, hq1⟩, hq2, hW⟩ := hrel
          have ew0 := hW.wblk.cell
          by_cases hqh : q ≤ h
          · have hqn : 0 ≤ h := by omega
            obtain ⟨X, Y, E, hA3, hE⟩ : ∃ X Y E : Int, (wdH h (B : Int) q = X ∧ wdB h (B : Int) q = Y ∧ wdE h (B : Int) q = E) ∧ ((E = 1701 ∧ memC ns q = true) ∨ (E = 0 ∧ memC ns q = false)) := by
              refine ⟨_, _, _, ⟨rfl, rfl, rfl⟩, ?_⟩
              cases hc : memC ns q with
              | true => exact .inl ⟨(hN.old (s := q) (by omega) (by omega) (.inl hc)).1, rfl⟩
              | false => exact .inr ⟨(hN.new (s := q) (by omega) (by omega) hc (by omega)).1, rfl⟩
            have HAd := Lib.hid (fun w => P.adds hA3.1 hA3.2.1 hA3.2.2 w)
            have HN := Lib.hid hN
            clear hA3
            go_wp2_with (go_at_call 8; (with_reducible refine (HAd.out _).mono ?_); rintro r w3 ⟨rfl, hb⟩; have hW1 := (hW.wlay hb).wlay1 (.cells #[.int .i64 X, .int .i64 Y] TWd); clear hb hW ew0)
            go_loopw [14, 15] (fun d i wr => ∃ (j : Nat) (o : Bool), j ≤ ns.length ∧ i = .int .i64 (j : Int) ∧ d = .bool o ∧ Aside (o = decide (q ∈ ns.take j)) ∧ At w (WR (.slice v0 ns.length c0) ns p h (B : Int)) wr) (fun _ i _ => ns.length - (intOf i).toNat)
            case atStart => exact ⟨0, false, Nat.zero_le _, rfl, rfl, (show Aside _ from (by simp : false = decide (q ∈ ns.take 0))), hW1⟩
            case round =>
              clear hW1
              obtain ⟨j, o, hj, rfl, rfl, ho, hW⟩ := hrel
              have HO := Lib.hid ho.out
              clear ho
              by_cases hjn : j < ns.length
              · have hjI : (j : Int) < (ns.length : Int) := by omega
                obtain ⟨g, rfl, hcell⟩ := hW.wnum hjn
                obtain ⟨y, hy⟩ : ∃ y, ns.getD j 0 = y := ⟨_, rfl⟩
                rw [hy] at hcell
                have HT := Lib.hid (show decide (q ∈ ns.take (j + 1)) = (decide (q ∈ ns.take j) || decide (y = q)) by
                  rw [List.take_succ_eq_append_getElem hjn, ← Bool.decide_or]
                  have : ns[j] = y := by rw [← hy]; simp [List.getD, hjn]
                  rw [this]
                  congr 1
                  simp [eq_comm])
                clear hy
                cases o with
                | true =>
                  go_wp2
                  go_roundw
                  case rel => exact ⟨j + 1, true, by omega, by go_num, rfl, (show Aside _ from by rw [HT.out, ← HO.out]; rfl), hW⟩
                  case measure => simp [intOf]; omega
                | false =>
                  by_cases hyq : y = q
                  · have hd : (y == q) = true := by simpa using hyq
                    have hd2 : decide (y = q) = true := decide_eq_true hyq
                    go_wp2
                    go_roundw
                    case rel => exact ⟨j + 1, true, by omega, by go_num, rfl, (show Aside _ from by rw [HT.out, ← HO.out, decide_eq_true hyq]; rfl), hW⟩
                    case measure => simp [intOf]; omega
                  · have hd : (y == q) = false := by simpa using hyq
                    have hd2 : decide (y = q) = false := decide_eq_false hyq
                    go_wp2
                    go_roundw
                    case rel => exact ⟨j + 1, false, by omega, by go_num, rfl, (show Aside _ from by rw [HT.out, ← HO.out, decide_eq_false hyq]; rfl), hW⟩
                    case measure => simp [intOf]; omega
              · obtain rfl : j = ns.length := by omega
                have hjI : ¬ (ns.length : Int) < (ns.length : Int) := by omega
                have hoo : o = memC ns q := by rw [HO.out, List.take_length]; rfl
                clear HO
                rcases hE with ⟨rfl, hc⟩ | ⟨rfl, hc⟩
                · rw [hc] at hoo
                  subst hoo
                  go_wp2_with (go_at_call 10; (with_reducible refine (lnum _ _).mono ?_); rintro e wn ⟨rfl, rfl⟩)
                  go_roundw
                  case rel => exact ⟨q + 1, by go_num, by omega, by omega, hW⟩
                  case measure => simp [intOf]; omega
                · rw [hc] at hoo
                  subst hoo
                  go_wp2_with (go_at_call 10; (with_reducible refine (lnum _ _).mono ?_); rintro e wn ⟨rfl, rfl⟩)
                  go_roundw
                  case rel => exact ⟨q + 1, by go_num, by omega, by omega, hW⟩
                  case measure => simp [intOf]; omega
          · obtain ⟨u, hu, hu2⟩ := wmask31 ask
            obtain ⟨n1, n2, B', n3, n4⟩ := hN.new (s := h + 1 + (u : Int)) (by omega) (by omega) (by
              cases hc : memC ns (h + 1 + (u : Int)) with
              | false => rfl
              | true => have := hN.le hc; omega) (by omega)
            rw [if_pos (by omega)] at n2 n4
            have hodd := n4.odd (by omega)
            have hbit := wmask1 (B' : Int)
            rw [show ((B' : Int) % 2) = 1 by omega] at hbit
            have HAd := Lib.hid (fun w => P.adds n2 n3 n1 w)
            clear n1 n2 n3 n4 hN hodd
            go_wp2_with (first
              | (go_at_call 8; (with_reducible refine (HAd.out _).mono ?_); rintro r w3 ⟨rfl, hb⟩; have hW1 := (hW.wlay hb).wlay1 (.cells #[.int .i64 (h + 1 + (u : Int)), .int .i64 (B' : Int)] TWd); have ew1 := hW1.wblk.cell; have ex := (Blk.new w3 #[.int .i64 (h + 1 + (u : Int)), .int .i64 (B' : Int)] TWd).cell; clear hb)
              | (go_at_call 10; (with_reducible refine (lnum _ _).mono ?_); rintro e wn ⟨rfl, rfl⟩))
            go_ret
            exact ⟨rfl, hW1.bel⟩
end Go.Proofs.Yticncfaokapplaa
