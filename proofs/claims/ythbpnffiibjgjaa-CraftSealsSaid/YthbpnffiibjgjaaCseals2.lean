/- The walk of CraftSeals where both rows are longer than twelve; and all of it. No condition. -/
import Derived.Test.YthbpnffiibjgjaaCseals
namespace Go.Proofs.Ythbpnffiibjgjaa
open Go Go.RowKit Go.Maps Go.BigFrame

set_option maxRecDepth 100000 in
set_option maxHeartbeats 8000000 in
theorem seals_many (ak ao : Option Addr) (ck cap : Nat) (zs : List Int) (ss : List ByteArray) (w : World) (hZ : IArg w ak zs) (hA : SArg w ao ss) (h12 : 12 < zs.length ∧ 12 < ss.length) :
    Calls Try.prog 7 #[.slice ak zs.length ck, .slice ao ss.length cap] w fun e w' => e = .returned (.bool true) ∧ Below w.heap.size w w' := by
  have hfew := hA.few
  have hfewz := hZ.few
  have HA := Lib.hid hA
  have HZ := Lib.hid hZ
  clear hA hZ
  obtain ⟨hk1, hk2⟩ := h12
  have hM12 : (12 : Int) < (if ss.length < zs.length then (ss.length : Int) else (zs.length : Int)) := by split <;> omega
  go_enter Try.func7, Try.ntmps7
  go_wp2_with (first
    | (go_at_call 9; (with_reducible refine (awake3 _).mono ?_); rintro e w1 ⟨rfl, hb1⟩; have hS0 := At.none hb1; clear hb1)
    | (go_at_call 26; (with_reducible refine (bnew_ok 999 _ (by omega) (by omega)).mono ?_); rintro e w1 ⟨p, rfl, hb⟩; have hS := (At.add emp_good hS0 hb).row0 3; clear hb)
    | (go_at_call 16; refine (lnum _ _).mono ?_; rintro e w1 ⟨rfl, rfl⟩))
  clear hS0
  clear hM12
  go_loopw [7, 9] (fun v i wr => ∃ (k : Nat) (ts : List ByteArray) (ns : List Int), k ≤ 12 ∧ i = .int .i64 k ∧ At w (sealA v ns p ts) wr ∧ Sl ts ns zs ss k) (fun _ i _ => 12 - (intOf i).toNat)
  case atStart => exact ⟨0, [], [], Nat.zero_le _, rfl, hS, ⟨rfl, Nat.le_refl _, fun j hj => by cases hj⟩⟩
  case round =>
    clear hS
    obtain ⟨k, ts, ns, hk, rfl, hS, hsl⟩ := hrel
    by_cases hlt : k < 12
    · obtain ⟨b, off, s, rfl, hs, hsz, hcw⟩ := HA.out.at (k := k) (by omega)
      obtain ⟨bz, offz, z, rfl, hz, hzb, hcz⟩ := HZ.out.at (k := k) (by omega)
      have hc := hcw _ hS.bel
      have hcc := hcz _ hS.bel
      have hq0 : (k : Int) < (ss.length : Int) := by omega
      have hq1 : (k : Int) < (zs.length : Int) := by omega
      by_cases h100 : 100 < s.size
      · clear hsl hs hz
        go_wp2
        go_ret
        exact ⟨rfl, hS.bel⟩
      · have hmask := i64_mask z 4 (by omega)
        rw [show ((2 ^ 4 - 1 : Nat) : Int) = 15 from by decide, show ((2 ^ 4 : Nat) : Int) = 16 from by decide] at hmask
        have hq2 : (0 : Int) ≤ z % 16 ∧ z % 16 ≤ 15 := by omega
        have hok : okK (some (z % 16)) = true := (okNum_iff _).2 ⟨by omega, by omega⟩
        obtain ⟨hsl', he⟩ := hsl.step (most := 999) hz hs (tm_ok rfl _ (by omega)) (by have := hsl.le; omega)
        have hd := dsealL p 999 ts (z % 16) s (by omega) (by omega)
        obtain ⟨ao7, cap7, hv7⟩ := rowI_shape hS.row
        have hlen : (vals ns).length = k := by rw [List.length_map]; exact hsl.len
        rw [hlen] at hv7
        subst hv7
        rw [hok, he] at hd
        have hns := hsl.len
        generalize ckX 999 ts true (tmK cS (some (z % 16)) s) = x at *
        generalize ckT 999 ts true (tmK cS (some (z % 16)) s) = ts' at *
        generalize z % 16 = q at *
        have Hcw := Lib.hid hcw
        have Hcz := Lib.hid hcz
        have HD := Lib.hid hd
        have HSL := Lib.hid hsl'
        have HLN := Lib.hid hns
        have Hg := Lib.hid (sealA_good (.slice ao7 k cap7) ns p ts)
        have hS2 := At.drew Hg.out hS
        have hc2 := hcw _ hS2.bel
        have hcc2 := hcz _ hS2.bel
        clear hcw hcz hd hsl hsl' he hs hz hok hlen hns
        go_wp2
        go_region_with ((go_at_call 24; (with_reducible refine (At.op1 HD.out (rowA_good _ _ _) emp_good hS2).mono ?_); rintro e w1 ⟨rfl, hS3⟩))
        all_goals
          go_wp2_with (first
            | (go_at_call 16; refine (lnum _ _).mono ?_; rintro e w1 ⟨rfl, rfl⟩)
            | (at_builtin; refine app_int (good1 _ _ _) rfl _ _ rfl _ ns x rfl rfl hS3 (by rw [HLN.out]; omega) ?_; intro v' w2 hS4))
          go_roundw
          case rel => exact ⟨k + 1, ts', ns ++ [x], by omega, by go_num, hS4, HSL.out⟩
          case measure => simp [intOf]; omega
    · obtain rfl : k = 12 := by omega
      clear hk hlt
      rw [show ((12 : Nat) : Int) = 12 from rfl]
      obtain ⟨ao7, cap7, hv7⟩ := rowI_shape hS.row
      have hlen : (vals ns).length = 12 := by rw [List.length_map]; exact hsl.len
      rw [hlen] at hv7
      subst hv7
      have HSL := Lib.hid hsl
      have HLN := Lib.hid hsl.len
      clear hsl hlen
      go_wp2
      go_loopw [12] (fun i wr => ∃ j : Nat, j ≤ 12 ∧ i = .int .i64 j ∧ At w (sealA (.slice ao7 12 cap7) ns p ts) wr) (fun i _ => 12 - (intOf i).toNat)
      case atStart => exact ⟨0, Nat.zero_le _, rfl, hS⟩
      case round =>
        clear hS
        obtain ⟨j, hj, rfl, hS⟩ := hrel
        by_cases hjl : j < 12
        · have hq3 : (j : Int) < 12 := by omega
          go_wp2
          go_loopw [13] (fun i wr => ∃ q : Nat, q ≤ 16 ∧ i = .int .i64 q ∧ At w (sealA (.slice ao7 12 cap7) ns p ts) wr) (fun i _ => 16 - (intOf i).toNat)
          case atStart => exact ⟨0, Nat.zero_le _, rfl, hS⟩
          case round =>
            clear hS
            obtain ⟨q, hq, rfl, hS⟩ := hrel
            by_cases hql : q < 16
            · obtain ⟨b, off, s, rfl, hs, hsz, hcw⟩ := HA.out.at (k := j) (by omega)
              obtain ⟨bz, offz, z, rfl, hz, hzb, hcz⟩ := HZ.out.at (k := j) (by omega)
              obtain ⟨o1, o2⟩ := HSL.out.opens hjl hz hs (q : Int) (by omega) (by omega)
              have hd := dopen p 999 ts (q : Int) (ns.getD j 0) (by omega) (by omega)
              rw [o1, o2] at hd
              have hmask := i64_mask z 4 (by omega)
              rw [show ((2 ^ 4 - 1 : Nat) : Int) = 15 from by decide, show ((2 ^ 4 : Nat) : Int) = 16 from by decide] at hmask
              obtain ⟨g7, _, hv7, hc7⟩ := hS.num (j := j) (by rw [HLN.out]; exact hjl)
              obtain rfl : ao7 = some ⟨g7, 0, Option.none⟩ := by simp at hv7; exact hv7.1
              generalize ns.getD j 0 = y at *
              have hq2 : (0 : Int) ≤ z % 16 ∧ z % 16 ≤ 15 := by omega
              generalize z % 16 = r at *
              have hq0 : (j : Int) < (ss.length : Int) := by omega
              have hq1 : (j : Int) < (zs.length : Int) := by omega
              have Hcw := Lib.hid hcw
              have Hcz := Lib.hid hcz
              clear hcw hcz hs hz hv7 o1 o2
              by_cases hrq : r = (q : Int)
              · rw [if_pos hrq, if_pos hrq] at hd
                have hb1 : ((q : Int) == r) = true := by simp [hrq]
                have HD := Lib.hid hd
                clear hrq hd
                go_wp2_with (go_at_call 12; (with_reducible refine (At.op1 HD.out (rowA_good _ _ _) emp_good hS).mono ?_); rintro e w1 ⟨rfl, hS1⟩; replace hS := hS1; clear hS1; have hc := Hcw.out _ hS.bel; have hcc := Hcz.out _ hS.bel)
                go_big_quiet ((go_at_call 16; exact Calls.quiet_of_same (lnum' _ _)))
                go_wp2
                go_roundw
                case rel => exact ⟨q + 1, by omega, by go_num, hS.lay (sealA_good _ _ _ _) (below_drewN _ _)⟩
                case measure => simp [intOf]; omega
              · rw [if_neg hrq, if_neg hrq] at hd
                have hb1 : ((q : Int) == r) = false := by rw [beq_eq_false_iff_ne]; exact fun e => hrq e.symm
                have HD := Lib.hid hd
                clear hrq hd
                go_wp2_with (go_at_call 12; (with_reducible refine (At.op1 HD.out (rowA_good _ _ _) emp_good hS).mono ?_); rintro e w1 ⟨rfl, hS1⟩; replace hS := hS1; clear hS1; have hc := Hcw.out _ hS.bel; have hcc := Hcz.out _ hS.bel)
                go_big_quiet ((go_at_call 16; exact Calls.quiet_of_same (lnum' _ _)))
                go_wp2
                go_roundw
                case rel => exact ⟨q + 1, by omega, by go_num, hS.lay (sealA_good _ _ _ _) (below_drewN _ _)⟩
                case measure => simp [intOf]; omega
            · obtain rfl : q = 16 := by omega
              clear hq hql
              rw [show ((16 : Nat) : Int) = 16 from rfl]
              go_wp2
              go_roundw
              case rel => exact ⟨j + 1, by omega, by go_num, hS⟩
              case measure => simp [intOf]; omega
        · have hge : 12 ≤ j := by omega
          go_wp2
          go_ret
          exact ⟨rfl, hS.bel⟩

theorem seals_walk (ak ao : Option Addr) (ck cap : Nat) (zs : List Int) (ss : List ByteArray) (w : World) (hZ : IArg w ak zs) (hA : SArg w ao ss) :
    Calls Try.prog 7 #[.slice ak zs.length ck, .slice ao ss.length cap] w fun e w' => e = .returned (.bool true) ∧ Below w.heap.size w w' := by
  by_cases h : 12 < zs.length ∧ 12 < ss.length
  · exact seals_many ak ao ck cap zs ss w hZ hA h
  · by_cases c : ss.length < zs.length
    · exact seals_few ak ao ck cap zs ss ss.length w hZ hA (by rw [if_pos c]) (by omega) (by omega) (by omega)
    · exact seals_few ak ao ck cap zs ss zs.length w hZ hA (by rw [if_neg c]) (by omega) (by omega) (by omega)
end Go.Proofs.Ythbpnffiibjgjaa
