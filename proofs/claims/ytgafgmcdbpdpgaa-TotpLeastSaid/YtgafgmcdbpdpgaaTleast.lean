/- The walk of TotpLeast: codes of unlike steps and secrets are unlike, each is taken at its own steps. No condition. -/
import Derived.Test.YtgafgmcdbpdpgaaTpaw
import Derived.Test.YtgafgmcdbpdpgaaRowA
import Derived.Test.YtgafgmcdbpdpgaaFplain3
namespace Go.Proofs.Ytgafgmcdbpdpgaa
open Go Go.RowKit Go.Maps

/-- What has been named so far: each code stands for its own step. -/
structure Tl (ts : List ByteArray) (ns : List Int) (x i0 : Int) (m : Nat) : Prop where
  len : ns.length = m
  le : ts.length ≤ 2 * m
  at_ : ∀ j : Nat, j < m → cdK x (i0 + j) ∈ ts ∧ ns.getD j 0 = (idx ts (cdK x (i0 + j)) : Nat)
theorem Tl.step {ts T1 T2 : List ByteArray} {ns : List Int} {x y i0 i X Y : Int} {m : Nat} (h : Tl ts ns x i0 m) (hi : i = i0 + m) (hm : m ≤ 10) (h1 : 1 ≤ i0) (h2 : i ≤ 1000) (x0 : 0 ≤ x) (x1 : x ≤ 1073741823) (y0 : 0 ≤ y) (y1 : y ≤ 1073741823)
    (hX : tpX 99 ts x i = X) (hT1 : tpT 99 ts x i = T1) (hY : tpX 99 T1 y i = Y) (hT2 : tpT 99 T1 y i = T2) :
    tpE 99 ts x i = 0 ∧ tpE 99 T1 y i = 0 ∧ (X = Y ↔ x = y) ∧ (∀ j : Nat, j < m → ns.getD j 0 ≠ X) ∧ Tl T2 (ns ++ [X]) x i0 (m + 1) ∧
      ∀ last tick, accX T2 x last tick X = if stX tick ≠ 0 ∧ last < i ∧ stX tick - 1 ≤ i ∧ i ≤ stX tick + 1 then i else 0 := by
  have hle := h.le
  obtain ⟨a1, a2, a3, a4, a5⟩ := tp_room (most := 99) (ts := ts) (sec := x) (k := i) x0 x1 (by omega) (by omega) (by omega)
  rw [hX] at a2
  rw [hT1] at a2 a3 a4 a5
  obtain ⟨b1, b2, b3, b4, b5⟩ := tp_room (most := 99) (ts := T1) (sec := y) (k := i) y0 y1 (by omega) (by omega) (by omega)
  rw [hY] at b2
  rw [hT2] at b2 b3 b4 b5
  obtain ⟨c1, c2⟩ := b5 _ a3
  rw [← c2] at a2
  have hold : ∀ j : Nat, j < m → cdK x (i0 + j) ∈ T2 ∧ ns.getD j 0 = (idx T2 (cdK x (i0 + j)) : Nat) := fun j hj => by
    obtain ⟨d1, d2⟩ := h.at_ j hj
    obtain ⟨d3, d4⟩ := a5 _ d1
    obtain ⟨d5, d6⟩ := b5 _ d3
    exact ⟨d5, by rw [d2, d6, d4]⟩
  refine ⟨a1, b1, ⟨fun e => ?_, fun e => ?_⟩, fun j hj e => ?_, ⟨by simp [h.len], by omega, fun j hj => ?_⟩, fun last tick => ?_⟩
  · rw [a2, b2] at e
    exact (cdK_inj x0 x1 y0 y1 (by omega) (by omega) (by omega) (by omega) (idx_inj c1 b3 (by omega))).1
  · rw [a2, b2, e]
  · obtain ⟨d1, d2⟩ := hold j hj
    rw [d2, a2] at e
    have := (cdK_inj x0 x1 x0 x1 (by omega) (by omega) (by omega) (by omega) (idx_inj d1 c1 (by omega))).2
    omega
  · by_cases e : j = m
    · subst e
      refine ⟨by rw [← hi]; exact c1, ?_⟩
      rw [← hi, ← a2, ← h.len]
      simp [List.getD]
    · have hj' : j < m := by omega
      have hg : (ns ++ [X]).getD j 0 = ns.getD j 0 := by
        have := h.len
        rw [List.getD, List.getD, List.getElem?_append_left (by omega)]
      rw [hg]
      exact hold j hj'
  · rw [a2]
    exact acc_idx last tick x0 x1 (by omega) (by omega) c1

abbrev lstA (v : Value) (ns : List Int) (p q : Nat) (ts : List ByteArray) : Ass := (rowA 3 v (vals ns)).star ((refA q 99 []).star ((bookA p 99 ts).star emp))
theorem lstA_good (v : Value) (ns : List Int) (p q : Nat) (ts : List ByteArray) : (lstA v ns p q ts).Good := (rowA_good _ _ _).star ((refA_good _ _ _).star (good1 _ _ _))
set_option maxRecDepth 100000 in
set_option maxHeartbeats 8000000 in
theorem tleast_walk (a c tick last : Int) (w : World) :
    Calls Try.prog 6 #[.int .i64 a, .int .i64 c, .int .i64 tick, .int .i64 last] w fun e w' => e = .returned (.bool true) ∧ Below w.heap.size w w' := by
  have hma := i64_mask a 30 (by omega)
  rw [show ((2 ^ 30 - 1 : Nat) : Int) = 1073741823 from by decide, show ((2 ^ 30 : Nat) : Int) = 1073741824 from by decide] at hma
  obtain ⟨x, hx⟩ : ∃ x, a % 1073741824 = x := ⟨_, rfl⟩
  have x0 : 0 ≤ x := by omega
  have x1 : x ≤ 1073741823 := by omega
  rw [hx] at hma
  clear hx
  have hmc := i64_mask c 30 (by omega)
  rw [show ((2 ^ 30 - 1 : Nat) : Int) = 1073741823 from by decide, show ((2 ^ 30 : Nat) : Int) = 1073741824 from by decide] at hmc
  obtain ⟨y, hy⟩ : ∃ y, c % 1073741824 = y := ⟨_, rfl⟩
  have y0 : 0 ≤ y := by omega
  have y1 : y ≤ 1073741823 := by omega
  rw [hy] at hmc
  clear hy
  have htm := i64_mask tick 10 (by omega)
  rw [show ((2 ^ 10 - 1 : Nat) : Int) = 1023 from by decide, show ((2 ^ 10 : Nat) : Int) = 1024 from by decide] at htm
  obtain ⟨t, ht⟩ : ∃ t, tick % 1024 = t := ⟨_, rfl⟩
  have t0 : 0 ≤ t := by omega
  have t1 : t ≤ 1023 := by omega
  rw [ht] at htm
  clear ht
  have hd : t.tdiv 30 = t / 30 := Int.tdiv_eq_ediv_of_nonneg t0
  obtain ⟨d, hdd⟩ : ∃ d, t / 30 = d := ⟨_, rfl⟩
  have d0 : 0 ≤ d := by omega
  have d1 : d ≤ 34 := by omega
  have hst : stX t = d + 1 := by rw [stX_in t0 (by omega), hdd]
  rw [hdd] at hd
  clear hdd
  have r0 : ¬ d + 1 + 3 = 0 := by omega
  obtain ⟨k, hk⟩ : ∃ k, last.tmod (d + 1 + 3) = k := ⟨_, rfl⟩
  have k0 : -38 ≤ k := by
    have := Int.lt_tmod_of_pos last (show 0 < d + 1 + 3 by omega)
    omega
  have k1 : k ≤ 38 := by
    have := Int.tmod_lt_of_pos last (show 0 < d + 1 + 3 by omega)
    omega
  obtain ⟨i0, hi0⟩ : ∃ i0, (if d + 1 - 2 < 1 then 1 else d + 1 - 2) = i0 := ⟨_, rfl⟩
  have i01 : 1 ≤ i0 := by split at hi0 <;> omega
  have i02 : d - 1 ≤ i0 := by split at hi0 <;> omega
  have i03 : i0 ≤ d + 3 := by split at hi0 <;> omega
  have hmax : max (1 : Int) (d + 1 - 2) = i0 := by split at hi0 <;> omega
  have hmax2 : (if (1 : Int) < d + 1 - 2 then d + 1 - 2 else 1) = i0 := by split at hi0 <;> split <;> omega
  clear hi0
  go_enter Try.func6, Try.ntmps6
  go_wp2_with (first
    | (go_at_call 8; (with_reducible refine (awake12 _).mono ?_); rintro e w1 ⟨rfl, hb1⟩)
    | (go_at_call 7; (with_reducible refine (twin_none12 99 _ (by omega) (by omega)).mono ?_); rintro e w2 ⟨p, q, rfl, hb⟩; have hS := ((At.start hb).under hb1).row0 3; clear hb hb1))
  clear hmax hmax2 htm hd hk r0
  go_loopw [14, 15] (fun v i wr => ∃ (m : Nat) (j : Int) (ts : List ByteArray) (ns : List Int), i = .int .i64 j ∧ j = i0 + m ∧ j ≤ d + 4 ∧ At w (lstA v ns p q ts) wr ∧ Tl ts ns x i0 m) (fun _ i _ => (d + 4 - intOf i).toNat)
  case atStart => exact ⟨0, i0, [], [], rfl, by omega, by omega, hS, ⟨rfl, by simp, fun j hj => by cases hj⟩⟩
  case round =>
    clear hS
    obtain ⟨m, i, ts, ns, rfl, hi, hile, hS, hT⟩ := hrel
    obtain ⟨ao7, cap7, hv7⟩ := rowI_shape hS.row
    have hlen : (vals ns).length = m := by rw [List.length_map]; exact hT.len
    have hln := hT.len
    rw [hlen] at hv7
    subst hv7
    by_cases hlt : i ≤ d + 1 + 2
    · have hCx := fun p ts => ptcode p 99 ts x i (by omega) (by omega)
      have hCy := fun p ts => ptcode p 99 ts y i (by omega) (by omega)
      have hAc := fun p ts code => ptaccept p 99 ts x k t code (by omega) (by omega)
      obtain ⟨X, hX⟩ : ∃ X, tpX 99 ts x i = X := ⟨_, rfl⟩
      obtain ⟨T1, hT1⟩ : ∃ X, tpT 99 ts x i = X := ⟨_, rfl⟩
      obtain ⟨Y, hY⟩ : ∃ X, tpX 99 T1 y i = X := ⟨_, rfl⟩
      obtain ⟨T2, hT2⟩ : ∃ X, tpT 99 T1 y i = X := ⟨_, rfl⟩
      obtain ⟨e1, e2, e3, e4, e5, e6⟩ := hT.step hi (by omega) i01 (by omega) x0 x1 y0 y1 hX hT1 hY hT2
      have c1 := hCx p ts
      have c2 := hCy p T1
      have a1 := hAc p T2 X
      rw [hX, hT1, e1] at c1
      rw [hY, hT2, e2] at c2
      have hP := e6 k t
      have hB := accB_eq hP
      rw [hP, hB, hst] at a1
      have hxy : ((X == Y) = true ∧ (x == y) = true) ∨ ((X == Y) = false ∧ (x == y) = false) := by
        by_cases e : x = y
        · exact .inl ⟨by simpa using e3.2 e, by simpa using e⟩
        · exact .inr ⟨by simpa using fun c => e (e3.1 c), by simpa using e⟩
      have E4 := Lib.hid e4
      have E5 := Lib.hid e5
      have K1 := Lib.hid c1
      have K2 := Lib.hid c2
      have A1 := Lib.hid a1
      have HLN := Lib.hid hln
      have HI := Lib.hid hi
      have hm4 : m ≤ 4 := by omega
      have hi1 : 1 ≤ i := by omega
      have n0 : d + 1 ≠ 0 := by omega
      clear hi c1 c2 a1 hP hB e1 e2 e3 e4 e5 e6 hX hT1 hY hT2 hCx hCy hAc hT hlen hln
      rcases hxy with ⟨q1, q2⟩ | ⟨q1, q2⟩
      all_goals
        go_wp2_with (first
          | (go_at_call 9; first
              | ((with_reducible refine (At.op2 K1.out (rowA_good _ _ _) (refA_good _ _ _) emp_good hS).mono ?_); rintro e w3 ⟨rfl, hS1⟩; replace hS := hS1; clear hS1 K1)
              | ((with_reducible refine (At.op2 K2.out (rowA_good _ _ _) (refA_good _ _ _) emp_good hS).mono ?_); rintro e w3 ⟨rfl, hS1⟩; replace hS := hS1; clear hS1 K2))
          | (go_at_call 13; refine (lnum _ _).mono ?_; rintro e w4 ⟨rfl, rfl⟩))
        go_loopw [20] (fun u wr => ∃ j : Nat, j ≤ m ∧ u = .int .i64 j ∧ At w (lstA (.slice ao7 m cap7) ns p q T2) wr) (fun u _ => m - (intOf u).toNat)
        case atStart => exact ⟨0, Nat.zero_le _, rfl, hS⟩
        case round =>
          clear hS
          obtain ⟨j, hj, rfl, hS⟩ := hrel
          by_cases hjl : j < m
          · obtain ⟨g7, _, hv7, hc7⟩ := hS.num (j := j) (by rw [HLN.out]; exact hjl)
            obtain rfl : ao7 = some ⟨g7, 0, Option.none⟩ := by simp at hv7; exact hv7.1
            have hne : (ns.getD j 0 == X) = false := by simpa using E4.out j hjl
            generalize ns.getD j 0 = z at *
            have hjm : (j : Int) < (m : Int) := by omega
            clear hv7
            go_wp2
            go_roundw
            case rel => exact ⟨j + 1, by omega, by go_num, hS⟩
            case measure => simp [intOf]; omega
          · obtain rfl : j = m := by omega
            clear hjl hj q1 q2
            by_cases c1 : d + 1 - 1 ≤ i
            · by_cases c2 : i ≤ d + 1 + 1
              · by_cases c3 : k < i
                · have hiz : ¬ i = 0 := by omega
                  rw [if_pos ⟨n0, c3, c1, c2⟩, decide_eq_true (by omega : 0 < i)] at A1
                  go_wp2_with (first
                    | (at_builtin; refine app_int ((refA_good _ _ _).star (good1 _ _ _)) rfl _ _ rfl _ ns X rfl rfl hS (by rw [HLN.out]; omega) ?_; intro v' w2 hS4; replace hS := hS4; clear hS4)
                    | (go_at_call 11; (with_reducible refine (At.op2 A1.out (rowA_good _ _ _) (refA_good _ _ _) emp_good hS).mono ?_); rintro e w3 ⟨rfl, hS1⟩; replace hS := hS1; clear hS1))
                  go_roundw
                  case rel => exact ⟨j + 1, i + 1, T2, ns ++ [X], by go_num, by have := HI.out; omega, by omega, hS, E5.out⟩
                  case measure => simp [intOf]; omega
                · rw [if_neg (by omega)] at A1
                  go_wp2_with (first
                    | (at_builtin; refine app_int ((refA_good _ _ _).star (good1 _ _ _)) rfl _ _ rfl _ ns X rfl rfl hS (by rw [HLN.out]; omega) ?_; intro v' w2 hS4; replace hS := hS4; clear hS4)
                    | (go_at_call 11; (with_reducible refine (At.op2 A1.out (rowA_good _ _ _) (refA_good _ _ _) emp_good hS).mono ?_); rintro e w3 ⟨rfl, hS1⟩; replace hS := hS1; clear hS1))
                  go_roundw
                  case rel => exact ⟨j + 1, i + 1, T2, ns ++ [X], by go_num, by have := HI.out; omega, by omega, hS, E5.out⟩
                  case measure => simp [intOf]; omega
              · rw [if_neg (by omega)] at A1
                go_wp2_with (first
                  | (at_builtin; refine app_int ((refA_good _ _ _).star (good1 _ _ _)) rfl _ _ rfl _ ns X rfl rfl hS (by rw [HLN.out]; omega) ?_; intro v' w2 hS4; replace hS := hS4; clear hS4)
                  | (go_at_call 11; (with_reducible refine (At.op2 A1.out (rowA_good _ _ _) (refA_good _ _ _) emp_good hS).mono ?_); rintro e w3 ⟨rfl, hS1⟩; replace hS := hS1; clear hS1))
                go_roundw
                case rel => exact ⟨j + 1, i + 1, T2, ns ++ [X], by go_num, by have := HI.out; omega, by omega, hS, E5.out⟩
                case measure => simp [intOf]; omega
            · rw [if_neg (by omega)] at A1
              go_wp2_with (first
                | (at_builtin; refine app_int ((refA_good _ _ _).star (good1 _ _ _)) rfl _ _ rfl _ ns X rfl rfl hS (by rw [HLN.out]; omega) ?_; intro v' w2 hS4; replace hS := hS4; clear hS4)
                | (go_at_call 11; (with_reducible refine (At.op2 A1.out (rowA_good _ _ _) (refA_good _ _ _) emp_good hS).mono ?_); rintro e w3 ⟨rfl, hS1⟩; replace hS := hS1; clear hS1))
              go_roundw
              case rel => exact ⟨j + 1, i + 1, T2, ns ++ [X], by go_num, by have := HI.out; omega, by omega, hS, E5.out⟩
              case measure => simp [intOf]; omega
    · clear hT hlen hln
      go_wp2
      go_ret
      exact ⟨rfl, hS.bel⟩
end Go.Proofs.Ytgafgmcdbpdpgaa
