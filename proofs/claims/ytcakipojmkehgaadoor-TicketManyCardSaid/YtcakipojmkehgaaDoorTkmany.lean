/- The walk of TicketMany: of tickets of several epochs each opens while its own is live, to its own body. Condition: the handle of the type error. -/
import Derived.Test.YtcakipojmkehgaaDoorTkback
import Derived.Test.YtcakipojmkehgaaDoorRowA
namespace Go.Proofs.YtcakipojmkehgaaDoor
open Go Go.RowKit Go.Maps

abbrev manyA (v : Value) (ns : List Int) (p q : Nat) (ts : List ByteArray) : Ass := (rowA 3 v (vals ns)).star ((refA q 99 []).star ((bookA p 99 ts).star emp))
theorem manyA_good (v : Value) (ns : List Int) (p q : Nat) (ts : List ByteArray) : (manyA v ns p q ts).Good := (rowA_good _ _ _).star (rb_good _ _ _ _ _ _)
/-- What the tickets so far are. -/
structure Mny (ts : List ByteArray) (ns zs : List Int) (k : Nat) : Prop where
  len : ns.length = k
  le : ts.length ≤ 2 * k
  tk : ∀ j, j < k → TkAt ts (zs.getD j 0 % 8) (ns.getD j 0) ⟨(j : Int) % 8, 0, 0, j, 5⟩
theorem mny_may (j : Nat) (hj : j < 12) : (Bd.mk ((j : Int) % 8) 0 0 j 5).may = true := by
  rw [Bd.may_iff]
  simp only [okNum_iff]
  omega
theorem Mny.step {ts : List ByteArray} {ns zs : List Int} {k : Nat} (h : Mny ts ns zs k) (hk : k < 12) {z : Int} (hz : zs.getD k 0 = z) : ∃ X T, tpX 99 ts (z % 8) ⟨(k : Int) % 8, 0, 0, k, 5⟩ = X ∧ tpE 99 ts (z % 8) ⟨(k : Int) % 8, 0, 0, k, 5⟩ = 0 ∧ tpT 99 ts (z % 8) ⟨(k : Int) % 8, 0, 0, k, 5⟩ = T ∧ Mny T (ns ++ [X]) zs (k + 1) := by
  have hl := h.le
  have hn := h.len
  obtain ⟨l, q1, q2, q3, q4, q5, q6⟩ := tp_ok (most := 99) (ts := ts) (e := z % 8) (t := ⟨(k : Int) % 8, 0, 0, k, 5⟩) (by omega) (by omega) (by omega) (by omega) (mny_may k hk)
  obtain ⟨i1, i2⟩ := tmS_idx q5
  refine ⟨_, _, rfl, q3, rfl, ⟨by simp [hn], by rw [q1, List.length_append]; omega, fun j hj => ?_⟩⟩
  by_cases e : j = k
  · subst e
    rw [hz, show (ns ++ [tpX 99 ts (z % 8) ⟨(j : Int) % 8, 0, 0, j, 5⟩]).getD j 0 = tpX 99 ts (z % 8) ⟨(j : Int) % 8, 0, 0, j, 5⟩ by rw [List.getD, ← hn]; simp]
    exact ⟨q4, by rw [q6, i1], by rw [q6, i2]⟩
  · have hj' : j < k := by omega
    rw [show (ns ++ [tpX 99 ts (z % 8) ⟨(k : Int) % 8, 0, 0, k, 5⟩]).getD j 0 = ns.getD j 0 by rw [List.getD, List.getD, List.getElem?_append_left (by omega)], q1]
    exact (h.tk j hj').ext
set_option maxRecDepth 100000 in
set_option maxHeartbeats 16000000 in
theorem tkmany_walk' (now keep : Int) (ao : Option Addr) (ca : Nat) (zs : List Int) (M : Nat) (w : World) (hg : Gd w) (hZ : IArg w ao zs) (m o : Int) (hmm : bits .and .i64 now 15 = m) (m0 : 0 ≤ m) (m1 : m ≤ 15) (hoo : (IntKind.u64.wrap keep).tmod 5 = o) (o0 : 0 ≤ o) (o1 : o ≤ 4)
    (hM : min (zs.length : Int) 12 = (M : Int)) (hM1 : M ≤ 12) (hM2 : M ≤ zs.length) :
    Calls Tryd.prog 7 #[.slice ao zs.length ca, .int .i64 now, .int .i64 keep] w fun e w' => e = .returned (.bool true) ∧ Below w.heap.size w w' := by
  have hfz := hZ.few
  have HG := Lib.hid hg
  have HZ := Lib.hid hZ
  clear hZ hg
  go_enter Tryd.func7, Tryd.ntmps7
  go_wp2_with (first
    | (go_at_call 9; (with_reducible refine (awake15 _ HG.out).mono ?_); rintro e w1 ⟨rfl, hb1⟩)
    | (go_at_call 8; (with_reducible refine (twin_none15 99 _ (by omega) (by omega)).mono ?_); rintro e w2 ⟨p, q, rfl, hb⟩; have hS := ((At.start hb).under hb1).row0 3; clear hb hb1))
  clear hM
  go_loopw [9, 11] (fun v i wr => ∃ (k : Nat) (ts : List ByteArray) (ns : List Int), k ≤ M ∧ i = .int .i64 k ∧ At w (manyA v ns p q ts) wr ∧ Mny ts ns zs k) (fun _ i _ => M - (intOf i).toNat)
  case atStart => exact ⟨0, [], [], Nat.zero_le _, rfl, hS, ⟨rfl, Nat.le_refl _, fun j hj => by cases hj⟩⟩
  case round =>
    clear hS
    obtain ⟨k, ts, ns, hk, rfl, hS, hsl⟩ := hrel
    by_cases hlt : k < M
    · obtain ⟨bz, offz, z, rfl, hz, hzb, hcz⟩ := HZ.out.at (k := k) (by omega)
      have hcc := hcz _ hS.bel
      have hq1 : (k : Int) < (zs.length : Int) := by omega
      have hmask := i64_mask z 3 (by omega)
      rw [show ((2 ^ 3 - 1 : Nat) : Int) = 7 from by decide, show ((2 ^ 3 : Nat) : Int) = 8 from by decide] at hmask
      have hmask2 := i64_mask (k : Int) 3 (by omega)
      rw [show ((2 ^ 3 - 1 : Nat) : Int) = 7 from by decide, show ((2 ^ 3 : Nat) : Int) = 8 from by decide] at hmask2
      have hq2 : (0 : Int) ≤ z % 8 ∧ z % 8 ≤ 7 := by omega
      obtain ⟨X, T, t1, t2, t3, hsl'⟩ := hsl.step (by omega) hz
      have P1 := fun p => dtput_to (p := p) (by omega) (by omega) t1 t2 t3
      obtain ⟨ao7, cap7, hv7⟩ := rowI_shape hS.row
      have hlen : (vals ns).length = k := by rw [List.length_map]; exact hsl.len
      rw [hlen] at hv7
      subst hv7
      have hns := hsl.len
      generalize z % 8 = E at *
      have H1 := Lib.hid P1
      have HSL := Lib.hid hsl'
      have HLN := Lib.hid hns
      clear P1 t1 t2 t3 hsl hsl' hz hlen hns hcz
      go_wp2_with (first
        | (go_at_call 10; (with_reducible refine (At.op2 (H1.out _) (rowA_good _ _ _) (refA_good _ _ _) emp_good hS).mono ?_); rintro r w3 ⟨rfl, hS3⟩)
        | (go_at_call 14; (with_reducible refine (lnum _ _).mono ?_); rintro r w9 ⟨rfl, rfl⟩)
        | (at_builtin; refine app_int (rb_good _ _ _ _ _ _) rfl _ _ rfl _ ns X rfl rfl hS3 (by rw [HLN.out]; omega) ?_; intro v' w4 hS4))
      go_roundw
      case rel => exact ⟨k + 1, T, ns ++ [X], by omega, by go_num, hS4, HSL.out⟩
      case measure => simp [intOf]; omega
    · obtain rfl : k = M := by omega
      clear hk hlt
      obtain ⟨ao7, cap7, hv7⟩ := rowI_shape hS.row
      have hlen : (vals ns).length = k := by rw [List.length_map]; exact hsl.len
      rw [hlen] at hv7
      subst hv7
      have HSL := Lib.hid hsl
      clear hsl hlen
      go_wp2_with (first
        | (go_at_call 16; (with_reducible refine (At.op2 (dlen _ _ _) (rowA_good _ _ _) (refA_good _ _ _) emp_good hS).mono ?_); rintro r w5 ⟨rfl, hS1⟩; replace hS := hS1; clear hS1))
      go_loopw [17] (fun i wr => ∃ j : Nat, j ≤ k ∧ i = .int .i64 j ∧ At w (manyA (.slice ao7 k cap7) ns p q ts) wr) (fun i _ => k - (intOf i).toNat)
      case atStart => exact ⟨0, Nat.zero_le _, rfl, hS⟩
      case round =>
        clear hS
        obtain ⟨j, hj, rfl, hS⟩ := hrel
        by_cases hlt : j < k
        · obtain ⟨bz, offz, z, rfl, hz, hzb, hcz⟩ := HZ.out.at (k := j) (by omega)
          obtain ⟨g, cap8, hv8, hcg⟩ := hS.num (j := j) (by rw [HSL.out.len]; exact hlt)
          rw [HSL.out.len] at hv8
          obtain ⟨rfl, rfl⟩ : ao7 = some ⟨g, 0, none⟩ ∧ cap7 = cap8 := by simpa using hv8
          have hq1 : (j : Int) < (zs.length : Int) := by omega
          have hmask := i64_mask z 3 (by omega)
          rw [show ((2 ^ 3 - 1 : Nat) : Int) = 7 from by decide, show ((2 ^ 3 : Nat) : Int) = 8 from by decide] at hmask
          have hmask2 := i64_mask (j : Int) 3 (by omega)
          rw [show ((2 ^ 3 - 1 : Nat) : Int) = 7 from by decide, show ((2 ^ 3 : Nat) : Int) = 8 from by decide] at hmask2
          have htk := HSL.out.tk j hlt
          rw [hz] at htk
          have hle := HSL.out.le
          obtain ⟨f1, f2⟩ := tk_find (now := m) (keep := o) htk (by omega) (by omega) (by omega) (mny_may j (by omega)) m0 (by omega) o0 o1
          have hq2 : (0 : Int) ≤ z % 8 ∧ z % 8 ≤ 7 := by omega
          generalize ns.getD j 0 = X at *
          generalize z % 8 = E at *
          have Hcz := Lib.hid hcz
          clear hcz hv8 htk hz
          by_cases hl : E ≤ m ∧ m - E ≤ o
          · obtain ⟨g1, g2⟩ := f1 hl
            obtain ⟨hl1, hl2⟩ := hl
            have H3 := Lib.hid (fun p => dtget_to (p := p) (most := 99) g1 g2)
            clear f1 f2 g1 g2
            go_wp2_with (first
              | (go_at_call 12; (with_reducible refine (At.op2G (H3.out _) (rowA_good _ _ _) (refA_good _ _ _) emp_good HG.out hS).mono ?_); rintro r w6 ⟨rfl, hS1⟩; replace hS := hS1.lay (manyA_good _ _ _ _ _) (balloc2 _ (.cells #[.int .i64 ((j : Int) % 8), .int .i64 0, .int .i64 0, .int .i64 j, .int .i64 5] 34)); have hcc := Hcz.out _ hS.bel; clear hS1)
              | (go_at_call 14; (with_reducible refine (lnum _ _).mono ?_); rintro r w9 ⟨rfl, rfl⟩))
            go_roundw
            case rel => exact ⟨j + 1, by omega, by go_num, hS⟩
            case measure => simp [intOf]; omega
          · obtain ⟨g1, g2⟩ := f2 hl
            have H3 := Lib.hid (fun p => dtget_to (p := p) (most := 99) g1 g2)
            clear f1 f2 g1 g2
            by_cases hge : E ≤ m
            · have hk2 : ¬ m - E ≤ o := fun c => hl ⟨hge, c⟩
              clear hl
              go_wp2_with (first
                | (go_at_call 12; (with_reducible refine (At.op2G (H3.out _) (rowA_good _ _ _) (refA_good _ _ _) emp_good HG.out hS).mono ?_); rintro r w6 ⟨rfl, hS1⟩; replace hS := hS1.lay (manyA_good _ _ _ _ _) (balloc2 _ (.cells #[.int .i64 0, .int .i64 0, .int .i64 0, .int .i64 0, .int .i64 0] 34)); have hcc := Hcz.out _ hS.bel; clear hS1)
                | (go_at_call 14; (with_reducible refine (lnum _ _).mono ?_); rintro r w9 ⟨rfl, rfl⟩))
              go_roundw
              case rel => exact ⟨j + 1, by omega, by go_num, hS⟩
              case measure => simp [intOf]; omega
            · clear hl
              go_wp2_with (first
                | (go_at_call 12; (with_reducible refine (At.op2G (H3.out _) (rowA_good _ _ _) (refA_good _ _ _) emp_good HG.out hS).mono ?_); rintro r w6 ⟨rfl, hS1⟩; replace hS := hS1.lay (manyA_good _ _ _ _ _) (balloc2 _ (.cells #[.int .i64 0, .int .i64 0, .int .i64 0, .int .i64 0, .int .i64 0] 34)); have hcc := Hcz.out _ hS.bel; clear hS1)
                | (go_at_call 14; (with_reducible refine (lnum _ _).mono ?_); rintro r w9 ⟨rfl, rfl⟩))
              go_roundw
              case rel => exact ⟨j + 1, by omega, by go_num, hS⟩
              case measure => simp [intOf]; omega
        · obtain rfl : j = k := by omega
          clear hlt hj
          go_wp2_with (first
            | (go_at_call 16; (with_reducible refine (At.op2 (dlen _ _ _) (rowA_good _ _ _) (refA_good _ _ _) emp_good hS).mono ?_); rintro r w5 ⟨rfl, hS1⟩; replace hS := hS1; clear hS1))
          go_ret
          exact ⟨rfl, hS.bel⟩
theorem tkmany_walk (now keep : Int) (ao : Option Addr) (ca : Nat) (zs : List Int) (w : World) (hg : Gd w) (hZ : IArg w ao zs) :
    Calls Tryd.prog 7 #[.slice ao zs.length ca, .int .i64 now, .int .i64 keep] w fun e w' => e = .returned (.bool true) ∧ Below w.heap.size w w' := by
  have hu0 : 0 ≤ IntKind.u64.wrap keep := by rw [IntKind.wrap_u64]; omega
  have hm := i64_mask now 4 (by omega)
  rw [show ((2 ^ 4 - 1 : Nat) : Int) = 15 from by decide, show ((2 ^ 4 : Nat) : Int) = 16 from by decide] at hm
  have hk := Int.tmod_eq_emod_of_nonneg (b := 5) hu0
  exact tkmany_walk' now keep ao ca zs (min zs.length 12) w hg hZ _ _ hm (by omega) (by omega) hk (by omega) (by omega) (by omega) (by omega) (by omega)
end Go.Proofs.YtcakipojmkehgaaDoor
