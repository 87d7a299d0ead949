/- The walk of CraftSeals: a seal opens to its text with its own key alone, however many there are. No condition. -/
import Derived.Test.YthbpnffiibjgjaaClaw
import Derived.Test.YthbpnffiibjgjaaCplain2
import Derived.Test.YthbpnffiibjgjaaFplain3
import Derived.Test.YthbpnffiibjgjaaRowA
import Derived.Test.YthbpnffiibjgjaaSArg
import Derived.Deep.RegionWith
namespace Go.Proofs.Ythbpnffiibjgjaa
open Go Go.RowKit Go.Maps Go.BigFrame

/-- What has been sealed so far: each name stands for its own seal. -/
structure Sl (ts : List ByteArray) (ns zs : List Int) (ss : List ByteArray) (k : Nat) : Prop where
  len : ns.length = k
  le : ts.length ≤ k
  at_ : ∀ j, j < k → ∃ n : Nat, ns.getD j 0 = (n : Int) ∧ ts[n]? = some (tmK cS (some (zs.getD j 0 % 16)) (ss.getD j ⟨#[]⟩))
theorem Sl.step {ts : List ByteArray} {ns zs : List Int} {ss : List ByteArray} {k : Nat} {z : Int} {s : ByteArray} {most : Int} (h : Sl ts ns zs ss k) (hz : zs.getD k 0 = z) (hs : ss.getD k ⟨#[]⟩ = s) (hk : okT (tmK cS (some (z % 16)) s) = true) (hl : (ts.length : Int) < most) :
    Sl (ckT most ts true (tmK cS (some (z % 16)) s)) (ns ++ [ckX most ts true (tmK cS (some (z % 16)) s)]) zs ss (k + 1) ∧ ckE most ts true (tmK cS (some (z % 16)) s) = 0 := by
  have hlen := h.len
  have hle := h.le
  have hold : ∀ j, j < k → (ns ++ [ckX most ts true (tmK cS (some (z % 16)) s)]).getD j 0 = ns.getD j 0 := fun j hj => by
    rw [List.getD, List.getD, List.getElem?_append_left (by omega)]
  have hnew : (ns ++ [ckX most ts true (tmK cS (some (z % 16)) s)]).getD k 0 = ckX most ts true (tmK cS (some (z % 16)) s) := by
    simp [List.getD, ← hlen]
  by_cases hm : tmK cS (some (z % 16)) s ∈ ts
  · obtain ⟨e1, e2, e3⟩ := ck_old (most := most) hk hm
    refine ⟨⟨by simp [hlen], by rw [e3]; omega, fun j hj => ?_⟩, e2⟩
    by_cases c : j = k
    · subst c
      rw [hnew, e1, e3, hz, hs]
      exact ⟨_, rfl, idx_get hm⟩
    · rw [hold j (by omega), e3]
      exact h.at_ j (by omega)
  · obtain ⟨e1, e2, e3⟩ := ck_new (most := most) hk hm hl
    refine ⟨⟨by simp [hlen], by rw [e3]; simp; omega, fun j hj => ?_⟩, e2⟩
    by_cases c : j = k
    · subst c
      rw [hnew, e1, e3, hz, hs]
      exact ⟨_, rfl, by simp⟩
    · rw [hold j (by omega), e3]
      obtain ⟨n, h1, h2⟩ := h.at_ j (by omega)
      exact ⟨n, h1, by rw [List.getElem?_append_left (List.getElem?_eq_some_iff.1 h2).1]; exact h2⟩
theorem Sl.opens {ts : List ByteArray} {ns zs : List Int} {ss : List ByteArray} {k j : Nat} {z : Int} {s : ByteArray} (h : Sl ts ns zs ss k) (hj : j < k) (hz : zs.getD j 0 = z) (hs : ss.getD j ⟨#[]⟩ = s) (q : Int) (q0 : 0 ≤ q) (q1 : q < 16) :
    opS ts q (ns.getD j 0) = (if z % 16 = q then s else ⟨#[]⟩) ∧ opE ts q (ns.getD j 0) = (if z % 16 = q then 0 else 301) := by
  obtain ⟨n, h1, h2⟩ := h.at_ j hj
  rw [hz, hs] at h2
  have hn := (List.getElem?_eq_some_iff.1 h2).1
  rw [h1]
  have e1 : tmS ts (n : Int) = tmK cS (some (z % 16)) s := by rw [tmS_in hn]; simp [List.getD, h2]
  obtain ⟨_, a, b⟩ := op_seal (ts := ts) (x := z % 16) (y := q) (tag := (n : Int)) (s := s) (by omega) (by omega) (by omega) (by omega) e1 (tmE_in hn)
  exact ⟨a, b⟩

abbrev sealA (v : Value) (ns : List Int) (p : Nat) (ts : List ByteArray) : Ass := (rowA 3 v (vals ns)).star ((bookA p 999 ts).star emp)
theorem sealA_good (v : Value) (ns : List Int) (p : Nat) (ts : List ByteArray) : (sealA v ns p ts).Good := (rowA_good _ _ _).star (good1 _ _ _)
theorem At.drewn {A : Ass} {w0 w : World} (hA : A.Good) (h : At w0 A w) (n : Nat) : At w0 A (w.drewN n) := h.lay hA (below_drewN _ _)
theorem At.drew {A : Ass} {w0 w : World} (hA : A.Good) (h : At w0 A w) : At w0 A w.drew := h.lay hA ⟨rfl, rfl, rfl, Nat.le_refl _, fun _ _ => rfl⟩
theorem lnum' (n : Int) (w : World) : Calls Try.prog 16 #[.int .i64 n] w fun e w' => e = .returned (.int .i64 n) ∧ w' = w :=
  (lnum n w).mono fun _ _ ⟨a, b⟩ => ⟨a, b.symm⟩


set_option maxRecDepth 100000 in
set_option maxHeartbeats 8000000 in
theorem seals_few (ak ao : Option Addr) (ck cap : Nat) (zs : List Int) (ss : List ByteArray) (M : Nat) (w : World) (hZ : IArg w ak zs) (hA : SArg w ao ss) (hM : (if ss.length < zs.length then (ss.length : Int) else (zs.length : Int)) = (M : Int)) (hM1 : M ≤ 12) (hK1 : M ≤ zs.length) (hK2 : M ≤ ss.length) :
    Calls Try.prog 7 #[.slice ak zs.length ck, .slice ao ss.length cap] w fun e w' => e = .returned (.bool true) ∧ Below w.heap.size w w' := by
  have hfew := hA.few
  have hfewz := hZ.few
  have HA := Lib.hid hA
  have HZ := Lib.hid hZ
  clear hA hZ
  have hM12 : decide ((12 : Int) < (M : Int)) = false := by simp; omega
  have hM13 : ¬ (12 : Int) < (M : Int) := by omega
  have hM14 : ¬ 12 < M := by omega
  go_enter Try.func7, Try.ntmps7
  go_wp2_with (first
    | (go_at_call 9; (with_reducible refine (awake3 _).mono ?_); rintro e w1 ⟨rfl, hb1⟩; have hS0 := At.none hb1; clear hb1)
    | (go_at_call 26; (with_reducible refine (bnew_ok 999 _ (by omega) (by omega)).mono ?_); rintro e w1 ⟨p, rfl, hb⟩; have hS := (At.add emp_good hS0 hb).row0 3; clear hb)
    | (go_at_call 16; refine (lnum _ _).mono ?_; rintro e w1 ⟨rfl, rfl⟩))
  clear hS0
  clear hM12 hM13 hM14 hM
  go_loopw [7, 9] (fun v i wr => ∃ (k : Nat) (ts : List ByteArray) (ns : List Int), k ≤ M ∧ i = .int .i64 k ∧ At w (sealA v ns p ts) wr ∧ Sl ts ns zs ss k) (fun _ i _ => M - (intOf i).toNat)
  case atStart => exact ⟨0, [], [], Nat.zero_le _, rfl, hS, ⟨rfl, Nat.le_refl _, fun j hj => by cases hj⟩⟩
  case round =>
    clear hS
    obtain ⟨k, ts, ns, hk, rfl, hS, hsl⟩ := hrel
    by_cases hlt : k < M
    · obtain ⟨b, off, s, rfl, hs, hsz, hcw⟩ := HA.out.at (k := k) (by omega)
      obtain ⟨bz, offz, z, rfl, hz, hzb, hcz⟩ := HZ.out.at (k := k) (by omega)
      have hc := hcw _ hS.bel
      have hcc := hcz _ hS.bel
      have hq0 : (k : Int) < (ss.length : Int) := by omega
      have hq1 : (k : Int) < (zs.length : Int) := by omega
      by_cases h100 : 100 < s.size
      · clear hsl hs hz
        go_wp2
        go_ret
        exact ⟨rfl, hS.bel⟩
      · have hmask := i64_mask z 4 (by omega)
        rw [show ((2 ^ 4 - 1 : Nat) : Int) = 15 from by decide, show ((2 ^ 4 : Nat) : Int) = 16 from by decide] at hmask
        have hq2 : (0 : Int) ≤ z % 16 ∧ z % 16 ≤ 15 := by omega
        have hok : okK (some (z % 16)) = true := (okNum_iff _).2 ⟨by omega, by omega⟩
        obtain ⟨hsl', he⟩ := hsl.step (most := 999) hz hs (tm_ok rfl _ (by omega)) (by have := hsl.le; omega)
        have hd := dsealL p 999 ts (z % 16) s (by omega) (by omega)
        obtain ⟨ao7, cap7, hv7⟩ := rowI_shape hS.row
        have hlen : (vals ns).length = k := by rw [List.length_map]; exact hsl.len
        rw [hlen] at hv7
        subst hv7
        rw [hok, he] at hd
        have hns := hsl.len
        generalize ckX 999 ts true (tmK cS (some (z % 16)) s) = x at *
        generalize ckT 999 ts true (tmK cS (some (z % 16)) s) = ts' at *
        generalize z % 16 = q at *
        have Hcw := Lib.hid hcw
        have Hcz := Lib.hid hcz
        have HD := Lib.hid hd
        have HSL := Lib.hid hsl'
        have HLN := Lib.hid hns
        have Hg := Lib.hid (sealA_good (.slice ao7 k cap7) ns p ts)
        have hS2 := At.drew Hg.out hS
        have hc2 := hcw _ hS2.bel
        have hcc2 := hcz _ hS2.bel
        clear hcw hcz hd hsl hsl' he hs hz hok hlen hns
        go_wp2
        go_region_with ((go_at_call 24; (with_reducible refine (At.op1 HD.out (rowA_good _ _ _) emp_good hS2).mono ?_); rintro e w1 ⟨rfl, hS3⟩))
        all_goals
          go_wp2_with (first
            | (go_at_call 16; refine (lnum _ _).mono ?_; rintro e w1 ⟨rfl, rfl⟩)
            | (at_builtin; refine app_int (good1 _ _ _) rfl _ _ rfl _ ns x rfl rfl hS3 (by rw [HLN.out]; omega) ?_; intro v' w2 hS4))
          go_roundw
          case rel => exact ⟨k + 1, ts', ns ++ [x], by omega, by go_num, hS4, HSL.out⟩
          case measure => simp [intOf]; omega
    · obtain rfl : k = M := by omega
      clear hk hlt
      obtain ⟨ao7, cap7, hv7⟩ := rowI_shape hS.row
      have hlen : (vals ns).length = k := by rw [List.length_map]; exact hsl.len
      rw [hlen] at hv7
      subst hv7
      have HSL := Lib.hid hsl
      have HLN := Lib.hid hsl.len
      clear hsl hlen
      go_wp2
      go_loopw [12] (fun i wr => ∃ j : Nat, j ≤ k ∧ i = .int .i64 j ∧ At w (sealA (.slice ao7 k cap7) ns p ts) wr) (fun i _ => k - (intOf i).toNat)
      case atStart => exact ⟨0, Nat.zero_le _, rfl, hS⟩
      case round =>
        clear hS
        obtain ⟨j, hj, rfl, hS⟩ := hrel
        by_cases hjl : j < k
        · go_wp2
          go_loopw [13] (fun i wr => ∃ q : Nat, q ≤ 16 ∧ i = .int .i64 q ∧ At w (sealA (.slice ao7 k cap7) ns p ts) wr) (fun i _ => 16 - (intOf i).toNat)
          case atStart => exact ⟨0, Nat.zero_le _, rfl, hS⟩
          case round =>
            clear hS
            obtain ⟨q, hq, rfl, hS⟩ := hrel
            by_cases hql : q < 16
            · obtain ⟨b, off, s, rfl, hs, hsz, hcw⟩ := HA.out.at (k := j) (by omega)
              obtain ⟨bz, offz, z, rfl, hz, hzb, hcz⟩ := HZ.out.at (k := j) (by omega)
              obtain ⟨o1, o2⟩ := HSL.out.opens hjl hz hs (q : Int) (by omega) (by omega)
              have hd := dopen p 999 ts (q : Int) (ns.getD j 0) (by omega) (by omega)
              rw [o1, o2] at hd
              have hmask := i64_mask z 4 (by omega)
              rw [show ((2 ^ 4 - 1 : Nat) : Int) = 15 from by decide, show ((2 ^ 4 : Nat) : Int) = 16 from by decide] at hmask
              obtain ⟨g7, _, hv7, hc7⟩ := hS.num (j := j) (by rw [HLN.out]; exact hjl)
              obtain rfl : ao7 = some ⟨g7, 0, Option.none⟩ := by simp at hv7; exact hv7.1
              generalize ns.getD j 0 = y at *
              have hq2 : (0 : Int) ≤ z % 16 ∧ z % 16 ≤ 15 := by omega
              generalize z % 16 = r at *
              have hq0 : (j : Int) < (ss.length : Int) := by omega
              have hq1 : (j : Int) < (zs.length : Int) := by omega
              have hq3 : (j : Int) < (k : Int) := by omega
              have Hcw := Lib.hid hcw
              have Hcz := Lib.hid hcz
              clear hcw hcz hs hz hv7 o1 o2
              by_cases hrq : r = (q : Int)
              · rw [if_pos hrq, if_pos hrq] at hd
                have hb1 : ((q : Int) == r) = true := by simp [hrq]
                have HD := Lib.hid hd
                clear hrq hd
                go_wp2_with (go_at_call 12; (with_reducible refine (At.op1 HD.out (rowA_good _ _ _) emp_good hS).mono ?_); rintro e w1 ⟨rfl, hS1⟩; replace hS := hS1; clear hS1; have hc := Hcw.out _ hS.bel; have hcc := Hcz.out _ hS.bel)
                go_big_quiet ((go_at_call 16; exact Calls.quiet_of_same (lnum' _ _)))
                go_wp2
                go_roundw
                case rel => exact ⟨q + 1, by omega, by go_num, hS.lay (sealA_good _ _ _ _) (below_drewN _ _)⟩
                case measure => simp [intOf]; omega
              · rw [if_neg hrq, if_neg hrq] at hd
                have hb1 : ((q : Int) == r) = false := by rw [beq_eq_false_iff_ne]; exact fun e => hrq e.symm
                have HD := Lib.hid hd
                clear hrq hd
                go_wp2_with (go_at_call 12; (with_reducible refine (At.op1 HD.out (rowA_good _ _ _) emp_good hS).mono ?_); rintro e w1 ⟨rfl, hS1⟩; replace hS := hS1; clear hS1; have hc := Hcw.out _ hS.bel; have hcc := Hcz.out _ hS.bel)
                go_big_quiet ((go_at_call 16; exact Calls.quiet_of_same (lnum' _ _)))
                go_wp2
                go_roundw
                case rel => exact ⟨q + 1, by omega, by go_num, hS.lay (sealA_good _ _ _ _) (below_drewN _ _)⟩
                case measure => simp [intOf]; omega
            · obtain rfl : q = 16 := by omega
              clear hq hql
              rw [show ((16 : Nat) : Int) = 16 from rfl]
              go_wp2
              go_roundw
              case rel => exact ⟨j + 1, by omega, by go_num, hS⟩
              case measure => simp [intOf]; omega
        · have hge : k ≤ j := by omega
          go_wp2
          go_ret
          exact ⟨rfl, hS.bel⟩
end Go.Proofs.Ythbpnffiibjgjaa
