/- The walk of BookOnce: at every row of terms it answers true. No condition. -/
import Derived.Test.YtebmineddgpjjaaBonce
namespace Go.Proofs.Ytebmineddgpjjaa
open Go Go.RowKit Go.Maps

abbrev vals (ns : List Int) : List Value := ns.map (Value.int .i64)
abbrev onceA (v : Value) (ns : List Int) (p : Nat) (ts : List ByteArray) : Ass := (rowA 3 v (vals ns)).star ((bookA p 65536 ts).star emp)
theorem onceA_good (v : Value) (ns : List Int) (p : Nat) (ts : List ByteArray) : (onceA v ns p ts).Good := (rowA_good _ _ _).star (good1 _ _ _)
theorem rowI_shape {w : World} {v : Value} {n : Nat} {xs : List Value} (h : w.ownsRow 0 3 1 v n xs) : ∃ ao cap, v = .slice ao n cap := by
  rcases h.2 with ⟨rfl, h0⟩ | ⟨g, cap, _, rfl, _⟩
  · exact ⟨Option.none, 0, by rw [h0]⟩
  · exact ⟨_, cap, rfl⟩
/-- The cell of a row of numbers. -/
theorem At.num {v : Value} {ns : List Int} {C : Ass} {w0 w : World} (h : At w0 ((rowA 3 v (vals ns)).star C) w) {j : Nat} (hj : j < ns.length) : ∃ g cap, v = .slice (some ⟨g, 0, Option.none⟩) ns.length cap ∧ w.cell? ⟨g, j, Option.none⟩ = some (.int .i64 (ns.getD j 0)) := by
  have hr := h.row
  rcases hr.2 with ⟨rfl, h0⟩ | ⟨g, cap, _, rfl, _⟩
  · simp at h0; subst h0; cases hj
  · refine ⟨g, cap, by simp, ?_⟩
    have hc := hr.cells (g := g) rfl j (.int .i64 (ns.getD j 0)) (by simp [List.getD, hj])
    rw [Addr.add_lit, Nat.zero_add] at hc
    exact hc

theorem app_name {w0 W : World} {ops : Array Oper} {rest : List Oper} {o : Oper} {a : Act} {Q : Exit → Act → World → Prop} (hgd : o.guard = Option.none) (s x : Operand)
    (ho : o.op = .call { callee := .builtin .append, args := #[s, x], argTypes := #[44, 44] }) (v : Value) (ns : List Int) (p : Nat) (ts : List ByteArray) (c : Int) (hs : a.eval s = v) (hx : a.eval x = .slice (some ⟨W.heap.size, 0, Option.none⟩) 1 1)
    (hS : At w0 (onceA v ns p ts) W) (hn : ns.length ≤ 1000) (h : ∀ v' w', At w0 (onceA v' (ns ++ [c]) p ts) w' → wpList Try.prog ops Q rest (a.put o.dst v') w') :
    wpList Try.prog ops Q (o :: rest) a (W.alloc (.cells #[.int .i64 c] 3)) := by
  obtain ⟨i, hi, hz0, hz1, hz2⟩ := info_parts infoI
  have hl : (vals ns).length = ns.length := List.length_map ..
  refine wpList_append_own_at _ hgd s x 44 ho 0 3 i (.int .i64 0) 1 8 Try.underlying44 hi hz0 hz1 hz2 rfl (by decide) v _ _ hs (hS.row.alloc _) ⟨W.heap.size, 0, Option.none⟩ 1 1 [.int .i64 c] hx rfl (cell_one_new _ _ _) ?_ ?_ ?_ (Nat.zero_le _) ?_
  · intro u hu; simp at hu; subst hu; rfl
  · rw [hl]; unfold maxLen; omega
  · rw [hl]; omega
  · intro v' w' h1 h2 _ h4
    have hg := (World.grownBy_alloc W (.cells #[.int .i64 c] 3) _).trans h2
    refine h v' w' (At.appended (good1 _ _ _) hS hg ?_ ?_)
    · have e : vals (ns ++ [c]) = vals ns ++ [.int .i64 c] := List.map_append ..
      rw [e, List.length_append]; exact h1
    · rcases h4 with e | e
      · exact .inl e
      · exact .inr ⟨_, by simp, e⟩

set_option maxRecDepth 100000 in
set_option maxHeartbeats 8000000 in
theorem once_walk (ao : Option Addr) (cap : Nat) (ss : List ByteArray) (w : World) (hA : SArg w ao ss) :
    Calls Try.prog 4 #[.slice ao ss.length cap] w fun e w' => e = .returned (.bool true) ∧ Below w.heap.size w w' := by
  have hfew := hA.few
  have HA := Lib.hid hA
  clear hA
  obtain ⟨K, hK, hK1, hK2⟩ : ∃ K : Nat, min (ss.length : Int) 30 = (K : Int) ∧ K ≤ ss.length ∧ K ≤ 30 := ⟨min ss.length 30, by omega, by omega, by omega⟩
  obtain ⟨iI, hi, hz0, hz1, hz2⟩ := info_parts infoI
  go_enter Try.func4, Try.ntmps4
  go_wp2_with (first
    | (go_at_call 10; (with_reducible refine (awake2 _).mono ?_); rintro e w1 ⟨rfl, hb1⟩; have hS := At.none hb1; clear hb1)
    | (go_at_call 7; (with_reducible refine (bnew_ok 65536 _ (by omega) (by omega)).mono ?_); rintro e w1 ⟨p, rfl, hb⟩; replace hS := (At.add emp_good hS hb).row0 3; clear hb)
    | (go_at_call 9; refine (lnum _ _).mono ?_; rintro e w1 ⟨rfl, rfl⟩))
  have HK := Lib.hid hK
  clear hK
  go_loopw [5, 7] (fun v i wr => ∃ (k : Nat) (ts : List ByteArray) (ns : List Int), k ≤ K ∧ i = .int .i64 k ∧ At w (onceA v ns p ts) wr ∧ Fs ts (fwd2 ss k) k ∧ Nms ss ts ns k) (fun _ i _ => K - (intOf i).toNat)
  case atStart => exact ⟨0, [], [], Nat.zero_le _, rfl, hS, Fs_nil (fwd2_zero ss), ⟨rfl, (fun j hj => by cases hj), (fun j hj => by cases hj)⟩⟩
  case round =>
    clear hS
    obtain ⟨k, ts, ns, hk, rfl, hS, hfs, hnm⟩ := hrel
    by_cases hlt : k < K
    · obtain ⟨b, off, s, rfl, hs, hsz, hcw⟩ := HA.out.at (k := k) (by omega)
      have hfs' : Fs (nmT 65536 ts s) (fwd2 ss (k + 1)) (k + 1) := Fs_step hfs (by omega) (fun t => by rw [fwd2_succ, hs])
      have hnm' := fun x => hnm.step (most := 65536) (s := s) (x := x) hs
      obtain ⟨ao5, cap5, hv5⟩ := rowI_shape hS.row
      rw [show (vals ns).length = k by simp [hnm.len]] at hv5
      have hdn := dname p 65536 ts s hsz
      have hdf := dfind p 65536 ts s hsz
      have hdl := dlen p 65536 ts
      have hc := hcw _ hS.bel
      have Hcw := Lib.hid hcw
      have Hs := Lib.hid hs
      have hcase := nm_cases 65536 ts s (by have := hfs.le; omega)
      rcases hcase with ⟨h1, h2, hok, he, _⟩ | ⟨h1, hok, he, hx⟩ | ⟨h1, hok, he, hx⟩
      case inr.inl | inr.inr =>
        have hno : isB ts s = false := by
          rw [isB_not, hfs.mem, hok]
          exact fun c => Bool.noConfusion c.1
        rw [hno, show fnd ts s = 0 by unfold fnd; rw [hno]; rfl] at hdf
        rw [he, hx, show nmT 65536 ts s = ts by unfold nmT; rw [hok]; rfl] at hdn
        have hts : nmT 65536 ts s = ts := by unfold nmT; rw [hok]; rfl
        rw [hts] at hfs' hnm'
        have hnx : nmOf ts s = -1 := by unfold nmOf; rw [hok]; rfl
        have Hdn := Lib.hid hdn
        have Hdf := Lib.hid hdf
        have Hdl := Lib.hid hdl
        have Hfs := Lib.hid hfs'
        have Hnm := Lib.hid (hnm' (-1) hnx.symm (fun c => by rw [hok] at c; cases c))
        have Hold := Lib.hid hnm
        clear hno hdn hdf hdl hfs' hnm' hts hnx hcw hs hok he hx hfs hnm
        subst hv5
        go_wp2_with (first
          | (go_at_call 18; (with_reducible refine (At.op1 Hdl.out (rowA_good _ _ _) emp_good hS).mono ?_); rintro e w1 ⟨rfl, hS1⟩; replace hS := hS1; clear hS1; have hc := Hcw.out _ hS.bel)
          | (go_at_call 11; (with_reducible refine (At.op1 Hdf.out (rowA_good _ _ _) emp_good hS).mono ?_); rintro e w1 ⟨rfl, hS1⟩; replace hS := hS1; clear hS1; have hc := Hcw.out _ hS.bel)
          | (go_at_call 13; (with_reducible refine (At.op1 Hdn.out (rowA_good _ _ _) emp_good hS).mono ?_); rintro e w1 ⟨rfl, hS1⟩; replace hS := hS1; clear hS1; have hc := Hcw.out _ hS.bel)
          | (go_at_call 9; refine (lnum _ _).mono ?_; rintro e w1 ⟨rfl, rfl⟩))
        go_loopw [15] (fun i wr => ∃ j : Nat, j ≤ k ∧ i = .int .i64 j ∧ At w (onceA (.slice ao5 k cap5) ns p ts) wr) (fun i _ => k - (intOf i).toNat)
        case atStart => exact ⟨0, Nat.zero_le _, rfl, hS⟩
        case round =>
          clear hS hc
          obtain ⟨j, hj, rfl, hS⟩ := hrel
          by_cases hjl : j < k
          · go_wp2
            go_quiet (fail)
            go_wp2
            go_roundw
            case rel => exact ⟨j + 1, by omega, by go_num, hS.lay (onceA_good _ _ _ _) (below_drewN _ _)⟩
            case measure => simp [intOf]; omega
          · have hnl : ns.length ≤ 1000 := by rw [Hold.out.len]; omega
            go_wp2_with (at_builtin; refine app_name rfl _ _ rfl _ ns p ts (-1) rfl rfl hS hnl ?_; intro v' w2 hS2)
            go_roundw
            case rel => exact ⟨k + 1, ts, ns ++ [-1], by omega, by go_num, hS2, Hfs.out, Hnm.out⟩
            case measure => simp [intOf]; omega
      case inl =>
        obtain ⟨ts2, hts2⟩ : ∃ ts2, nmT 65536 ts s = ts2 := ⟨_, rfl⟩
        obtain ⟨x, hxx⟩ : ∃ x, nmX 65536 ts s = x := ⟨_, rfl⟩
        have hmem : s ∈ ts2 := by rw [← hts2]; exact nmT_self hok (by have := hfs.le; omega)
        have hxe : x = fnd ts2 s := by rw [← hts2, ← hxx]; exact nmX_fnd hok (by have := hfs.le; omega)
        have hxi : x = ((idx ts2 s : Nat) : Int) := by rw [hxe]; unfold fnd; rw [if_pos ((isB_iff _ _).2 hmem)]
        have hn1 : isB ts s = true → ts2.length = ts.length := fun c => by rw [← hts2]; unfold nmT; rw [if_pos hok, if_pos c]
        have hn2 : isB ts s = false → ts2.length = ts.length + 1 := fun c => by rw [← hts2]; unfold nmT; rw [if_pos hok, c, if_neg (by decide), if_pos (by have := hfs.le; omega)]; simp
        have htm := tmS_fnd hmem
        rw [← hxe] at htm
        have hdt := dterm p 65536 ts2 x
        rw [htm.1, htm.2] at hdt
        rw [he, hts2, hxx] at hdn
        have hdl2 := dlen p 65536 ts2
        rw [hts2] at hfs' hnm'
        have hnx : x = nmOf ts2 s := by rw [hxi]; unfold nmOf; rw [if_pos hok]
        have hnm2 := hnm' x hnx (fun _ => hmem)
        have hat : ∀ j, j < k → (ns.getD j 0 = -1 ∨ 0 ≤ ns.getD j 0 ∧ (ns.getD j 0 = x ↔ ss.getD j ⟨#[]⟩ = s)) := fun j hj => by
          have e1 := hnm2.at_ j (by omega)
          have e2 : (ns ++ [x]).getD j 0 = ns.getD j 0 := by
            have hl : j < ns.length := by rw [hnm.len]; exact hj
            rw [List.getD, List.getD, List.getElem?_append_left hl]
          rw [e2] at e1
          unfold nmOf at e1
          by_cases hkj : okT (ss.getD j ⟨#[]⟩) = true
          · rw [if_pos hkj] at e1
            have hm := hnm2.mem j (by omega) hkj
            right
            rw [e1, hxi]
            exact ⟨by omega, fun c => idx_inj hm hmem (by omega), fun c => by rw [c]⟩
          · rw [if_neg hkj] at e1
            exact .inl e1
        have hx0 : 0 ≤ x := by omega
        have Hdn := Lib.hid hdn
        have Hdl := Lib.hid hdl
        have Hdl2 := Lib.hid hdl2
        have Hdt := Lib.hid hdt
        have Hfs := Lib.hid hfs'
        have Hnm := Lib.hid hnm2
        have Hold := Lib.hid hnm
        have Hat := Lib.hid hat
        have Hxi := Lib.hid hxi
        have hts3 : ts.length ≤ 30 := by have := hfs.le; omega
        clear hnm2 hat hdn hdl hdl2 hdt hfs' hnm' hnx hxi hxe htm hmem hts2 hxx hcw hs hok he hfs hnm
        subst hv5
        by_cases hin : isB ts s = true
        · have hlen := hn1 hin
          rw [hin] at hdf
          have hdl2 := Hdl2.out
          rw [hlen] at hdl2
          replace Hdl2 := Lib.hid hdl2
          have Hdf := Lib.hid hdf
          clear hlen hdl2 hdf hin hn1 hn2
          go_wp2_with (first
            | (go_at_call 18; first | ((with_reducible refine (At.op1 Hdl.out (rowA_good _ _ _) emp_good hS).mono ?_); rintro e w1 ⟨rfl, hS1⟩; replace hS := hS1; clear hS1; have hc := Hcw.out _ hS.bel) | ((with_reducible refine (At.op1 Hdl2.out (rowA_good _ _ _) emp_good hS).mono ?_); rintro e w1 ⟨rfl, hS1⟩; replace hS := hS1; clear hS1; have hc := Hcw.out _ hS.bel))
            | (go_at_call 11; (with_reducible refine (At.op1 Hdf.out (rowA_good _ _ _) emp_good hS).mono ?_); rintro e w1 ⟨rfl, hS1⟩; replace hS := hS1; clear hS1; have hc := Hcw.out _ hS.bel)
            | (go_at_call 13; (with_reducible refine (At.op1 Hdn.out (rowA_good _ _ _) emp_good hS).mono ?_); rintro e w1 ⟨rfl, hS1⟩; replace hS := hS1; clear hS1; have hc := Hcw.out _ hS.bel)
            | (go_at_call 16; (with_reducible refine (At.op1 Hdt.out (rowA_good _ _ _) emp_good hS).mono ?_); rintro e w1 ⟨rfl, hS1⟩; replace hS := hS1; clear hS1; have hc := Hcw.out _ hS.bel)
            | (go_at_call 9; refine (lnum _ _).mono ?_; rintro e w1 ⟨rfl, rfl⟩))
          go_loopw [15] (fun i wr => ∃ j : Nat, j ≤ k ∧ i = .int .i64 j ∧ At w (onceA (.slice ao5 k cap5) ns p ts2) wr) (fun i _ => k - (intOf i).toNat)
          case atStart => exact ⟨0, Nat.zero_le _, rfl, hS⟩
          case round =>
            clear hS hc
            obtain ⟨j, hj, rfl, hS⟩ := hrel
            by_cases hjl : j < k
            · obtain ⟨g5, _, hv5, hc5⟩ := hS.num (j := j) (by rw [Hold.out.len]; exact hjl)
              obtain ⟨b2, off2, sj, hao, hsj, _, hcj⟩ := HA.out.at (k := j) (by omega)
              obtain ⟨rfl, rfl⟩ : b = b2 ∧ off = off2 := by simpa using hao
              obtain rfl : ao5 = some ⟨g5, 0, Option.none⟩ := by simp at hv5; exact hv5.1
              have hy := Hat.out j hjl
              rw [hsj] at hy
              replace hcj := hcj _ hS.bel
              have hc := Hcw.out _ hS.bel
              generalize ns.getD j 0 = y at *
              have hq1 : (j : Int) < (k : Int) := by omega
              have hq2 : (j : Int) < (ss.length : Int) := by omega
              have hq3 : (k : Int) < (ss.length : Int) := by omega
              have hdx : decide (0 ≤ x) = true := by simpa using hx0
              clear hv5 hao hsj
              rcases hy with rfl | ⟨hy0, hy1⟩
              · go_wp2
                go_quiet (fail)
                go_wp2
                go_roundw
                case rel => exact ⟨j + 1, by omega, by go_num, hS.lay (onceA_good _ _ _ _) (below_drewN _ _)⟩
                case measure => simp [intOf]; omega
              · have hdy : decide (0 ≤ y) = true := by simpa using hy0
                by_cases hyx : y = x
                · have hb1 : (y == x) = true := by simpa using hyx
                  have hb2 : (sj.toList == s.toList) = true := by rw [hy1.1 hyx]; simp
                  clear hyx hy1
                  go_wp2
                  go_quiet (fail)
                  go_wp2
                  go_roundw
                  case rel => exact ⟨j + 1, by omega, by go_num, hS.lay (onceA_good _ _ _ _) (below_drewN _ _)⟩
                  case measure => simp [intOf]; omega
                · have hb1 : (y == x) = false := by simpa using hyx
                  have hb2 : (sj.toList == s.toList) = false := by
                    cases c : (sj.toList == s.toList)
                    · rfl
                    · exact absurd (hy1.2 (str_eq c)) hyx
                  clear hyx hy1
                  go_wp2
                  go_quiet (fail)
                  go_wp2
                  go_roundw
                  case rel => exact ⟨j + 1, by omega, by go_num, hS.lay (onceA_good _ _ _ _) (below_drewN _ _)⟩
                  case measure => simp [intOf]; omega
            · have hnl : ns.length ≤ 1000 := by rw [Hold.out.len]; omega
              go_wp2_with (at_builtin; refine app_name rfl _ _ rfl _ ns p ts2 x rfl rfl hS hnl ?_; intro v' w2 hS2)
              go_roundw
              case rel => exact ⟨k + 1, ts2, ns ++ [x], by omega, by go_num, hS2, Hfs.out, Hnm.out⟩
              case measure => simp [intOf]; omega
        · have hin' : isB ts s = false := by simpa using hin
          have hlen := hn2 hin'
          rw [hin', show fnd ts s = 0 by unfold fnd; rw [hin']; rfl] at hdf
          have hdl2 := Hdl2.out
          rw [hlen, Int.natCast_add] at hdl2
          replace Hdl2 := Lib.hid hdl2
          have Hdf := Lib.hid hdf
          have hne : (((ts.length : Nat) : Int) + 1 == ((ts.length : Nat) : Int)) = false := by simp; omega
          clear hlen hdl2 hdf hin hin' hn1 hn2
          go_wp2_with (first
            | (go_at_call 18; first | ((with_reducible refine (At.op1 Hdl.out (rowA_good _ _ _) emp_good hS).mono ?_); rintro e w1 ⟨rfl, hS1⟩; replace hS := hS1; clear hS1; have hc := Hcw.out _ hS.bel) | ((with_reducible refine (At.op1 Hdl2.out (rowA_good _ _ _) emp_good hS).mono ?_); rintro e w1 ⟨rfl, hS1⟩; replace hS := hS1; clear hS1; have hc := Hcw.out _ hS.bel))
            | (go_at_call 11; (with_reducible refine (At.op1 Hdf.out (rowA_good _ _ _) emp_good hS).mono ?_); rintro e w1 ⟨rfl, hS1⟩; replace hS := hS1; clear hS1; have hc := Hcw.out _ hS.bel)
            | (go_at_call 13; (with_reducible refine (At.op1 Hdn.out (rowA_good _ _ _) emp_good hS).mono ?_); rintro e w1 ⟨rfl, hS1⟩; replace hS := hS1; clear hS1; have hc := Hcw.out _ hS.bel)
            | (go_at_call 16; (with_reducible refine (At.op1 Hdt.out (rowA_good _ _ _) emp_good hS).mono ?_); rintro e w1 ⟨rfl, hS1⟩; replace hS := hS1; clear hS1; have hc := Hcw.out _ hS.bel)
            | (go_at_call 9; refine (lnum _ _).mono ?_; rintro e w1 ⟨rfl, rfl⟩))
          go_loopw [15] (fun i wr => ∃ j : Nat, j ≤ k ∧ i = .int .i64 j ∧ At w (onceA (.slice ao5 k cap5) ns p ts2) wr) (fun i _ => k - (intOf i).toNat)
          case atStart => exact ⟨0, Nat.zero_le _, rfl, hS⟩
          case round =>
            clear hS hc
            obtain ⟨j, hj, rfl, hS⟩ := hrel
            by_cases hjl : j < k
            · obtain ⟨g5, _, hv5, hc5⟩ := hS.num (j := j) (by rw [Hold.out.len]; exact hjl)
              obtain ⟨b2, off2, sj, hao, hsj, _, hcj⟩ := HA.out.at (k := j) (by omega)
              obtain ⟨rfl, rfl⟩ : b = b2 ∧ off = off2 := by simpa using hao
              obtain rfl : ao5 = some ⟨g5, 0, Option.none⟩ := by simp at hv5; exact hv5.1
              have hy := Hat.out j hjl
              rw [hsj] at hy
              replace hcj := hcj _ hS.bel
              have hc := Hcw.out _ hS.bel
              generalize ns.getD j 0 = y at *
              have hq1 : (j : Int) < (k : Int) := by omega
              have hq2 : (j : Int) < (ss.length : Int) := by omega
              have hq3 : (k : Int) < (ss.length : Int) := by omega
              have hdx : decide (0 ≤ x) = true := by simpa using hx0
              clear hv5 hao hsj
              rcases hy with rfl | ⟨hy0, hy1⟩
              · go_wp2
                go_quiet (fail)
                go_wp2
                go_roundw
                case rel => exact ⟨j + 1, by omega, by go_num, hS.lay (onceA_good _ _ _ _) (below_drewN _ _)⟩
                case measure => simp [intOf]; omega
              · have hdy : decide (0 ≤ y) = true := by simpa using hy0
                by_cases hyx : y = x
                · have hb1 : (y == x) = true := by simpa using hyx
                  have hb2 : (sj.toList == s.toList) = true := by rw [hy1.1 hyx]; simp
                  clear hyx hy1
                  go_wp2
                  go_quiet (fail)
                  go_wp2
                  go_roundw
                  case rel => exact ⟨j + 1, by omega, by go_num, hS.lay (onceA_good _ _ _ _) (below_drewN _ _)⟩
                  case measure => simp [intOf]; omega
                · have hb1 : (y == x) = false := by simpa using hyx
                  have hb2 : (sj.toList == s.toList) = false := by
                    cases c : (sj.toList == s.toList)
                    · rfl
                    · exact absurd (hy1.2 (str_eq c)) hyx
                  clear hyx hy1
                  go_wp2
                  go_quiet (fail)
                  go_wp2
                  go_roundw
                  case rel => exact ⟨j + 1, by omega, by go_num, hS.lay (onceA_good _ _ _ _) (below_drewN _ _)⟩
                  case measure => simp [intOf]; omega
            · have hnl : ns.length ≤ 1000 := by rw [Hold.out.len]; omega
              go_wp2_with (at_builtin; refine app_name rfl _ _ rfl _ ns p ts2 x rfl rfl hS hnl ?_; intro v' w2 hS2)
              go_roundw
              case rel => exact ⟨k + 1, ts2, ns ++ [x], by omega, by go_num, hS2, Hfs.out, Hnm.out⟩
              case measure => simp [intOf]; omega
    · go_wp2
      go_ret
      exact ⟨rfl, hS.bel⟩
end Go.Proofs.Ytebmineddgpjjaa
