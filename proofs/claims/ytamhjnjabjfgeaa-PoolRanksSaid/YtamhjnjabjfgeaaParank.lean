/- The walk of PoolRanks: of the free ones one's own goes first, then one that was nobody's, then the first. Condition: the row's size. -/
import Derived.Test.YtamhjnjabjfgeaaPark
import Derived.Test.YtamhjnjabjfgeaaRun
import Derived.Deep.RegionWith
import Derived.Deep.QuietTactic
import Derived.IntWalk
namespace Go.Proofs.Ytamhjnjabjfgeaa
open Go Go.RowKit

abbrev prk0 : Oper := { dst := some 30, op := Op.move (Operand.tmp 7), type := 22, pos := "more.go:76", after := #[], guard := none }
abbrev prk1 : Oper := { dst := some 31, op := Op.move (Operand.tmp 0), type := 22, pos := "more.go:76", after := #[], guard := none }
abbrev prk2 : Oper := { dst := some 32, op := Op.move (Operand.tmp 8), type := 3, pos := "more.go:76", after := #[], guard := none }
abbrev prk3 : Oper := { dst := some 33, op := Op.indexAddr 22 (Operand.tmp 31) (Operand.tmp 32), type := 0, pos := "more.go:76", after := #[{ on := 1, ground := Ground.data }, { on := 2, ground := Ground.data }], guard := none }
abbrev prk4 : Oper := { dst := some 34, op := Op.fieldAddr 46 (Operand.tmp 33) 0, type := 0, pos := "more.go:76", after := #[{ on := 3, ground := Ground.data }], guard := none }
abbrev prk5 : Oper := { dst := some 35, op := Op.load 4 (Operand.tmp 34), type := 4, pos := "more.go:76", after := #[{ on := 4, ground := Ground.data }], guard := none }
abbrev prk6 : Oper := { dst := some 36, op := Op.move (Operand.tmp 0), type := 22, pos := "more.go:76", after := #[], guard := none }
abbrev prk7 : Oper := { dst := some 37, op := Op.move (Operand.tmp 8), type := 3, pos := "more.go:76", after := #[], guard := none }
abbrev prk8 : Oper := { dst := some 38, op := Op.indexAddr 22 (Operand.tmp 36) (Operand.tmp 37), type := 0, pos := "more.go:76", after := #[{ on := 6, ground := Ground.data }, { on := 7, ground := Ground.data }], guard := none }
abbrev prk9 : Oper := { dst := some 39, op := Op.fieldAddr 46 (Operand.tmp 38) 1, type := 0, pos := "more.go:76", after := #[{ on := 8, ground := Ground.data }], guard := none }
abbrev prk10 : Oper := { dst := some 40, op := Op.load 3 (Operand.tmp 39), type := 3, pos := "more.go:76", after := #[{ on := 9, ground := Ground.data }], guard := none }
abbrev prk11 : Oper := { dst := some 41, op := Op.convert 3 43 (Operand.tmp 40), type := 43, pos := "more.go:76", after := #[{ on := 10, ground := Ground.data }], guard := none }
abbrev prk12 : Oper := { dst := some 42, op := Op.binOp BinOp.rem 43 (Operand.tmp 41) (Operand.const (Value.int IntKind.u64 9)) 43, type := 43, pos := "more.go:76", after := #[{ on := 11, ground := Ground.data }], guard := none }
abbrev prk13 : Oper := { dst := some 43, op := Op.convert 43 3 (Operand.tmp 42), type := 3, pos := "more.go:76", after := #[{ on := 12, ground := Ground.data }], guard := none }
abbrev prk14 : Oper := { dst := some 44, op := Op.binOp BinOp.sub 3 (Operand.tmp 43) (Operand.const (Value.int IntKind.i64 1)) 3, type := 3, pos := "more.go:76", after := #[{ on := 13, ground := Ground.data }], guard := none }
abbrev prk15 : Oper := { dst := some 45, op := Op.move (Operand.tmp 0), type := 22, pos := "more.go:76", after := #[], guard := none }
abbrev prk16 : Oper := { dst := some 46, op := Op.move (Operand.tmp 8), type := 3, pos := "more.go:76", after := #[], guard := none }
abbrev prk17 : Oper := { dst := some 47, op := Op.indexAddr 22 (Operand.tmp 45) (Operand.tmp 46), type := 0, pos := "more.go:76", after := #[{ on := 15, ground := Ground.data }, { on := 16, ground := Ground.data }], guard := none }
abbrev prk18 : Oper := { dst := some 48, op := Op.fieldAddr 46 (Operand.tmp 47) 2, type := 0, pos := "more.go:76", after := #[{ on := 17, ground := Ground.data }], guard := none }
abbrev prk19 : Oper := { dst := some 49, op := Op.load 3 (Operand.tmp 48), type := 3, pos := "more.go:76", after := #[{ on := 18, ground := Ground.data }], guard := none }
abbrev prk20 : Oper := { dst := some 50, op := Op.binOp BinOp.and 3 (Operand.tmp 49) (Operand.const (Value.int IntKind.i64 31)) 3, type := 3, pos := "more.go:76", after := #[{ on := 19, ground := Ground.data }], guard := none }
abbrev prk21 : Oper := { dst := some 51, op := Op.build 46 #[(0, Operand.tmp 35), (1, Operand.tmp 44), (2, Operand.tmp 50)], type := 46, pos := "more.go:76", after := #[{ on := 5, ground := Ground.data }, { on := 14, ground := Ground.data }, { on := 20, ground := Ground.data }], guard := none }
abbrev prk22 : Oper := { dst := some 52, op := Op.buildSlice 22 1 #[(0, Operand.tmp 51)], type := 22, pos := "more.go:76", after := #[{ on := 21, ground := Ground.data }], guard := none }
abbrev prk23 : Oper := { dst := some 53, op := Op.call { callee := Callee.builtin Builtin.append, args := #[Operand.tmp 30, Operand.tmp 52], argTypes := #[22, 22] }, type := 22, pos := "more.go:76", after := #[{ on := 0, ground := Ground.data }, { on := 22, ground := Ground.data }], guard := none }
abbrev prk24 : Oper := { dst := some 7, op := Op.assign (Operand.tmp 53), type := 22, pos := "more.go:76", after := #[{ on := 23, ground := Ground.data }, { on := 23, ground := Ground.chain }, { on := 0, ground := Ground.phase }, { on := 1, ground := Ground.phase }, { on := 2, ground := Ground.phase }, { on := 3, ground := Ground.phase }, { on := 4, ground := Ground.phase }, { on := 5, ground := Ground.phase }, { on := 6, ground := Ground.phase }, { on := 7, ground := Ground.phase }, { on := 8, ground := Ground.phase }, { on := 9, ground := Ground.phase }, { on := 10, ground := Ground.phase }, { on := 11, ground := Ground.phase }, { on := 12, ground := Ground.phase }, { on := 13, ground := Ground.phase }, { on := 14, ground := Ground.phase }, { on := 15, ground := Ground.phase }, { on := 16, ground := Ground.phase }, { on := 17, ground := Ground.phase }, { on := 18, ground := Ground.phase }, { on := 19, ground := Ground.phase }, { on := 20, ground := Ground.phase }, { on := 21, ground := Ground.phase }, { on := 22, ground := Ground.phase }, { on := 23, ground := Ground.phase }], guard := none }
/-- A literal row laid behind a row: what append answers. -/
theorem pa_runLit {w0 W : World} {C : Ass} (hC : C.Good) {ao : Option Addr} {n cap : Nat} {es : List Pa} (fs : List Pa) {k : Nat} (hk : k = fs.length) (hS : At w0 ((rowE TPa 3 (.slice ao n cap) es.length (paCells es)).star C) W) (hn : es.length + k ≤ 5864062014805) (ty : TypeId) :
    ∃ a2 c2 w2, (Builtin.append_ #[22, 22] ty #[.slice ao n cap, .slice (some ⟨W.heap.size, 0, none⟩) k k]).run Try.prog (W.alloc (.cells (paCells fs).toArray TPa)) = .ok (.slice a2 (n + k) c2) w2 ∧ At w0 ((rowE TPa 3 (.slice a2 (n + k) c2) (es ++ fs).length (paCells (es ++ fs))).star C) w2 := by
  obtain ⟨v', w2, hrun, hrow, hgr, hnil, hlo⟩ := pa_runApp (es := fs) ty es (hS.erow.alloc (.cells (paCells fs).toArray TPa)) (some ⟨W.heap.size, 0, none⟩) k k hk hn (.inr ⟨_, _, rfl, paAt_lit W fs⟩)
  have hlen : n = es.length := by
    obtain ⟨a3, c3, e3⟩ := rowE_shape hS.erow
    simp at e3
    exact e3.2.1
  obtain ⟨a2, c2, rfl⟩ := rowE_shape hrow
  rw [← hlen] at hrun hrow hlo
  refine ⟨a2, c2, w2, hrun, ?_⟩
  have hg := (World.grownBy_alloc W (.cells (paCells fs).toArray TPa) _).trans hgr
  refine hS.appendedE hC hg ?_ ?_
  · rw [paCells_app, List.length_append, ← hlen, ← hk]
    exact hrow
  · rcases hlo with c | c
    · exact .inl c
    · exact .inr ⟨_, by simp, c⟩
set_option maxRecDepth 100000 in
set_option maxHeartbeats 16000000 in
theorem parank_walk {w : World} {ao : Option Addr} {n cap : Nat} {es : List Pa} (hes : PaIn [] w ao n es) (x t : Int) :
    Calls Try.prog 6 #[.slice ao n cap, .int .i64 x, .int .i64 t] w fun e w' => e = .returned (.bool true) ∧ Below w.heap.size w w' := by
  have P := poolsOk
  have HE := Lib.hid (fun k (hk : k < n) => hes.elem (k := k) hk)
  have hfew := hes.few
  have HL := Lib.hid hes.len
  clear hes
  go_enter Try.func6, Try.ntmps6
  go_wp2_with (go_at_call 21; (with_reducible refine (awake16 P _).mono ?_); rintro e w1 ⟨rfl, hb⟩; have hS := At.erow0 TPa 3 (At.none hb); clear hb)
  go_loopw [7, 8] (fun s i wr => ∃ (k : Nat) (a3 : Option Addr) (c3 : Nat), k ≤ n ∧ k ≤ 16 ∧ i = .int .i64 (k : Int) ∧ s = .slice a3 k c3 ∧ At w ((rowE TPa 3 (.slice a3 k c3) ((es.take k).map paN).length (paCells ((es.take k).map paN))).star emp) wr) (fun _ i _ => n - (intOf i).toNat)
  case atStart => exact ⟨0, none, 0, Nat.zero_le _, by omega, rfl, rfl, hS⟩
  case round =>
    clear hS
    obtain ⟨k, a3, c3, hk, hk16, rfl, rfl, hS⟩ := hrel
    by_cases hlt : k < n ∧ k < 16
    · obtain ⟨hlt, h16⟩ := hlt
      obtain ⟨b, off, a, rfl, ha, hcell⟩ := HE.out k hlt
      have hb := hS.bel
      obtain ⟨x0, x1, x2⟩ := hcell _ hb
      obtain ⟨y0, y1, y2⟩ := hcell wr.drew ⟨hb.os, hb.tape, hb.output, hb.size, hb.block⟩
      obtain ⟨r, y, hr9, hy32, hr, hy, hN⟩ := paN_of a
      have hT := mapN_take (k := k) (by rw [← HL.out]; exact hlt) ha
      rw [hN] at hT
      have HT := Lib.hid hT
      obtain ⟨ab, al, au⟩ := a
      dsimp only at x0 x1 x2 y0 y1 y2 hr hy hT HT
      have hwr : IntKind.i64.wrap (r : Int) = (r : Int) := by rw [IntKind.wrap_i64]; omega
      have hwr1 : IntKind.i64.wrap ((r : Int) - 1) = (r : Int) - 1 := by rw [IntKind.wrap_i64]; omega
      have HS := Lib.hid (hS.drewn ((rowE_good _ _ _ _ _).star emp_good))
      have hfew2 : ((es.take k).map paN).length + 1 ≤ 5864062014805 := by rw [List.length_map, List.length_take]; omega
      have HC := Lib.hid hcell
      clear hS hT hN ha hcell hb
      go_wp2
      refine region_held (S := fun Z8 => Below w.heap.size w Z8) 25 [false, false, false, false, false, false, false, false, false, false, false, false, false, false, false, false, false, false, false, false, false, false, false, false, false] rfl rfl (by kernel_rfl) fun V0 hW => ?_
      have hV : At w ((rowE TPa 3 (.slice a3 k c3) ((es.take k).map paN).length (paCells ((es.take k).map paN))).star emp) V0 := by rw [hW]; exact HS.out
      clear hW
      have hVb := hV.bel
      refine run_go [(0, prk0, (some 30)), (1, prk1, (some 31)), (2, prk2, (some 32)), (3, prk3, (some 33)), (4, prk4, (some 34)), (5, prk5, (some 35)), (6, prk6, (some 36)), (7, prk7, (some 37)), (8, prk8, (some 38)), (9, prk9, (some 39)), (10, prk10, (some 40)), (11, prk11, (some 41)), (12, prk12, (some 42)), (13, prk13, (some 43)), (14, prk14, (some 44)), (15, prk15, (some 45)), (16, prk16, (some 46)), (17, prk17, (some 47)), (18, prk18, (some 48)), (19, prk19, (some 49)), (20, prk20, (some 50)), (21, prk21, (some 51))] (by kernel_rfl) ?_
      iterate 22 (refine run_take ?_ rfl rfl (fun _ _ _ h => h) (Or.inl ⟨by rfl, ?_⟩) hVb ?_; rotate_left; (· (intro w0 hy0; obtain ⟨z0, z1, z2⟩ := HC.out _ hy0; (go_simp <;> with_reducible rfl))); simp only [Act.put, List.setIfInBounds_toArray, List.set_cons_zero, List.set_cons_succ])
      refine run_end ?_
      obtain ⟨a4, c4, w4, hrun, hS4⟩ := pa_runLit emp_good [⟨ab, (r : Int) - 1, (y : Int)⟩] (k := 1) rfl hV hfew2 22
      refine held_one 22 prk22 (some 52) (.slice (some ⟨V0.heap.size, 0, none⟩) 1 1) (V0.alloc (.cells #[.bool ab, .int .i64 ((r : Int) - 1), .int .i64 (y : Int)] TPa)) (by kernel_rfl) rfl rfl (by rfl) (by go_simp <;> with_reducible rfl) (hVb.alloc hVb.size _) ?_
      simp only [Act.put, List.setIfInBounds_toArray, List.set_cons_zero, List.set_cons_succ]
      refine held_one 23 prk23 (some 53) (.slice a4 (k + 1) c4) w4 (by kernel_rfl) rfl rfl (by rfl) (pa_exapp (.tmp 30) (.tmp 52) 22 rfl rfl rfl hrun) hS4.bel ?_
      simp only [Act.put, List.setIfInBounds_toArray, List.set_cons_zero, List.set_cons_succ]
      refine held_one 24 prk24 (some 7) (.slice a4 (k + 1) c4) w4 (by kernel_rfl) rfl rfl (by rfl) (by go_simp <;> with_reducible rfl) hS4.bel ?_
      simp only [Act.put, List.setIfInBounds_toArray, List.set_cons_zero, List.set_cons_succ]
      refine wpAnyH_done (by kernel_rfl) ?_ _
      have H4 := Lib.hid hS4
      clear hS4 hrun hV hVb
      go_wp2
      go_roundw
      case rel => exact ⟨k + 1, a4, c4, by omega, by omega, by go_num, rfl, by rw [HT.out]; exact H4.out⟩
      case measure => simp [intOf]; omega
    · have hek : (es.take k).length = k := by rw [List.length_take, ← HL.out]; omega
      have hB := hS.bel
      have hP : PaIn [] wr a3 k ((es.take k).map paN) := hS.paIn (by rw [List.length_map, hek]) (by rw [List.length_map, hek]; omega)
      have hlen : ((es.take k).map paN).length = k := by rw [List.length_map, hek]
      have hmay : 1 ≤ k → poMay ((es.take k).map paN) = true := fun c => poMay_N (by rw [hek]; exact c) (by rw [hek]; exact hk16)
      obtain ⟨u, hu, hu8⟩ := mask7 x
      obtain ⟨y, hy, hy5⟩ := mask31 t
      generalize (es.take k).map paN = fs at *
      have hL := P.lease (cap := c3) hP (u : Int) (y : Int)
      clear hS
      by_cases h0 : k = 0
      · subst h0
        have hfs : fs = [] := List.length_eq_zero_iff.1 hlen
        subst hfs
        rw [pl_empty] at hL
        generalize plX [] (u : Int) (y : Int) = X at hL
        have HLe := Lib.hid (hL.mono (R' := fun e w' => e = .returned (.tuple #[.int .i64 X, .int .i64 1600]) ∧ Below w.heap.size w w') fun e w' ⟨c1, c2⟩ => ⟨c1, hB.trans (c2.mono hB.size)⟩)
        have hn0 : ¬ ((0 : Nat) : Int) < (n : Int) := by omega
        have hn1 : ¬ (0 : Int) < (n : Int) := by omega
        clear hL hlt hP hmay hB
        go_wp2_with (first
            | (go_at_call 9; (with_reducible refine HLe.out.mono ?_); rintro e w5 ⟨rfl, hb⟩)
            | (go_at_call 17; (with_reducible refine (lnum _ _).mono ?_); rintro e w7 ⟨rfl, rfl⟩))
        go_ret
        exact ⟨rfl, hb⟩
      · have ho := plOk_of (x := (u : Int)) (t := (y : Int)) (hmay (by omega)) (by omega) (by omega) (by omega) (by omega)
        have hX : ∃ X E, plX fs (u : Int) (y : Int) = X ∧ plE fs (u : Int) (y : Int) = E := ⟨_, _, rfl, rfl⟩
        obtain ⟨X, E, hX, hE⟩ := hX
        rw [hX, hE] at hL
        have HXE := Lib.hid (And.intro hX hE)
        have HO := Lib.hid ho
        have HLe := Lib.hid hL
        have HP := Lib.hid hP
        have HB0 := Lib.hid hB
        have hcase : ¬ (k : Int) < (n : Int) ∨ ((k : Int) < (n : Int) ∧ ¬ (k : Int) < 16) := by omega
        have hk0 : ¬ (k : Int) = 0 := by omega
        have hwk : IntKind.i64.wrap ((k : Int) - 1) = (k : Int) - 1 := by rw [IntKind.wrap_i64]; omega
        clear hL hX hE ho hP hmay hB hlt hek
        rcases hcase with hc1 | ⟨hc1, hc2⟩
        all_goals
          go_wp2_with (first
            | (go_at_call 9; (with_reducible refine HLe.out.mono ?_); rintro e w5 ⟨rfl, hb⟩)
            | (go_at_call 17; (with_reducible refine (lnum _ _).mono ?_); rintro e w7 ⟨rfl, rfl⟩))
          obtain ⟨b5, off5, rfl, hcell⟩ := (HP.out.on hb).place (by omega)
          have HC := Lib.hid hcell
          have HB5 := Lib.hid (fun W (h : Below w5.heap.size w5 W) => HB0.out.trans ((hb.trans (h.mono hb.size)).mono HB0.out.size))
          clear hcell hb
          go_loopw [13, 14, 15, 16] (fun so sf sm i wr2 => ∃ (j : Nat) (O F M : Int), j ≤ k ∧ i = .int .i64 ((j : Int) - 1) ∧ so = .int .i64 O ∧ sf = .int .i64 F ∧ sm = .int .i64 M ∧ Aside (O = fstD (poOwn (u : Int) (y : Int)) (fs.drop j) (j : Int) ∧ F = fstD (poOwn (-1) (y : Int)) (fs.drop j) (j : Int) ∧ M = fstD (fun a => a.free (y : Int)) (fs.drop j) (j : Int) ∧ Below w5.heap.size w5 wr2)) (fun _ _ _ i _ => (intOf i + 1).toNat)
          case atStart => exact ⟨k, -1, -1, -1, Nat.le_refl _, rfl, rfl, rfl, rfl, (show Aside _ from by rw [← hlen, List.drop_length]; exact ⟨rfl, rfl, rfl, Below.refl _ _⟩)⟩
          case round =>
            obtain ⟨j, O, F, M, hj, rfl, rfl, rfl, rfl, hall⟩ := hrel
            obtain ⟨g1, g2, g3, hb⟩ := hall.out
            clear hall
            have G := Lib.hid (And.intro g1 (And.intro g2 g3))
            have HB := Lib.hid hb
            clear g1 g2 g3
            rcases j with _ | j
            · rw [show (((0 : Nat) : Int) - 1) = -1 from rfl]
              have HB := Lib.hid (HB5.out _ hb)
              obtain ⟨hX, hE⟩ := HXE.out
              obtain ⟨g1, g2, g3⟩ := G.out
              rw [List.drop_zero] at g1 g2 g3
              replace g1 : O = fstD (poOwn (u : Int) (y : Int)) fs 0 := g1
              replace g2 : F = fstD (poOwn (-1) (y : Int)) fs 0 := g2
              replace g3 : M = fstD (fun a => a.free (y : Int)) fs 0 := g3
              clear hb
              by_cases hO : 0 ≤ O
              · obtain ⟨e1, e2⟩ := pr_own HO.out (by rw [← g1]; exact hO)
                rw [← g1, hX] at e1
                rw [hE] at e2
                subst e1 e2
                clear hX hE g1 g2 g3 G
                by_cases hF : 0 ≤ F
                · go_wp2_with (go_at_call 17; (with_reducible refine (lnum _ _).mono ?_); rintro e w7 ⟨rfl, rfl⟩)
                  go_ret
                  exact ⟨by simp, HB.out⟩
                · go_wp2_with (go_at_call 17; (with_reducible refine (lnum _ _).mono ?_); rintro e w7 ⟨rfl, rfl⟩)
                  go_ret
                  exact ⟨by simp, HB.out⟩
              · by_cases hF : 0 ≤ F
                · obtain ⟨e1, e2⟩ := pr_fresh HO.out (by rw [← g1]; omega) (by rw [← g2]; exact hF)
                  rw [← g2, hX] at e1
                  rw [hE] at e2
                  subst e1 e2
                  clear hX hE g1 g2 g3 G
                  go_wp2_with (go_at_call 17; (with_reducible refine (lnum _ _).mono ?_); rintro e w7 ⟨rfl, rfl⟩)
                  go_ret
                  exact ⟨by simp, HB.out⟩
                · by_cases hM : 0 ≤ M
                  · obtain ⟨e1, e2⟩ := pr_some HO.out (by rw [← g1]; omega) (by rw [← g2]; omega) (by rw [← g3]; exact hM)
                    rw [← g3, hX] at e1
                    rw [hE] at e2
                    subst e1 e2
                    clear hX hE g1 g2 g3 G
                    go_wp2_with (go_at_call 17; (with_reducible refine (lnum _ _).mono ?_); rintro e w7 ⟨rfl, rfl⟩)
                    go_ret
                    exact ⟨by simp, HB.out⟩
                  · obtain ⟨e1, e2⟩ := pr_none HO.out (by rw [← g1]; omega) (by rw [← g2]; omega) (by rw [← g3]; omega)
                    rw [hX] at e1
                    rw [hE] at e2
                    subst e1 e2
                    clear hX hE g1 g2 g3 G
                    go_wp2_with (go_at_call 17; (with_reducible refine (lnum _ _).mono ?_); rintro e w7 ⟨rfl, rfl⟩)
                    go_ret
                    exact ⟨by simp, HB.out⟩
            · rw [show (((j + 1 : Nat) : Int) - 1) = (j : Int) by omega]
              have hjk : j < k := by omega
              have hjI : (j : Int) < (k : Int) := by omega
              have hj0 : (0 : Int) ≤ (j : Int) := by omega
              have hwj : IntKind.i64.wrap ((j : Int) - 1) = (j : Int) - 1 := by rw [IntKind.wrap_i64]; omega
              obtain ⟨x0, x1, x2⟩ := HC.out j hjk _ hb
              obtain ⟨a, ha⟩ : ∃ a, fs.getD j Pa.none = a := ⟨_, rfl⟩
              rw [ha] at x0 x1 x2
              have D := drop_at (by rw [hlen]; exact hjk) ha
              have D := Lib.hid D
              obtain ⟨ab, al, au⟩ := a
              dsimp only at x0 x1 x2
              clear hb ha
              by_cases hfr : ab = false ∧ au ≤ (y : Int)
              · obtain ⟨rfl, hau⟩ := hfr
                have hau2 : ¬ (y : Int) < au := by omega
                have q3 := Lib.hid (show (Pa.mk false al au).free (y : Int) = true by rw [free_of]; simp [hau])
                by_cases h1 : al = (u : Int)
                · have h2 : ¬ (u : Int) = -1 := by omega
                  have q1 := Lib.hid (show poOwn (u : Int) (y : Int) (Pa.mk false al au) = true by rw [own_of]; simp [hau, h1])
                  have q2 := Lib.hid (show poOwn (-1) (y : Int) (Pa.mk false al au) = false by rw [own_of]; simp; omega)
                  subst h1
                  go_wp2
                  go_roundw
                  case rel => exact ⟨j, (j : Int), F, (j : Int), by omega, by go_num, rfl, rfl, rfl, (show Aside _ from ⟨by rw [D.out, fstD_yes q1.out], by rw [D.out, fstD_no q2.out]; exact G.out.2.1, by rw [D.out, fstD_yes q3.out], HB.out⟩)⟩
                  case measure => simp [intOf]
                · by_cases h2 : al = -1
                  · have q1 := Lib.hid (show poOwn (u : Int) (y : Int) (Pa.mk false al au) = false by rw [own_of]; simp [h1])
                    have q2 := Lib.hid (show poOwn (-1) (y : Int) (Pa.mk false al au) = true by rw [own_of]; simp [hau, h2])
                    subst h2
                    go_wp2
                    go_roundw
                    case rel => exact ⟨j, O, (j : Int), (j : Int), by omega, by go_num, rfl, rfl, rfl, (show Aside _ from ⟨by rw [D.out, fstD_no q1.out]; exact G.out.1, by rw [D.out, fstD_yes q2.out], by rw [D.out, fstD_yes q3.out], HB.out⟩)⟩
                    case measure => simp [intOf]
                  · have q1 := Lib.hid (show poOwn (u : Int) (y : Int) (Pa.mk false al au) = false by rw [own_of]; simp [h1])
                    have q2 := Lib.hid (show poOwn (-1) (y : Int) (Pa.mk false al au) = false by rw [own_of]; simp [h2])
                    go_wp2
                    go_roundw
                    case rel => exact ⟨j, O, F, (j : Int), by omega, by go_num, rfl, rfl, rfl, (show Aside _ from ⟨by rw [D.out, fstD_no q1.out]; exact G.out.1, by rw [D.out, fstD_no q2.out]; exact G.out.2.1, by rw [D.out, fstD_yes q3.out], HB.out⟩)⟩
                    case measure => simp [intOf]
              · have hff : (!ab && decide (au ≤ (y : Int))) = false := by cases ab <;> simp_all
                have q1 := Lib.hid (show poOwn (u : Int) (y : Int) (Pa.mk ab al au) = false by rw [own_of, hff]; rfl)
                have q2 := Lib.hid (show poOwn (-1) (y : Int) (Pa.mk ab al au) = false by rw [own_of, hff]; rfl)
                have q3 := Lib.hid (show (Pa.mk ab al au).free (y : Int) = false from hff)
                clear hff
                cases ab with
                | true =>
                  go_wp2
                  go_roundw
                  case rel => exact ⟨j, O, F, M, by omega, by go_num, rfl, rfl, rfl, (show Aside _ from ⟨by rw [D.out, fstD_no q1.out]; exact G.out.1, by rw [D.out, fstD_no q2.out]; exact G.out.2.1, by rw [D.out, fstD_no q3.out]; exact G.out.2.2, HB.out⟩)⟩
                  case measure => simp [intOf]
                | false =>
                  have hau2 : (y : Int) < au := by
                    rcases (show (y : Int) < au ∨ au ≤ (y : Int) by omega) with c | c
                    · exact c
                    · exact absurd ⟨rfl, c⟩ hfr
                  go_wp2
                  go_roundw
                  case rel => exact ⟨j, O, F, M, by omega, by go_num, rfl, rfl, rfl, (show Aside _ from ⟨by rw [D.out, fstD_no q1.out]; exact G.out.1, by rw [D.out, fstD_no q2.out]; exact G.out.2.1, by rw [D.out, fstD_no q3.out]; exact G.out.2.2, HB.out⟩)⟩
                  case measure => simp [intOf]
end Go.Proofs.Ytamhjnjabjfgeaa
