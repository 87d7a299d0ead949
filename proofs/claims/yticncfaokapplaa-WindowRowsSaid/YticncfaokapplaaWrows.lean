/- The walk of WindowRows, where the program's calls answer as the chapter says: numbers that come in any row within the window leave the same window. No condition. -/
import Derived.Test.YticncfaokapplaaWdr
import Derived.Test.YticncfaokapplaaRun
import Derived.Test.YticncfaokapplaaRegj
import Derived.Deep.QuietTactic
import Derived.Deep.RegionWith
namespace Go.Proofs.Yticncfaokapplaa
open Go Go.RowKit

abbrev wra0 : Oper := { dst := some 57, op := Op.load 23 (Operand.tmp 6), type := 23, pos := "more.go:44", after := #[], guard := none }
abbrev wra1 : Oper := { dst := some 58, op := Op.move (Operand.tmp 9), type := 33, pos := "more.go:44", after := #[], guard := none }
abbrev wra2 : Oper := { dst := some 59, op := Op.move (Operand.tmp 12), type := 3, pos := "more.go:44", after := #[], guard := none }
abbrev wra3 : Oper := { dst := some 60, op := Op.indexAddr 33 (Operand.tmp 58) (Operand.tmp 59), type := 0, pos := "more.go:44", after := #[{ on := 1, ground := Ground.data }, { on := 2, ground := Ground.data }], guard := none }
abbrev wra4 : Oper := { dst := some 61, op := Op.load 3 (Operand.tmp 60), type := 3, pos := "more.go:44", after := #[{ on := 3, ground := Ground.data }], guard := none }
abbrev wra5 : Oper := { dst := some 62, op := Op.call { callee := Callee.value (Operand.func 8), args := #[Operand.tmp 57, Operand.tmp 61], argTypes := #[23, 3] }, type := 25, pos := "more.go:44", after := #[{ on := 0, ground := Ground.data }, { on := 4, ground := Ground.data }], guard := none }
abbrev wra6 : Oper := { dst := some 56, op := Op.move (Operand.tmp 62), type := 25, pos := "more.go:44", after := #[{ on := 5, ground := Ground.data }], guard := none }
abbrev wra7 : Oper := { dst := some 63, op := Op.extract (Operand.tmp 56) 0, type := 23, pos := "more.go:44", after := #[{ on := 6, ground := Ground.data }], guard := none }
abbrev wra8 : Oper := { dst := some 64, op := Op.extract (Operand.tmp 56) 1, type := 24, pos := "more.go:44", after := #[{ on := 6, ground := Ground.data }, { on := 10, ground := Ground.gcOnly Departure.lateStores }], guard := none }
abbrev wra9 : Oper := { dst := some 13, op := Op.alloc 23, type := 0, pos := "more.go:44", after := #[], guard := none }
abbrev wra10 : Oper := { dst := none, op := Op.store 23 (Operand.tmp 13) (Operand.tmp 63), type := 0, pos := "more.go:44", after := #[{ on := 9, ground := Ground.data }, { on := 7, ground := Ground.data }, { on := 5, ground := Ground.chain }, { on := 0, ground := Ground.phase }, { on := 1, ground := Ground.phase }, { on := 2, ground := Ground.phase }, { on := 3, ground := Ground.phase }, { on := 4, ground := Ground.phase }, { on := 5, ground := Ground.phase }, { on := 6, ground := Ground.phase }, { on := 7, ground := Ground.phase }, { on := 8, ground := Ground.textOnly Departure.lateStores }, { on := 9, ground := Ground.phase }], guard := none }
abbrev wra11 : Oper := { dst := some 14, op := Op.assign (Operand.tmp 64), type := 24, pos := "more.go:44", after := #[{ on := 8, ground := Ground.data }, { on := 10, ground := Ground.chain }, { on := 0, ground := Ground.phase }, { on := 1, ground := Ground.phase }, { on := 2, ground := Ground.phase }, { on := 3, ground := Ground.phase }, { on := 4, ground := Ground.phase }, { on := 5, ground := Ground.phase }, { on := 6, ground := Ground.phase }, { on := 7, ground := Ground.phase }, { on := 8, ground := Ground.phase }, { on := 9, ground := Ground.phase }, { on := 10, ground := Ground.phase }], guard := none }
abbrev wrb0 : Oper := { dst := some 66, op := Op.load 23 (Operand.tmp 7), type := 23, pos := "more.go:45", after := #[], guard := none }
abbrev wrb1 : Oper := { dst := some 67, op := Op.move (Operand.tmp 9), type := 33, pos := "more.go:45", after := #[], guard := none }
abbrev wrb2 : Oper := { dst := some 68, op := Op.move (Operand.tmp 9), type := 33, pos := "more.go:45", after := #[], guard := none }
abbrev wrb3 : Oper := { dst := some 69, op := Op.call { callee := Callee.builtin Builtin.len, args := #[Operand.tmp 68], argTypes := #[33] }, type := 3, pos := "more.go:45", after := #[{ on := 2, ground := Ground.data }], guard := none }
abbrev wrb4 : Oper := { dst := some 70, op := Op.binOp BinOp.sub 3 (Operand.tmp 69) (Operand.const (Value.int IntKind.i64 1)) 3, type := 3, pos := "more.go:45", after := #[{ on := 3, ground := Ground.data }], guard := none }
abbrev wrb5 : Oper := { dst := some 71, op := Op.move (Operand.tmp 12), type := 3, pos := "more.go:45", after := #[], guard := none }
abbrev wrb6 : Oper := { dst := some 72, op := Op.binOp BinOp.sub 3 (Operand.tmp 70) (Operand.tmp 71) 3, type := 3, pos := "more.go:45", after := #[{ on := 4, ground := Ground.data }, { on := 5, ground := Ground.data }], guard := none }
abbrev wrb7 : Oper := { dst := some 73, op := Op.indexAddr 33 (Operand.tmp 67) (Operand.tmp 72), type := 0, pos := "more.go:45", after := #[{ on := 1, ground := Ground.data }, { on := 6, ground := Ground.data }], guard := none }
abbrev wrb8 : Oper := { dst := some 74, op := Op.load 3 (Operand.tmp 73), type := 3, pos := "more.go:45", after := #[{ on := 7, ground := Ground.data }], guard := none }
abbrev wrb9 : Oper := { dst := some 75, op := Op.call { callee := Callee.value (Operand.func 8), args := #[Operand.tmp 66, Operand.tmp 74], argTypes := #[23, 3] }, type := 25, pos := "more.go:45", after := #[{ on := 0, ground := Ground.data }, { on := 8, ground := Ground.data }], guard := none }
abbrev wrb10 : Oper := { dst := some 65, op := Op.move (Operand.tmp 75), type := 25, pos := "more.go:45", after := #[{ on := 9, ground := Ground.data }], guard := none }
abbrev wrb11 : Oper := { dst := some 76, op := Op.extract (Operand.tmp 65) 0, type := 23, pos := "more.go:45", after := #[{ on := 10, ground := Ground.data }], guard := none }
abbrev wrb12 : Oper := { dst := some 77, op := Op.extract (Operand.tmp 65) 1, type := 24, pos := "more.go:45", after := #[{ on := 10, ground := Ground.data }, { on := 14, ground := Ground.gcOnly Departure.lateStores }], guard := none }
abbrev wrb13 : Oper := { dst := some 15, op := Op.alloc 23, type := 0, pos := "more.go:45", after := #[], guard := none }
abbrev wrb14 : Oper := { dst := none, op := Op.store 23 (Operand.tmp 15) (Operand.tmp 76), type := 0, pos := "more.go:45", after := #[{ on := 13, ground := Ground.data }, { on := 11, ground := Ground.data }, { on := 9, ground := Ground.chain }, { on := 0, ground := Ground.phase }, { on := 1, ground := Ground.phase }, { on := 2, ground := Ground.phase }, { on := 3, ground := Ground.phase }, { on := 4, ground := Ground.phase }, { on := 5, ground := Ground.phase }, { on := 6, ground := Ground.phase }, { on := 7, ground := Ground.phase }, { on := 8, ground := Ground.phase }, { on := 9, ground := Ground.phase }, { on := 10, ground := Ground.phase }, { on := 11, ground := Ground.phase }, { on := 12, ground := Ground.textOnly Departure.lateStores }, { on := 13, ground := Ground.phase }], guard := none }
abbrev wrb15 : Oper := { dst := some 16, op := Op.assign (Operand.tmp 77), type := 24, pos := "more.go:45", after := #[{ on := 12, ground := Ground.data }, { on := 14, ground := Ground.chain }, { on := 0, ground := Ground.phase }, { on := 1, ground := Ground.phase }, { on := 2, ground := Ground.phase }, { on := 3, ground := Ground.phase }, { on := 4, ground := Ground.phase }, { on := 5, ground := Ground.phase }, { on := 6, ground := Ground.phase }, { on := 7, ground := Ground.phase }, { on := 8, ground := Ground.phase }, { on := 9, ground := Ground.phase }, { on := 10, ground := Ground.phase }, { on := 11, ground := Ground.phase }, { on := 12, ground := Ground.phase }, { on := 13, ground := Ground.phase }, { on := 14, ground := Ground.phase }], guard := none }
set_option maxRecDepth 100000 in
set_option maxHeartbeats 16000000 in
theorem wrows_walk (P : WinsOk) (ao : Option Addr) (cap : Nat) (cs : List Int) (base : Int) (w : World) (hA : IArg w ao cs) :
    Calls Try.prog 6 #[.slice ao cs.length cap, .int .i64 base] w fun e w' => e = .returned (.bool true) ∧ Below w.heap.size w w' := by
  have HA := Lib.hid hA
  have hfew := hA.few
  obtain ⟨a, ha, ha2⟩ := wmask65535 base
  have hz := zero32
  have hl0 : (List.replicate 32 false).length = 32 := List.length_replicate
  generalize List.replicate 32 false = ls0 at *
  clear hA
  go_enter Try.func6, Try.ntmps6
  go_wp2_with (go_at_call 13; (with_reducible refine (awake17 P _).mono ?_); rintro e w1 ⟨rfl, hB⟩; have hW := At.qstart hB (-1) 0 (-1) 0 ls0; clear hB)
  clear hz
  go_loopw [9, 10] (fun y i wr => ∃ (k : Nat) (ls : List Bool) (ns : List Int), k ≤ cs.length ∧ k ≤ 40 ∧ i = .int .i64 (k : Int) ∧ ns.length ≤ k ∧ ls.length = 32 ∧ Nums (a : Int) ls ns ∧ At w (WQ y ns w1.heap.size (-1) 0 (-1) 0 ls) wr) (fun _ i _ => cs.length - (intOf i).toNat)
  case atStart => exact ⟨0, ls0, [], Nat.zero_le _, by omega, rfl, by decide, hl0, ⟨List.nodup_nil, fun n hn => by cases hn⟩, hW⟩
  case round =>
    clear hW hl0
    obtain ⟨k, ls, ns, hk, hk4, rfl, hkn, hl, hN, hW⟩ := hrel
    by_cases hlt : k < cs.length ∧ k < 40
    · obtain ⟨hlt, h40⟩ := hlt
      obtain ⟨b0, off0, z, rfl, hz, hzb, hcz⟩ := HA.out.at hlt
      have c0 := hcz _ hW.bel
      clear hcz hz
      obtain ⟨s, hs, hs2⟩ := wmask31 z
      have hsI : (s : Int) < 32 := by omega
      generalize w1.heap.size = p at *
      cases hse : ls.getD s false with
      | false =>
        have hN2 := hN.snoc hs2 hl hse
        have es0 : wr.cell? ⟨p + 1 + 1, s, none⟩ = some (.bool false) := (hW.qs.cell s).trans (by rw [bools_at (by omega), hse])
        have gs := hW.qs.froz s
        have hW2 := hW.qsetS s true
        have hsz : (wr.setCell ⟨p + 1 + 1, s, none⟩ (.bool true)).heap.size = wr.heap.size := by simp
        have HN := Lib.hid hN2
        clear hN hN2 hse
        go_wp2_with (at_builtin; refine app_int (wqC _ _ _ _ _ _) rfl _ _ rfl _ ns ((a : Int) + (s : Int)) rfl (by rw [hsz]; rfl) hW2 (by omega) ?_; intro v' w4 hW3)
        go_roundw
        case rel => exact ⟨k + 1, ls.set s true, ns ++ [(a : Int) + (s : Int)], by omega, by omega, by go_num, by simp; omega, by rw [List.length_set]; exact hl, HN.out, hW3⟩
        case measure => simp [intOf]; omega
      | true =>
        have es0 : wr.cell? ⟨p + 1 + 1, s, none⟩ = some (.bool true) := (hW.qs.cell s).trans (by rw [bools_at (by omega), hse])
        clear hse
        go_wp2
        go_roundw
        case rel => exact ⟨k + 1, ls, ns, by omega, by omega, by go_num, by omega, hl, hN, hW⟩
        case measure => simp [intOf]; omega
    · have hcase : ¬ (k : Int) < (cs.length : Int) ∨ ((k : Int) < (cs.length : Int) ∧ ¬ (k : Int) < 40) := by omega
      obtain ⟨v0, c0, rfl⟩ := hW.qshape
      have hnl : ns.length ≤ 40 := by omega
      generalize w1.heap.size = p at *
      clear hlt
      rcases hcase with hx | ⟨hx, hx2⟩
      all_goals
        go_wp2
        go_loopw [12] (fun x wr => ∃ (i : Nat) (hu hd : Int) (bu bd : Nat), x = .int .i64 (i : Int) ∧ i ≤ ns.length ∧ Aside (Win (memC (ns.take i)) hu bu ∧ Win (memC (ns.drop (ns.length - i))) hd bd ∧ At w (WQ (.slice v0 ns.length c0) ns p hu (bu : Int) hd (bd : Int) ls) wr)) (fun x _ => ns.length - (intOf x).toNat)
        case atStart => exact ⟨0, -1, -1, 0, 0, rfl, Nat.zero_le _, (show Aside _ from ⟨Win.none.to (fun n => by simp [memC]), Win.none.to (fun n => by simp [memC]), hW⟩)⟩
        case round =>
          clear hW
          obtain ⟨i, hu, hd, bu, bd, rfl, hi, hall⟩ := hrel
          obtain ⟨hU, hD, hW⟩ := hall.out
          clear hall
          by_cases hin : i < ns.length
          · obtain ⟨g, rfl, _⟩ := hW.qnum hin
            obtain ⟨x, hx⟩ : ∃ x, ns.getD i 0 = x := ⟨_, rfl⟩
            obtain ⟨j, hj⟩ : ∃ j : Nat, j = ns.length - 1 - i := ⟨_, rfl⟩
            have hjn : j < ns.length := by omega
            obtain ⟨y, hy⟩ : ∃ y, ns.getD j 0 = y := ⟨_, rfl⟩
            have HC1 := Lib.hid (fun W (h : At w (WQ (.slice (some ⟨g, 0, none⟩) ns.length c0) ns p hu (bu : Int) hd (bd : Int) ls) W) => show W.cell? ⟨g, i, none⟩ = some (.int .i64 x) from by
              obtain ⟨g', e, hc⟩ := h.qnum hin
              obtain rfl : g = g' := by simpa using e
              rw [hc, hx])
            have HC2 := Lib.hid (fun W (h : At w (WQ (.slice (some ⟨g, 0, none⟩) ns.length c0) ns p hu (bu : Int) hd (bd : Int) ls) W) => show W.cell? ⟨g, j, none⟩ = some (.int .i64 y) from by
              obtain ⟨g', e, hc⟩ := h.qnum hjn
              obtain rfl : g = g' := by simpa using e
              rw [hc, hy])
            obtain ⟨m1, _, m3, m4⟩ := nums_take hN hin hx
            obtain ⟨_, m6, m7, m8⟩ := nums_take hN hjn hy
            have u1 := nums_high hN (fun n hn => List.mem_of_mem_take hn) hU (by omega)
            have u2 := nums_high hN (fun n hn => List.mem_of_mem_drop hn) hD (by omega)
            rw [show ns.length - i = j + 1 by omega] at hD
            obtain ⟨e1, e2, Y1, e3, e4⟩ := hU.new (s := x) (by omega) (by omega) m1 (by omega)
            obtain ⟨f1, f2, Y2, f3, f4⟩ := hD.new (s := y) (by omega) (by omega) m6 (by omega)
            have e5 : Win (memC (ns.take (i + 1))) _ _ := e4.to (fun n => by rw [at_take hin hx]; exact memC_snoc _ _ _)
            have f5 : Win (memC (ns.drop (ns.length - (i + 1)))) _ _ := f4.to (fun n => by rw [show ns.length - (i + 1) = j by omega, at_drop hjn hy]; exact memC_cons _ _ _)
            generalize (if hu < x then x else hu) = X1 at *
            generalize (if hd < y then y else hd) = X2 at *
            have HA1 := Lib.hid (fun w => P.adds e2 e3 e1 w)
            have HA2 := Lib.hid (fun w => P.adds f2 f3 f1 w)
            have HU := Lib.hid e5
            have HD := Lib.hid f5
            have hinI : (i : Int) < (ns.length : Int) := by omega
            have hjI : (j : Int) < (ns.length : Int) := by omega
            have hwa : IntKind.i64.wrap ((ns.length : Int) - 1) = (ns.length : Int) - 1 := by rw [IntKind.wrap_i64]; omega
            have hwb : IntKind.i64.wrap ((ns.length : Int) - 1 - (i : Int)) = (j : Int) := by rw [IntKind.wrap_i64]; omega
            have hwc : (ns.length : Int) - 1 - (i : Int) = (j : Int) := by omega
            have hwd : IntKind.i64.wrap (j : Int) = (j : Int) := by rw [IntKind.wrap_i64]; omega
            clear hj e1 e2 e3 e4 e5 f1 f2 f3 f4 f5 hU hD m1 m3 m4 m6 m7 m8 u1 u2 hx hy
            go_wp2
            have hV_start := hW.qlay (w' := wr.drew) ⟨rfl, rfl, rfl, Nat.le_refl _, fun _ _ => rfl⟩
            clear hW
            refine region_held (S := fun Z8 => At w (WQ (.slice (some ⟨g, 0, none⟩) ns.length c0) ns p hu (bu : Int) hd (bd : Int) ls) Z8) 12 [false, false, false, false, false, false, false, false, false, false, false, false] rfl rfl (by kernel_rfl) fun V0 hW0 => ?_
            have hV : At w (WQ (.slice (some ⟨g, 0, none⟩) ns.length c0) ns p hu (bu : Int) hd (bd : Int) ls) V0 := by rw [hW0]; exact hV_start
            clear hW0
            refine run_go [(0, wra0, (some 57)), (1, wra1, (some 58)), (2, wra2, (some 59)), (3, wra3, (some 60)), (4, wra4, (some 61))] (by kernel_rfl) ?_
            iterate 5 (refine run_take ?_ rfl rfl (fun _ _ _ h => h) (Or.inl ⟨by rfl, ?_⟩) hV ?_; rotate_left; (· (intro w0 hy0; have eu := hy0.qu.cell; have er := HC1.out _ hy0; (go_simp <;> with_reducible rfl))); simp only [Act.put, List.setIfInBounds_toArray, List.set_cons_zero, List.set_cons_succ])
            refine run_end ?_
            refine jtwo 5 9 (by kernel_rfl) ?_ ?_
            · refine jop_call 5 wra5 (some 62) (.tuple #[.agg #[.int .i64 X1, .int .i64 (Y1 : Int)], .int .i64 0]) (fun Z9 => At w (WQ (.slice (some ⟨g, 0, none⟩) ns.length c0) ns p hu (bu : Int) hd (bd : Int) ls) Z9) 8 #[.agg #[.int .i64 hu, .int .i64 (bu : Int)], .int .i64 x] ?_ rfl (by rfl) (by go_simp <;> with_reducible rfl) ((HA1.out _).mono fun e w' ⟨c1, c2⟩ => ⟨c1, At.lay (WQ_good _ _ _ _ _ _ _ _) hV c2⟩) (fun _ e => e) ?_
              · rfl
              intro V1 hV1
              simp only [Act.put, List.setIfInBounds_toArray, List.set_cons_zero, List.set_cons_succ]
              refine run_go [(6, wra6, (some 56)), (7, wra7, (some 63)), (8, wra8, (some 64))] (by kernel_rfl) ?_
              iterate 3 (refine run_take ?_ rfl rfl (fun _ _ _ h => h) (Or.inl ⟨by rfl, ?_⟩) hV1 ?_; rotate_left; (· (intro w0 hy0; (go_simp <;> with_reducible rfl))); simp only [Act.put, List.setIfInBounds_toArray, List.set_cons_zero, List.set_cons_succ])
              refine run_end ?_
              have hA1 : At w ((ownA V1.heap.size #[.int .i64 0, .int .i64 0] TWd).star (WQ (.slice (some ⟨g, 0, none⟩) ns.length c0) ns p hu (bu : Int) hd (bd : Int) ls)) (V1.alloc (.cells #[.int .i64 0, .int .i64 0] TWd)) := At.hold (WQ_good _ _ _ _ _ _ _ _) hV1 _ _
              refine held_one 9 wra9 (some 13) (.pointer (some ⟨V1.heap.size, 0, none⟩)) (V1.alloc (.cells #[.int .i64 0, .int .i64 0] TWd)) (by kernel_rfl) rfl rfl (by rfl) (by go_simp <;> with_reducible rfl) hA1.drop ?_
              simp only [Act.put, List.setIfInBounds_toArray, List.set_cons_zero, List.set_cons_succ]
              have hA2 : At w ((ownA V1.heap.size #[.int .i64 X1, .int .i64 (Y1 : Int)] TWd).star (WQ (.slice (some ⟨g, 0, none⟩) ns.length c0) ns p hu (bu : Int) hd (bd : Int) ls)) (V1.alloc (.cells #[.int .i64 X1, .int .i64 (Y1 : Int)] TWd)) := At.hold (WQ_good _ _ _ _ _ _ _ _) hV1 _ _
              refine held_void 10 wra10 (V1.alloc (.cells #[.int .i64 X1, .int .i64 (Y1 : Int)] TWd)) (by kernel_rfl) rfl (by rfl) (by go_simp <;> with_reducible rfl) hA2.drop ?_
              simp only [Act.put, List.setIfInBounds_toArray, List.set_cons_zero, List.set_cons_succ]
              refine held_one 11 wra11 (some 14) (.int .i64 0) _ (by kernel_rfl) rfl rfl (by rfl) (by go_simp <;> with_reducible rfl) hA2.drop ?_
              simp only [Act.put, List.setIfInBounds_toArray, List.set_cons_zero, List.set_cons_succ]
              refine wpAnyH_done (by kernel_rfl) ?_ _
              have hX := hA2
              clear hA1 hA2 hV1 hV
              generalize V1.heap.size = px at *
              generalize (V1.alloc (.cells #[.int .i64 X1, .int .i64 (Y1 : Int)] TWd)) = Wf at *
              go_wp2
              have hR_start := At.lay ((ownA_good _ _ _).star (WQ_good _ _ _ _ _ _ _ _)) hX (w' := Wf.drew) ⟨rfl, rfl, rfl, Nat.le_refl _, fun _ _ => rfl⟩
              clear hX
              refine region_held (S := fun Z8 => At w ((ownA px #[.int .i64 X1, .int .i64 (Y1 : Int)] TWd).star (WQ (.slice (some ⟨g, 0, none⟩) ns.length c0) ns p hu (bu : Int) hd (bd : Int) ls)) Z8) 16 [false, false, false, false, false, false, false, false, false, false, false, false, false, false, false, false] rfl rfl (by kernel_rfl) fun V0 hW0 => ?_
              have hR : At w ((ownA px #[.int .i64 X1, .int .i64 (Y1 : Int)] TWd).star (WQ (.slice (some ⟨g, 0, none⟩) ns.length c0) ns p hu (bu : Int) hd (bd : Int) ls)) V0 := by rw [hW0]; exact hR_start
              clear hW0
              refine run_go [(0, wrb0, (some 66)), (1, wrb1, (some 67)), (2, wrb2, (some 68)), (3, wrb3, (some 69)), (4, wrb4, (some 70)), (5, wrb5, (some 71)), (6, wrb6, (some 72)), (7, wrb7, (some 73)), (8, wrb8, (some 74))] (by kernel_rfl) ?_
              iterate 9 (refine run_take ?_ rfl rfl (fun _ _ _ h => h) (Or.inl ⟨by rfl, ?_⟩) hR ?_; rotate_left; (· (intro w0 hy0; have eu := hy0.drop.qd.cell; have er := HC2.out _ hy0.drop; (go_simp <;> with_reducible rfl))); simp only [Act.put, List.setIfInBounds_toArray, List.set_cons_zero, List.set_cons_succ])
              refine run_end ?_
              refine jtwo 9 13 (by kernel_rfl) ?_ ?_
              · refine jop_call 9 wrb9 (some 75) (.tuple #[.agg #[.int .i64 X2, .int .i64 (Y2 : Int)], .int .i64 0]) (fun Z9 => At w ((ownA px #[.int .i64 X1, .int .i64 (Y1 : Int)] TWd).star (WQ (.slice (some ⟨g, 0, none⟩) ns.length c0) ns p hu (bu : Int) hd (bd : Int) ls)) Z9) 8 #[.agg #[.int .i64 hd, .int .i64 (bd : Int)], .int .i64 y] ?_ rfl (by rfl) (by go_simp <;> with_reducible rfl) ((HA2.out _).mono fun e w' ⟨c1, c2⟩ => ⟨c1, At.lay ((ownA_good _ _ _).star (WQ_good _ _ _ _ _ _ _ _)) hR c2⟩) (fun _ e => e) ?_
                · rfl
                intro V1 hV1
                simp only [Act.put, List.setIfInBounds_toArray, List.set_cons_zero, List.set_cons_succ]
                refine run_go [(10, wrb10, (some 65)), (11, wrb11, (some 76)), (12, wrb12, (some 77))] (by kernel_rfl) ?_
                iterate 3 (refine run_take ?_ rfl rfl (fun _ _ _ h => h) (Or.inl ⟨by rfl, ?_⟩) hV1 ?_; rotate_left; (· (intro w0 hy0; (go_simp <;> with_reducible rfl))); simp only [Act.put, List.setIfInBounds_toArray, List.set_cons_zero, List.set_cons_succ])
                refine run_end ?_
                have hA1 : At w ((ownA V1.heap.size #[.int .i64 0, .int .i64 0] TWd).star ((ownA px #[.int .i64 X1, .int .i64 (Y1 : Int)] TWd).star (WQ (.slice (some ⟨g, 0, none⟩) ns.length c0) ns p hu (bu : Int) hd (bd : Int) ls))) (V1.alloc (.cells #[.int .i64 0, .int .i64 0] TWd)) := At.hold ((ownA_good _ _ _).star (WQ_good _ _ _ _ _ _ _ _)) hV1 _ _
                refine held_one 13 wrb13 (some 15) (.pointer (some ⟨V1.heap.size, 0, none⟩)) (V1.alloc (.cells #[.int .i64 0, .int .i64 0] TWd)) (by kernel_rfl) rfl rfl (by rfl) (by go_simp <;> with_reducible rfl) hA1.drop ?_
                simp only [Act.put, List.setIfInBounds_toArray, List.set_cons_zero, List.set_cons_succ]
                have hA2 : At w ((ownA V1.heap.size #[.int .i64 X2, .int .i64 (Y2 : Int)] TWd).star ((ownA px #[.int .i64 X1, .int .i64 (Y1 : Int)] TWd).star (WQ (.slice (some ⟨g, 0, none⟩) ns.length c0) ns p hu (bu : Int) hd (bd : Int) ls))) (V1.alloc (.cells #[.int .i64 X2, .int .i64 (Y2 : Int)] TWd)) := At.hold ((ownA_good _ _ _).star (WQ_good _ _ _ _ _ _ _ _)) hV1 _ _
                refine held_void 14 wrb14 (V1.alloc (.cells #[.int .i64 X2, .int .i64 (Y2 : Int)] TWd)) (by kernel_rfl) rfl (by rfl) (by go_simp <;> with_reducible rfl) hA2.drop ?_
                simp only [Act.put, List.setIfInBounds_toArray, List.set_cons_zero, List.set_cons_succ]
                refine held_one 15 wrb15 (some 16) (.int .i64 0) _ (by kernel_rfl) rfl rfl (by rfl) (by go_simp <;> with_reducible rfl) hA2.drop ?_
                simp only [Act.put, List.setIfInBounds_toArray, List.set_cons_zero, List.set_cons_succ]
                refine wpAnyH_done (by kernel_rfl) ?_ _
                have hY := hA2
                clear hA1 hA2 hV1 hR
                generalize V1.heap.size = py at *
                generalize (V1.alloc (.cells #[.int .i64 X2, .int .i64 (Y2 : Int)] TWd)) = Wg at *
                have hP := ((hY.imp (Ass.imp.up3 _ _ _ _ _)).poke ((ownA_good _ _ _).star ((ownA_good _ _ _).star ((rowA_good _ _ _).star ((ownA_good _ _ _).star ((ownA_good _ _ _).star emp_good))))) 0 (.int .i64 X1)).poke ((ownA_good _ _ _).star ((ownA_good _ _ _).star ((rowA_good _ _ _).star ((ownA_good _ _ _).star ((ownA_good _ _ _).star emp_good))))) 1 (.int .i64 (Y1 : Int))
                have hP2 : At w ((ownA py #[.int .i64 X2, .int .i64 (Y2 : Int)] TWd).star ((ownA px #[.int .i64 X1, .int .i64 (Y1 : Int)] TWd).star (WQ (.slice (some ⟨g, 0, none⟩) ns.length c0) ns p X1 (Y1 : Int) hd (bd : Int) ls))) _ := hP.imp (Ass.imp.dn3 _ _ _ _ _)
                have hQ := hP2.drop.drop.qsetD X2 (Y2 : Int)
                obtain ⟨ey, -, -⟩ := hP2.own
                obtain ⟨ex, -, -⟩ := hY.drop.own
                have eu := hY.drop.drop.qu.cell
                have gu := hY.drop.drop.qu.froz
                have ed := hP2.drop.drop.qd.cell
                have gd := hP2.drop.drop.qd.froz
                have HQ := Lib.hid hQ
                clear hY hP hP2 hQ
                go_wp2_with (go_at_call 10; (with_reducible refine (lnum _ _).mono ?_); rintro e wn ⟨rfl, rfl⟩)
                go_roundw
                case rel => exact ⟨i + 1, X1, X2, Y1, Y2, by go_num, by omega, (show Aside _ from ⟨HU.out, HD.out, HQ.out⟩)⟩
                case measure => simp [intOf]; omega
              · have hA1 : At w ((ownA V0.heap.size #[.int .i64 0, .int .i64 0] TWd).star ((ownA px #[.int .i64 X1, .int .i64 (Y1 : Int)] TWd).star (WQ (.slice (some ⟨g, 0, none⟩) ns.length c0) ns p hu (bu : Int) hd (bd : Int) ls))) (V0.alloc (.cells #[.int .i64 0, .int .i64 0] TWd)) := At.hold ((ownA_good _ _ _).star (WQ_good _ _ _ _ _ _ _ _)) hR _ _
                refine jop_one 13 wrb13 (some 15) (.pointer (some ⟨V0.heap.size, 0, none⟩)) (V0.alloc (.cells #[.int .i64 0, .int .i64 0] TWd)) ?_ rfl (by rfl) (by go_simp <;> with_reducible rfl) hA1.drop ?_
                · rfl
                simp only [Act.put, List.setIfInBounds_toArray, List.set_cons_zero, List.set_cons_succ]
                generalize V0.heap.size = py at *
                refine held_call 9 wrb9 (some 75) (.tuple #[.agg #[.int .i64 X2, .int .i64 (Y2 : Int)], .int .i64 0]) (fun Z9 => At w ((ownA py #[.int .i64 0, .int .i64 0] TWd).star ((ownA px #[.int .i64 X1, .int .i64 (Y1 : Int)] TWd).star (WQ (.slice (some ⟨g, 0, none⟩) ns.length c0) ns p hu (bu : Int) hd (bd : Int) ls))) Z9) 8 #[.agg #[.int .i64 hd, .int .i64 (bd : Int)], .int .i64 y] (by kernel_rfl) rfl rfl (by rfl) (by go_simp <;> with_reducible rfl) ((HA2.out _).mono fun e w' ⟨c1, c2⟩ => ⟨c1, At.lay ((ownA_good _ _ _).star ((ownA_good _ _ _).star (WQ_good _ _ _ _ _ _ _ _))) hA1 c2⟩) (fun _ e => e.drop) ?_
                intro V1 hV1
                simp only [Act.put, List.setIfInBounds_toArray, List.set_cons_zero, List.set_cons_succ]
                refine run_go [(10, wrb10, (some 65)), (11, wrb11, (some 76)), (12, wrb12, (some 77))] (by kernel_rfl) ?_
                iterate 3 (refine run_take ?_ rfl rfl (fun _ _ _ h => h) (Or.inl ⟨by rfl, ?_⟩) hV1.drop ?_; rotate_left; (· (intro w0 hy0; (go_simp <;> with_reducible rfl))); simp only [Act.put, List.setIfInBounds_toArray, List.set_cons_zero, List.set_cons_succ])
                refine run_end ?_
                have hA2 : At w ((ownA py #[.int .i64 X2, .int .i64 (Y2 : Int)] TWd).star ((ownA px #[.int .i64 X1, .int .i64 (Y1 : Int)] TWd).star (WQ (.slice (some ⟨g, 0, none⟩) ns.length c0) ns p hu (bu : Int) hd (bd : Int) ls))) ((V1.setCell ⟨py, 0, none⟩ (.int .i64 X2)).setCell ⟨py, 1, none⟩ (.int .i64 (Y2 : Int))) := (hV1.poke ((ownA_good _ _ _).star (WQ_good _ _ _ _ _ _ _ _)) 0 (.int .i64 X2)).poke ((ownA_good _ _ _).star (WQ_good _ _ _ _ _ _ _ _)) 1 (.int .i64 (Y2 : Int))
                obtain ⟨k1, k2, -⟩ := hV1.own
                refine held_void 14 wrb14 ((V1.setCell ⟨py, 0, none⟩ (.int .i64 X2)).setCell ⟨py, 1, none⟩ (.int .i64 (Y2 : Int))) (by kernel_rfl) rfl (by rfl) (by go_simp <;> with_reducible rfl) hA2.drop ?_
                simp only [Act.put, List.setIfInBounds_toArray, List.set_cons_zero, List.set_cons_succ]
                refine held_one 15 wrb15 (some 16) (.int .i64 0) _ (by kernel_rfl) rfl rfl (by rfl) (by go_simp <;> with_reducible rfl) hA2.drop ?_
                simp only [Act.put, List.setIfInBounds_toArray, List.set_cons_zero, List.set_cons_succ]
                refine wpAnyH_done (by kernel_rfl) ?_ _
                have hY := hA2
                clear hA1 hA2 hV1 hR k1 k2
                generalize ((V1.setCell ⟨py, 0, none⟩ (.int .i64 X2)).setCell ⟨py, 1, none⟩ (.int .i64 (Y2 : Int))) = Wg at *
                have hP := ((hY.imp (Ass.imp.up3 _ _ _ _ _)).poke ((ownA_good _ _ _).star ((ownA_good _ _ _).star ((rowA_good _ _ _).star ((ownA_good _ _ _).star ((ownA_good _ _ _).star emp_good))))) 0 (.int .i64 X1)).poke ((ownA_good _ _ _).star ((ownA_good _ _ _).star ((rowA_good _ _ _).star ((ownA_good _ _ _).star ((ownA_good _ _ _).star emp_good))))) 1 (.int .i64 (Y1 : Int))
                have hP2 : At w ((ownA py #[.int .i64 X2, .int .i64 (Y2 : Int)] TWd).star ((ownA px #[.int .i64 X1, .int .i64 (Y1 : Int)] TWd).star (WQ (.slice (some ⟨g, 0, none⟩) ns.length c0) ns p X1 (Y1 : Int) hd (bd : Int) ls))) _ := hP.imp (Ass.imp.dn3 _ _ _ _ _)
                have hQ := hP2.drop.drop.qsetD X2 (Y2 : Int)
                obtain ⟨ey, -, -⟩ := hP2.own
                obtain ⟨ex, -, -⟩ := hY.drop.own
                have eu := hY.drop.drop.qu.cell
                have gu := hY.drop.drop.qu.froz
                have ed := hP2.drop.drop.qd.cell
                have gd := hP2.drop.drop.qd.froz
                have HQ := Lib.hid hQ
                clear hY hP hP2 hQ
                go_wp2_with (go_at_call 10; (with_reducible refine (lnum _ _).mono ?_); rintro e wn ⟨rfl, rfl⟩)
                go_roundw
                case rel => exact ⟨i + 1, X1, X2, Y1, Y2, by go_num, by omega, (show Aside _ from ⟨HU.out, HD.out, HQ.out⟩)⟩
                case measure => simp [intOf]; omega
            · have hA1 : At w ((ownA V0.heap.size #[.int .i64 0, .int .i64 0] TWd).star (WQ (.slice (some ⟨g, 0, none⟩) ns.length c0) ns p hu (bu : Int) hd (bd : Int) ls)) (V0.alloc (.cells #[.int .i64 0, .int .i64 0] TWd)) := At.hold (WQ_good _ _ _ _ _ _ _ _) hV _ _
              refine jop_one 9 wra9 (some 13) (.pointer (some ⟨V0.heap.size, 0, none⟩)) (V0.alloc (.cells #[.int .i64 0, .int .i64 0] TWd)) ?_ rfl (by rfl) (by go_simp <;> with_reducible rfl) hA1.drop ?_
              · rfl
              simp only [Act.put, List.setIfInBounds_toArray, List.set_cons_zero, List.set_cons_succ]
              generalize V0.heap.size = px at *
              refine held_call 5 wra5 (some 62) (.tuple #[.agg #[.int .i64 X1, .int .i64 (Y1 : Int)], .int .i64 0]) (fun Z9 => At w ((ownA px #[.int .i64 0, .int .i64 0] TWd).star (WQ (.slice (some ⟨g, 0, none⟩) ns.length c0) ns p hu (bu : Int) hd (bd : Int) ls)) Z9) 8 #[.agg #[.int .i64 hu, .int .i64 (bu : Int)], .int .i64 x] (by kernel_rfl) rfl rfl (by rfl) (by go_simp <;> with_reducible rfl) ((HA1.out _).mono fun e w' ⟨c1, c2⟩ => ⟨c1, At.lay ((ownA_good _ _ _).star (WQ_good _ _ _ _ _ _ _ _)) hA1 c2⟩) (fun _ e => e.drop) ?_
              intro V1 hV1
              simp only [Act.put, List.setIfInBounds_toArray, List.set_cons_zero, List.set_cons_succ]
              refine run_go [(6, wra6, (some 56)), (7, wra7, (some 63)), (8, wra8, (some 64))] (by kernel_rfl) ?_
              iterate 3 (refine run_take ?_ rfl rfl (fun _ _ _ h => h) (Or.inl ⟨by rfl, ?_⟩) hV1.drop ?_; rotate_left; (· (intro w0 hy0; (go_simp <;> with_reducible rfl))); simp only [Act.put, List.setIfInBounds_toArray, List.set_cons_zero, List.set_cons_succ])
              refine run_end ?_
              have hA2 : At w ((ownA px #[.int .i64 X1, .int .i64 (Y1 : Int)] TWd).star (WQ (.slice (some ⟨g, 0, none⟩) ns.length c0) ns p hu (bu : Int) hd (bd : Int) ls)) ((V1.setCell ⟨px, 0, none⟩ (.int .i64 X1)).setCell ⟨px, 1, none⟩ (.int .i64 (Y1 : Int))) := (hV1.poke (WQ_good _ _ _ _ _ _ _ _) 0 (.int .i64 X1)).poke (WQ_good _ _ _ _ _ _ _ _) 1 (.int .i64 (Y1 : Int))
              obtain ⟨k1, k2, -⟩ := hV1.own
              refine held_void 10 wra10 ((V1.setCell ⟨px, 0, none⟩ (.int .i64 X1)).setCell ⟨px, 1, none⟩ (.int .i64 (Y1 : Int))) (by kernel_rfl) rfl (by rfl) (by go_simp <;> with_reducible rfl) hA2.drop ?_
              simp only [Act.put, List.setIfInBounds_toArray, List.set_cons_zero, List.set_cons_succ]
              refine held_one 11 wra11 (some 14) (.int .i64 0) _ (by kernel_rfl) rfl rfl (by rfl) (by go_simp <;> with_reducible rfl) hA2.drop ?_
              simp only [Act.put, List.setIfInBounds_toArray, List.set_cons_zero, List.set_cons_succ]
              refine wpAnyH_done (by kernel_rfl) ?_ _
              have hX := hA2
              clear hA1 hA2 hV1 hV k1 k2
              generalize ((V1.setCell ⟨px, 0, none⟩ (.int .i64 X1)).setCell ⟨px, 1, none⟩ (.int .i64 (Y1 : Int))) = Wf at *
              go_wp2
              have hR_start := At.lay ((ownA_good _ _ _).star (WQ_good _ _ _ _ _ _ _ _)) hX (w' := Wf.drew) ⟨rfl, rfl, rfl, Nat.le_refl _, fun _ _ => rfl⟩
              clear hX
              refine region_held (S := fun Z8 => At w ((ownA px #[.int .i64 X1, .int .i64 (Y1 : Int)] TWd).star (WQ (.slice (some ⟨g, 0, none⟩) ns.length c0) ns p hu (bu : Int) hd (bd : Int) ls)) Z8) 16 [false, false, false, false, false, false, false, false, false, false, false, false, false, false, false, false] rfl rfl (by kernel_rfl) fun V0 hW0 => ?_
              have hR : At w ((ownA px #[.int .i64 X1, .int .i64 (Y1 : Int)] TWd).star (WQ (.slice (some ⟨g, 0, none⟩) ns.length c0) ns p hu (bu : Int) hd (bd : Int) ls)) V0 := by rw [hW0]; exact hR_start
              clear hW0
              refine run_go [(0, wrb0, (some 66)), (1, wrb1, (some 67)), (2, wrb2, (some 68)), (3, wrb3, (some 69)), (4, wrb4, (some 70)), (5, wrb5, (some 71)), (6, wrb6, (some 72)), (7, wrb7, (some 73)), (8, wrb8, (some 74))] (by kernel_rfl) ?_
              iterate 9 (refine run_take ?_ rfl rfl (fun _ _ _ h => h) (Or.inl ⟨by rfl, ?_⟩) hR ?_; rotate_left; (· (intro w0 hy0; have eu := hy0.drop.qd.cell; have er := HC2.out _ hy0.drop; (go_simp <;> with_reducible rfl))); simp only [Act.put, List.setIfInBounds_toArray, List.set_cons_zero, List.set_cons_succ])
              refine run_end ?_
              refine jtwo 9 13 (by kernel_rfl) ?_ ?_
              · refine jop_call 9 wrb9 (some 75) (.tuple #[.agg #[.int .i64 X2, .int .i64 (Y2 : Int)], .int .i64 0]) (fun Z9 => At w ((ownA px #[.int .i64 X1, .int .i64 (Y1 : Int)] TWd).star (WQ (.slice (some ⟨g, 0, none⟩) ns.length c0) ns p hu (bu : Int) hd (bd : Int) ls)) Z9) 8 #[.agg #[.int .i64 hd, .int .i64 (bd : Int)], .int .i64 y] ?_ rfl (by rfl) (by go_simp <;> with_reducible rfl) ((HA2.out _).mono fun e w' ⟨c1, c2⟩ => ⟨c1, At.lay ((ownA_good _ _ _).star (WQ_good _ _ _ _ _ _ _ _)) hR c2⟩) (fun _ e => e) ?_
                · rfl
                intro V1 hV1
                simp only [Act.put, List.setIfInBounds_toArray, List.set_cons_zero, List.set_cons_succ]
                refine run_go [(10, wrb10, (some 65)), (11, wrb11, (some 76)), (12, wrb12, (some 77))] (by kernel_rfl) ?_
                iterate 3 (refine run_take ?_ rfl rfl (fun _ _ _ h => h) (Or.inl ⟨by rfl, ?_⟩) hV1 ?_; rotate_left; (· (intro w0 hy0; (go_simp <;> with_reducible rfl))); simp only [Act.put, List.setIfInBounds_toArray, List.set_cons_zero, List.set_cons_succ])
                refine run_end ?_
                have hA1 : At w ((ownA V1.heap.size #[.int .i64 0, .int .i64 0] TWd).star ((ownA px #[.int .i64 X1, .int .i64 (Y1 : Int)] TWd).star (WQ (.slice (some ⟨g, 0, none⟩) ns.length c0) ns p hu (bu : Int) hd (bd : Int) ls))) (V1.alloc (.cells #[.int .i64 0, .int .i64 0] TWd)) := At.hold ((ownA_good _ _ _).star (WQ_good _ _ _ _ _ _ _ _)) hV1 _ _
                refine held_one 13 wrb13 (some 15) (.pointer (some ⟨V1.heap.size, 0, none⟩)) (V1.alloc (.cells #[.int .i64 0, .int .i64 0] TWd)) (by kernel_rfl) rfl rfl (by rfl) (by go_simp <;> with_reducible rfl) hA1.drop ?_
                simp only [Act.put, List.setIfInBounds_toArray, List.set_cons_zero, List.set_cons_succ]
                have hA2 : At w ((ownA V1.heap.size #[.int .i64 X2, .int .i64 (Y2 : Int)] TWd).star ((ownA px #[.int .i64 X1, .int .i64 (Y1 : Int)] TWd).star (WQ (.slice (some ⟨g, 0, none⟩) ns.length c0) ns p hu (bu : Int) hd (bd : Int) ls))) (V1.alloc (.cells #[.int .i64 X2, .int .i64 (Y2 : Int)] TWd)) := At.hold ((ownA_good _ _ _).star (WQ_good _ _ _ _ _ _ _ _)) hV1 _ _
                refine held_void 14 wrb14 (V1.alloc (.cells #[.int .i64 X2, .int .i64 (Y2 : Int)] TWd)) (by kernel_rfl) rfl (by rfl) (by go_simp <;> with_reducible rfl) hA2.drop ?_
                simp only [Act.put, List.setIfInBounds_toArray, List.set_cons_zero, List.set_cons_succ]
                refine held_one 15 wrb15 (some 16) (.int .i64 0) _ (by kernel_rfl) rfl rfl (by rfl) (by go_simp <;> with_reducible rfl) hA2.drop ?_
                simp only [Act.put, List.setIfInBounds_toArray, List.set_cons_zero, List.set_cons_succ]
                refine wpAnyH_done (by kernel_rfl) ?_ _
                have hY := hA2
                clear hA1 hA2 hV1 hR
                generalize V1.heap.size = py at *
                generalize (V1.alloc (.cells #[.int .i64 X2, .int .i64 (Y2 : Int)] TWd)) = Wg at *
                have hP := ((hY.imp (Ass.imp.up3 _ _ _ _ _)).poke ((ownA_good _ _ _).star ((ownA_good _ _ _).star ((rowA_good _ _ _).star ((ownA_good _ _ _).star ((ownA_good _ _ _).star emp_good))))) 0 (.int .i64 X1)).poke ((ownA_good _ _ _).star ((ownA_good _ _ _).star ((rowA_good _ _ _).star ((ownA_good _ _ _).star ((ownA_good _ _ _).star emp_good))))) 1 (.int .i64 (Y1 : Int))
                have hP2 : At w ((ownA py #[.int .i64 X2, .int .i64 (Y2 : Int)] TWd).star ((ownA px #[.int .i64 X1, .int .i64 (Y1 : Int)] TWd).star (WQ (.slice (some ⟨g, 0, none⟩) ns.length c0) ns p X1 (Y1 : Int) hd (bd : Int) ls))) _ := hP.imp (Ass.imp.dn3 _ _ _ _ _)
                have hQ := hP2.drop.drop.qsetD X2 (Y2 : Int)
                obtain ⟨ey, -, -⟩ := hP2.own
                obtain ⟨ex, -, -⟩ := hY.drop.own
                have eu := hY.drop.drop.qu.cell
                have gu := hY.drop.drop.qu.froz
                have ed := hP2.drop.drop.qd.cell
                have gd := hP2.drop.drop.qd.froz
                have HQ := Lib.hid hQ
                clear hY hP hP2 hQ
                go_wp2_with (go_at_call 10; (with_reducible refine (lnum _ _).mono ?_); rintro e wn ⟨rfl, rfl⟩)
                go_roundw
                case rel => exact ⟨i + 1, X1, X2, Y1, Y2, by go_num, by omega, (show Aside _ from ⟨HU.out, HD.out, HQ.out⟩)⟩
                case measure => simp [intOf]; omega
              · have hA1 : At w ((ownA V0.heap.size #[.int .i64 0, .int .i64 0] TWd).star ((ownA px #[.int .i64 X1, .int .i64 (Y1 : Int)] TWd).star (WQ (.slice (some ⟨g, 0, none⟩) ns.length c0) ns p hu (bu : Int) hd (bd : Int) ls))) (V0.alloc (.cells #[.int .i64 0, .int .i64 0] TWd)) := At.hold ((ownA_good _ _ _).star (WQ_good _ _ _ _ _ _ _ _)) hR _ _
                refine jop_one 13 wrb13 (some 15) (.pointer (some ⟨V0.heap.size, 0, none⟩)) (V0.alloc (.cells #[.int .i64 0, .int .i64 0] TWd)) ?_ rfl (by rfl) (by go_simp <;> with_reducible rfl) hA1.drop ?_
                · rfl
                simp only [Act.put, List.setIfInBounds_toArray, List.set_cons_zero, List.set_cons_succ]
                generalize V0.heap.size = py at *
                refine held_call 9 wrb9 (some 75) (.tuple #[.agg #[.int .i64 X2, .int .i64 (Y2 : Int)], .int .i64 0]) (fun Z9 => At w ((ownA py #[.int .i64 0, .int .i64 0] TWd).star ((ownA px #[.int .i64 X1, .int .i64 (Y1 : Int)] TWd).star (WQ (.slice (some ⟨g, 0, none⟩) ns.length c0) ns p hu (bu : Int) hd (bd : Int) ls))) Z9) 8 #[.agg #[.int .i64 hd, .int .i64 (bd : Int)], .int .i64 y] (by kernel_rfl) rfl rfl (by rfl) (by go_simp <;> with_reducible rfl) ((HA2.out _).mono fun e w' ⟨c1, c2⟩ => ⟨c1, At.lay ((ownA_good _ _ _).star ((ownA_good _ _ _).star (WQ_good _ _ _ _ _ _ _ _))) hA1 c2⟩) (fun _ e => e.drop) ?_
                intro V1 hV1
                simp only [Act.put, List.setIfInBounds_toArray, List.set_cons_zero, List.set_cons_succ]
                refine run_go [(10, wrb10, (some 65)), (11, wrb11, (some 76)), (12, wrb12, (some 77))] (by kernel_rfl) ?_
                iterate 3 (refine run_take ?_ rfl rfl (fun _ _ _ h => h) (Or.inl ⟨by rfl, ?_⟩) hV1.drop ?_; rotate_left; (· (intro w0 hy0; (go_simp <;> with_reducible rfl))); simp only [Act.put, List.setIfInBounds_toArray, List.set_cons_zero, List.set_cons_succ])
                refine run_end ?_
                have hA2 : At w ((ownA py #[.int .i64 X2, .int .i64 (Y2 : Int)] TWd).star ((ownA px #[.int .i64 X1, .int .i64 (Y1 : Int)] TWd).star (WQ (.slice (some ⟨g, 0, none⟩) ns.length c0) ns p hu (bu : Int) hd (bd : Int) ls))) ((V1.setCell ⟨py, 0, none⟩ (.int .i64 X2)).setCell ⟨py, 1, none⟩ (.int .i64 (Y2 : Int))) := (hV1.poke ((ownA_good _ _ _).star (WQ_good _ _ _ _ _ _ _ _)) 0 (.int .i64 X2)).poke ((ownA_good _ _ _).star (WQ_good _ _ _ _ _ _ _ _)) 1 (.int .i64 (Y2 : Int))
                obtain ⟨k1, k2, -⟩ := hV1.own
                refine held_void 14 wrb14 ((V1.setCell ⟨py, 0, none⟩ (.int .i64 X2)).setCell ⟨py, 1, none⟩ (.int .i64 (Y2 : Int))) (by kernel_rfl) rfl (by rfl) (by go_simp <;> with_reducible rfl) hA2.drop ?_
                simp only [Act.put, List.setIfInBounds_toArray, List.set_cons_zero, List.set_cons_succ]
                refine held_one 15 wrb15 (some 16) (.int .i64 0) _ (by kernel_rfl) rfl rfl (by rfl) (by go_simp <;> with_reducible rfl) hA2.drop ?_
                simp only [Act.put, List.setIfInBounds_toArray, List.set_cons_zero, List.set_cons_succ]
                refine wpAnyH_done (by kernel_rfl) ?_ _
                have hY := hA2
                clear hA1 hA2 hV1 hR k1 k2
                generalize ((V1.setCell ⟨py, 0, none⟩ (.int .i64 X2)).setCell ⟨py, 1, none⟩ (.int .i64 (Y2 : Int))) = Wg at *
                have hP := ((hY.imp (Ass.imp.up3 _ _ _ _ _)).poke ((ownA_good _ _ _).star ((ownA_good _ _ _).star ((rowA_good _ _ _).star ((ownA_good _ _ _).star ((ownA_good _ _ _).star emp_good))))) 0 (.int .i64 X1)).poke ((ownA_good _ _ _).star ((ownA_good _ _ _).star ((rowA_good _ _ _).star ((ownA_good _ _ _).star ((ownA_good _ _ _).star emp_good))))) 1 (.int .i64 (Y1 : Int))
                have hP2 : At w ((ownA py #[.int .i64 X2, .int .i64 (Y2 : Int)] TWd).star ((ownA px #[.int .i64 X1, .int .i64 (Y1 : Int)] TWd).star (WQ (.slice (some ⟨g, 0, none⟩) ns.length c0) ns p X1 (Y1 : Int) hd (bd : Int) ls))) _ := hP.imp (Ass.imp.dn3 _ _ _ _ _)
                have hQ := hP2.drop.drop.qsetD X2 (Y2 : Int)
                obtain ⟨ey, -, -⟩ := hP2.own
                obtain ⟨ex, -, -⟩ := hY.drop.own
                have eu := hY.drop.drop.qu.cell
                have gu := hY.drop.drop.qu.froz
                have ed := hP2.drop.drop.qd.cell
                have gd := hP2.drop.drop.qd.froz
                have HQ := Lib.hid hQ
                clear hY hP hP2 hQ
                go_wp2_with (go_at_call 10; (with_reducible refine (lnum _ _).mono ?_); rintro e wn ⟨rfl, rfl⟩)
                go_roundw
                case rel => exact ⟨i + 1, X1, X2, Y1, Y2, by go_num, by omega, (show Aside _ from ⟨HU.out, HD.out, HQ.out⟩)⟩
                case measure => simp [intOf]; omega
          · obtain rfl : i = ns.length := by omega
            have hinI : ¬ (ns.length : Int) < (ns.length : Int) := by omega
            rw [List.take_length] at hU
            rw [Nat.sub_self, List.drop_zero] at hD
            obtain ⟨rfl, rfl⟩ := hU.uniq hD
            have eu := hW.qu.cell
            have ed := hW.qd.cell
            have hB := hW.bel
            clear hW hU hD
            go_wp2
            go_ret
            exact ⟨by simp, hB⟩
end Go.Proofs.Yticncfaokapplaa
