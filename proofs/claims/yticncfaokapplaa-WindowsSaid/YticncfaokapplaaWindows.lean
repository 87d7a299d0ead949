/- Windows: every call over any window and any number answers as the document's, where the program's calls answer as the chapter says. No condition. -/
import Derived.Test.YticncfaokapplaaWdl
import Derived.Test.YticncfaokapplaaRun
namespace Go.Proofs.Yticncfaokapplaa
open Go Go.RowKit

abbrev wnd0 : Oper := { dst := some 21, op := Op.load 23 (Operand.tmp 5), type := 23, pos := "law.go:28", after := #[], guard := none }
abbrev wnd1 : Oper := { dst := some 22, op := Op.load 23 (Operand.tmp 7), type := 23, pos := "law.go:28", after := #[], guard := none }
abbrev wnd2 : Oper := { dst := some 23, op := Op.binOp BinOp.eql 23 (Operand.tmp 21) (Operand.tmp 22) 23, type := 4, pos := "law.go:28", after := #[{ on := 0, ground := Ground.data }, { on := 1, ground := Ground.data }], guard := none }
abbrev wnd3 : Oper := { dst := some 24, op := Op.move (Operand.tmp 23), type := 4, pos := "law.go:28", after := #[{ on := 2, ground := Ground.data }], guard := none }
abbrev wnd4 : Oper := { dst := some 25, op := Op.move (Operand.tmp 6), type := 24, pos := "law.go:28", after := #[{ on := 3, ground := Ground.guard }], guard := some (3, true) }
abbrev wnd5 : Oper := { dst := some 26, op := Op.call { callee := Callee.value (Operand.func 10), args := #[Operand.tmp 25], argTypes := #[24] }, type := 3, pos := "law.go:28", after := #[{ on := 4, ground := Ground.data }, { on := 3, ground := Ground.chain }, { on := 3, ground := Ground.guard }], guard := some (3, true) }
abbrev wnd6 : Oper := { dst := some 27, op := Op.move (Operand.tmp 8), type := 3, pos := "law.go:28", after := #[{ on := 3, ground := Ground.guard }], guard := some (3, true) }
abbrev wnd7 : Oper := { dst := some 28, op := Op.binOp BinOp.eql 3 (Operand.tmp 26) (Operand.tmp 27) 3, type := 4, pos := "law.go:28", after := #[{ on := 5, ground := Ground.data }, { on := 6, ground := Ground.data }, { on := 3, ground := Ground.guard }], guard := some (3, true) }
abbrev wnd8 : Oper := { dst := some 29, op := Op.pick (Operand.tmp 24) (Operand.tmp 28) (Operand.const (Value.bool false)), type := 4, pos := "law.go:28", after := #[{ on := 3, ground := Ground.data }, { on := 7, ground := Ground.data }], guard := none }
abbrev wnd9 : Oper := { dst := some 30, op := Op.move (Operand.tmp 29), type := 4, pos := "law.go:28", after := #[{ on := 8, ground := Ground.data }, { on := 5, ground := Ground.chain }], guard := none }
abbrev wnd10 : Oper := { dst := some 31, op := Op.load 23 (Operand.tmp 2), type := 23, pos := "law.go:28", after := #[{ on := 9, ground := Ground.guard }], guard := some (9, true) }
abbrev wnd11 : Oper := { dst := some 32, op := Op.call { callee := Callee.value (Operand.func 11), args := #[Operand.tmp 31], argTypes := #[23] }, type := 4, pos := "law.go:28", after := #[{ on := 10, ground := Ground.data }, { on := 9, ground := Ground.chain }, { on := 9, ground := Ground.guard }], guard := some (9, true) }
abbrev wnd12 : Oper := { dst := some 33, op := Op.load 23 (Operand.tmp 2), type := 23, pos := "law.go:28", after := #[{ on := 9, ground := Ground.guard }], guard := some (9, true) }
abbrev wnd13 : Oper := { dst := some 34, op := Op.call { callee := Callee.value (Operand.func 12), args := #[Operand.tmp 33], argTypes := #[23] }, type := 4, pos := "law.go:28", after := #[{ on := 12, ground := Ground.data }, { on := 11, ground := Ground.chain }, { on := 9, ground := Ground.guard }], guard := some (9, true) }
abbrev wnd14 : Oper := { dst := some 35, op := Op.binOp BinOp.eql 4 (Operand.tmp 32) (Operand.tmp 34) 4, type := 4, pos := "law.go:28", after := #[{ on := 11, ground := Ground.data }, { on := 13, ground := Ground.data }, { on := 9, ground := Ground.guard }], guard := some (9, true) }
abbrev wnd15 : Oper := { dst := some 36, op := Op.pick (Operand.tmp 30) (Operand.tmp 35) (Operand.const (Value.bool false)), type := 4, pos := "law.go:28", after := #[{ on := 9, ground := Ground.data }, { on := 14, ground := Ground.data }], guard := none }
abbrev wnd16 : Oper := { dst := some 37, op := Op.move (Operand.tmp 36), type := 4, pos := "law.go:28", after := #[{ on := 15, ground := Ground.data }, { on := 13, ground := Ground.chain }], guard := none }
abbrev wnd17 : Oper := { dst := some 38, op := Op.call { callee := Callee.value (Operand.func 13), args := #[], argTypes := #[] }, type := 4, pos := "law.go:28", after := #[{ on := 16, ground := Ground.chain }, { on := 16, ground := Ground.guard }], guard := some (16, true) }
abbrev wnd18 : Oper := { dst := some 39, op := Op.pick (Operand.tmp 37) (Operand.tmp 38) (Operand.const (Value.bool false)), type := 4, pos := "law.go:28", after := #[{ on := 16, ground := Ground.data }, { on := 17, ground := Ground.data }], guard := none }
abbrev wnd19 : Oper := { dst := some 4, op := Op.assign (Operand.tmp 39), type := 4, pos := "law.go:28", after := #[{ on := 18, ground := Ground.data }, { on := 17, ground := Ground.chain }, { on := 0, ground := Ground.phase }, { on := 1, ground := Ground.phase }, { on := 2, ground := Ground.phase }, { on := 3, ground := Ground.phase }, { on := 4, ground := Ground.phase }, { on := 5, ground := Ground.phase }, { on := 6, ground := Ground.phase }, { on := 7, ground := Ground.phase }, { on := 8, ground := Ground.phase }, { on := 9, ground := Ground.phase }, { on := 10, ground := Ground.phase }, { on := 11, ground := Ground.phase }, { on := 12, ground := Ground.phase }, { on := 13, ground := Ground.phase }, { on := 14, ground := Ground.phase }, { on := 15, ground := Ground.phase }, { on := 16, ground := Ground.phase }, { on := 17, ground := Ground.phase }, { on := 18, ground := Ground.phase }], guard := none }
/-- The law's own windows: the one that was handed in, the two that were answered. -/
def WdS (w : World) (h b : Int) (p q : Nat) (X Y : Int) (Z : World) : Prop := Blk Z w.heap.size #[.int .i64 h, .int .i64 b] ∧ Blk Z p #[.int .i64 X, .int .i64 Y] ∧ Blk Z q #[.int .i64 X, .int .i64 Y] ∧ Below w.heap.size w Z
theorem WdS.step {w : World} {h b : Int} {p q : Nat} {X Y : Int} {Z Z' : World} (hs : WdS w h b p q X Y Z) (hb : Below Z.heap.size Z Z') : WdS w h b p q X Y Z' :=
  ⟨hs.1.step hb, hs.2.1.step hb, hs.2.2.1.step hb, wpab hs.2.2.2 hb⟩
set_option maxRecDepth 100000 in
set_option maxHeartbeats 8000000 in
theorem windows_walk (P : WinsOk) (h b s : Int) (w : World) : Calls Try.prog 3 #[.agg #[.int .i64 h, .int .i64 b], .int .i64 s] w fun e w' => e = .returned (.bool true) ∧ Below w.heap.size w w' := by
  have HA := Lib.hid (fun w => P.add h b s w)
  have HR := Lib.hid (fun w => raddseq h b s w)
  have HM := Lib.hid (fun w => P.may h b w)
  have HN := Lib.hid (fun w => rwmay h b w)
  generalize wdH h b s = X at *
  generalize wdB h b s = Y at *
  generalize wdE h b s = E at *
  generalize wdMay h b = M at *
  go_enter Try.func3, Try.ntmps3
  go_wp2_with (first
    | (go_at_call 8; (with_reducible refine (HA.out _).mono ?_); rintro r w1 ⟨rfl, hb⟩; have hB := wpab (wbox w h b) hb; have kw := ((Blk.new w #[.int .i64 h, .int .i64 b] TWd).step hb).alloc (.cells #[.int .i64 X, .int .i64 Y] TWd); have ka := Blk.new w1 #[.int .i64 X, .int .i64 Y] TWd; have ew := kw.cell; clear hb)
    | (go_at_call 9; (with_reducible refine (HR.out _).mono ?_); rintro r w2 ⟨rfl, hb⟩; have hS : WdS w h b w1.heap.size w2.heap.size X Y (w2.alloc (.cells #[.int .i64 X, .int .i64 Y] TWd)) := ⟨(kw.step hb).alloc _, (ka.step hb).alloc _, Blk.new w2 _ _, (wpab (hB.alloc hB.size _) hb).alloc (wpab (hB.alloc hB.size _) hb).size _⟩; clear hb kw ka hB ew))
  generalize w1.heap.size = p at *
  have HS := Lib.hid hS
  clear hS
  refine region_held (S := WdS w h b p w2.heap.size X Y) 20 [false, false, false, false, false, false, false, false, false, false, false, false, false, false, false, false, false, false, false, false] rfl rfl (by kernel_rfl) fun V0 hW => ?_
  have hV : WdS w h b p w2.heap.size X Y V0 := by rw [hW]; exact HS.out.step ⟨rfl, rfl, rfl, Nat.le_refl _, fun _ _ => rfl⟩
  generalize w2.heap.size = q at *
  clear hW HS
  refine run_go [(0, wnd0, (some 21)), (1, wnd1, (some 22)), (2, wnd2, (some 23)), (3, wnd3, (some 24)), (4, wnd4, (some 25)), (6, wnd6, (some 27))] (by kernel_rfl) ?_
  iterate 6 (refine run_take ?_ rfl rfl (fun _ _ _ h => h) (Or.inl ⟨by rfl, ?_⟩) hV ?_; rotate_left; (· (intro w0 hy0; obtain ⟨z1, z2, z3, -⟩ := hy0; have y1 := z1.cell; have y2 := z2.cell; have y3 := z3.cell; clear z1 z2 z3; (go_simp <;> with_reducible rfl))); simp only [Act.put, List.setIfInBounds_toArray, List.set_cons_zero, List.set_cons_succ])
  refine run_end ?_
  refine held_call 5 wnd5 (some 26) (.int .i64 E) (WdS w h b p q X Y) 10 #[.int .i64 E] (by kernel_rfl) rfl rfl (by rfl) (by go_simp <;> with_reducible rfl) ((lnum _ _).mono fun e w' ⟨a, c⟩ => ⟨a, c ▸ hV⟩) (fun _ e => e) ?_
  intro V1 hV1
  simp only [Act.put, List.setIfInBounds_toArray, List.set_cons_zero, List.set_cons_succ]
  refine run_go [(7, wnd7, (some 28)), (8, wnd8, (some 29)), (9, wnd9, (some 30)), (10, wnd10, (some 31)), (12, wnd12, (some 33))] (by kernel_rfl) ?_
  iterate 5 (refine run_take ?_ rfl rfl (fun _ _ _ h => h) (Or.inl ⟨by rfl, ?_⟩) hV1 ?_; rotate_left; (· (intro w0 hy0; obtain ⟨z1, z2, z3, -⟩ := hy0; have y1 := z1.cell; have y2 := z2.cell; have y3 := z3.cell; clear z1 z2 z3; (go_simp <;> with_reducible rfl))); simp only [Act.put, List.setIfInBounds_toArray, List.set_cons_zero, List.set_cons_succ])
  refine run_end ?_
  refine held_call 11 wnd11 (some 32) (.bool M) (WdS w h b p q X Y) 11 #[.agg #[.int .i64 h, .int .i64 b]] (by kernel_rfl) rfl rfl (by rfl) (by go_simp <;> with_reducible rfl) ((HM.out _).mono fun e w' ⟨a, c⟩ => ⟨a, hV1.step c⟩) (fun _ e => e) ?_
  intro V2 hV2
  simp only [Act.put, List.setIfInBounds_toArray, List.set_cons_zero, List.set_cons_succ]
  refine held_call 13 wnd13 (some 34) (.bool M) (WdS w h b p q X Y) 12 #[.agg #[.int .i64 h, .int .i64 b]] (by kernel_rfl) rfl rfl (by rfl) (by go_simp <;> with_reducible rfl) ((HN.out _).mono fun e w' ⟨a, c⟩ => ⟨a, hV2.step c⟩) (fun _ e => e) ?_
  intro V3 hV3
  simp only [Act.put, List.setIfInBounds_toArray, List.set_cons_zero, List.set_cons_succ]
  refine run_go [(14, wnd14, (some 35)), (15, wnd15, (some 36)), (16, wnd16, (some 37))] (by kernel_rfl) ?_
  iterate 3 (refine run_take ?_ rfl rfl (fun _ _ _ h => h) (Or.inl ⟨by rfl, ?_⟩) hV3 ?_; rotate_left; (· (intro w0 hy0; obtain ⟨z1, z2, z3, -⟩ := hy0; have y1 := z1.cell; have y2 := z2.cell; have y3 := z3.cell; clear z1 z2 z3; (go_simp <;> with_reducible rfl))); simp only [Act.put, List.setIfInBounds_toArray, List.set_cons_zero, List.set_cons_succ])
  refine run_end ?_
  refine held_call 17 wnd17 (some 38) (.bool true) (WdS w h b p q X Y) 13 #[] (by kernel_rfl) rfl rfl (by rfl) (by go_simp <;> with_reducible rfl) ((awake17 P _).mono fun e w' ⟨a, c⟩ => ⟨a, hV3.step c⟩) (fun _ e => e) ?_
  intro V4 hV4
  simp only [Act.put, List.setIfInBounds_toArray, List.set_cons_zero, List.set_cons_succ]
  refine run_go [(18, wnd18, (some 39)), (19, wnd19, (some 4))] (by kernel_rfl) ?_
  iterate 2 (refine run_take ?_ rfl rfl (fun _ _ _ h => h) (Or.inl ⟨by rfl, ?_⟩) hV4 ?_; rotate_left; (· (intro w0 hy0; obtain ⟨z1, z2, z3, -⟩ := hy0; have y1 := z1.cell; have y2 := z2.cell; have y3 := z3.cell; clear z1 z2 z3; (go_simp <;> with_reducible rfl))); simp only [Act.put, List.setIfInBounds_toArray, List.set_cons_zero, List.set_cons_succ])
  refine run_end ?_
  refine wpAnyH_done (by kernel_rfl) ?_ _
  go_wp2
  go_ret
  exact ⟨rfl, hV4.2.2.2⟩
end Go.Proofs.Yticncfaokapplaa
