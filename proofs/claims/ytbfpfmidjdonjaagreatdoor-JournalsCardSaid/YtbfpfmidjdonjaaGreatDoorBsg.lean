/- Put together: Sug0, Suge, Sugr, SugE, SugF, SugG, Suget. Conditions: each theorem's own. -/
import Derived.Test.YtbfpfmidjdonjaaGreatDoorSuref
import Derived.Test.YtbfpfmidjdonjaaGreatDoorBme
import Derived.Test.YtbfpfmidjdonjaaGreatDoorBrg
import Derived.Great.BuildSlice
import Derived.Deep.QuietTactic
import Derived.BigQuiet
namespace Go.Proofs.YtbfpfmidjdonjaaGreatDoor
open Go Go.RowKit
abbrev sgA (q : Nat) (c1 : Array Value) (p : Nat) (most : Int) (ts : List ByteArray) : Ass := (ownA q c1 127).star (refA p most ts)
theorem sgA_good (q : Nat) (c1 : Array Value) (p : Nat) (most : Int) (ts : List ByteArray) : (sgA q c1 p most ts).Good := (ownA_good _ _ _).star (refA_good _ _ _)
abbrev sdO (s : ByteArray) (a : Int) (b : Bool) : Obj := .cells #[.string s, .int .i64 a, .bool b] 127
abbrev SdN (s : ByteArray) (a : Int) (b : Bool) (v a' : Int) (b' : Bool) : Prop := ∀ (X : World) (q : Nat), X.heap.size = q → Calls Tryz.prog 59 #[.pointer (some ⟨q, 0, none⟩)] (X.alloc (sdO s a b)) fun e w' => e = .returned (.int .i64 v) ∧ ∃ n, w' = (X.drewN n).alloc (sdO s a' b')
theorem sg_start {p : Nat} {most : Int} {ts : List ByteArray} {w : World} {F : List Nat} (h : refA p most ts w F) (n : Nat) (c1 : Array Value) : Becomes F (sgA w.heap.size c1 p most ts) w ((w.drewN n).alloc (.cells c1 127)) := by
  have h1 := ((Becomes.refl h).lay (w2 := w.drewN n) (refA_good _ _ _) ⟨rfl, rfl, rfl, Nat.le_refl _, fun _ _ => rfl⟩).hold (refA_good _ _ _) c1 127
  exact h1
theorem Ass.imp.comm2 (A B : Ass) : (A.star B).imp (B.star A) := by
  rintro w F ⟨F1, F2, rfl, a, b, d⟩
  exact ⟨F2 ++ F1, ⟨F2, F1, rfl, b, a, fun k hk hk' => d k hk' hk⟩, fun k => by simp; exact Or.comm⟩
abbrev sgS (q : Nat) (a : Int) : World → Prop := fun v => v.cell? ⟨q, 1, none⟩ = some (.int .i64 a) ∧ v.cell? ⟨q, 2, none⟩ = some (.bool false)
theorem sgA_S {F : List Nat} {q : Nat} {w : World} {p : Nat} {most : Int} {ts : List ByteArray} {s : ByteArray} {a : Int} {v : World} (h : Becomes F (sgA q #[.string s, .int .i64 a, .bool false] p most ts) w v) : sgS q a v :=
  ⟨(h.own.1 1).trans rfl, (h.own.1 2).trans rfl⟩
theorem sgA_op {p q : Nat} {most : Int} {ts : List ByteArray} {w W : World} {F : List Nat} {c1 : Array Value} {f : FuncId} {args : Array Value} {v : Ending} (hd : Does Tryz.prog (refA p most ts) f args v (refA p most ts)) (h : Becomes F (sgA q c1 p most ts) w W) :
    Calls Tryz.prog f args W fun e w' => e = v ∧ Becomes F (sgA q c1 p most ts) w w' :=
  Becomes.opN hd (Ass.imp.comm2 _ _) (Ass.imp.comm2 _ _) (ownA_good _ _ _) h
theorem infI1 : (Tryz.prog.info? 3).map (fun i => (i.zero, i.size, i.bytes)) = some (some (.int .i64 0), 1, 8) := by kernel_rfl
theorem exec_b1 {a : Act} {w : World} {op : Oper} (y : Operand) (ho : op.op = .buildSlice 57 1 #[(0, y)]) {x : Int} (hy : a.eval y = .int .i64 x) :
    (execOp a.eval op).run Tryz.prog w = .ok (.value (.slice (some ⟨w.heap.size, 0, none⟩) 1 1)) (w.alloc (.cells #[.int .i64 x] 3)) := by
  obtain ⟨ie, hie, hz, hs, _⟩ := info_parts infI1
  have hrun := run_buildSlice (P := Tryz.prog) w 57 3 1 #[(0, .int .i64 x)] #[.int .i64 x] ie (.int .i64 0) Tryz.underlying57 hie hz (by rw [hs]; decide) (by rw [hs]; decide) (by rw [hs]; kernel_rfl)
  unfold execOp
  simp only [ho, List.map_toArray, List.map_cons, List.map_nil, hy, Sem.run_bind, hrun, Result.andThen_ok, Sem.run_pure]
theorem exec_make {P : Program} {a : Act} {w w' : World} {op : Oper} (t : TypeId) (x y : Operand) (ho : op.op = .makeSlice t x y) {u v r : Value} (hx : a.eval x = u) (hy : a.eval y = v) (hr : (Instr.makeSlice t u v).run P w = .ok r w') : (execOp a.eval op).run P w = .ok (.value r) w' := by
  unfold execOp
  simp only [ho, hx, hy, Sem.run_bind, hr, Result.andThen_ok, Sem.run_pure]
theorem exec_conv {P : Program} {a : Act} {w w' : World} {op : Oper} (t t2 : TypeId) (x : Operand) (ho : op.op = .convert t t2 x) {u r : Value} (hx : a.eval x = u) (hr : (convert t t2 u).run P w = .ok r w') : (execOp a.eval op).run P w = .ok (.value r) w' := by
  unfold execOp
  simp only [ho, hx, Sem.run_bind, hr, Result.andThen_ok, Sem.run_pure]
theorem exec_ishash {a : Act} {w : World} {op : Oper} (x y z : Operand) (ho : op.op = .call { callee := .value (.func 62), args := #[x, y, z], argTypes := #[24, 9, 3] }) {u v r : Value} (hx : a.eval x = u) (hy : a.eval y = v) (hz : a.eval z = r) : (execOp a.eval op).run Tryz.prog w = .ok (.enter 62 #[u, v, r]) w := by
  unfold execOp
  simp only [ho, resolve, Sem.run_bind, List.map_toArray, List.map_cons, List.map_nil, hx, hy, hz]
  go_simp
theorem exec_nums {a : Act} {w : World} {op : Oper} (x : Operand) (ho : op.op = .call { callee := .value (.func 82), args := #[x], argTypes := #[57] }) {u : Value} (hx : a.eval x = u) : (execOp a.eval op).run Tryz.prog w = .ok (.enter 82 #[u]) w := by
  unfold execOp
  simp only [ho, resolve, Sem.run_bind, List.map_toArray, List.map_cons, List.map_nil, hx]
  go_simp
open Go Go.RowKit
set_option maxRecDepth 100000 in
set_option maxHeartbeats 8000000 in
theorem drsget_size (p : Nat) (most : Int) (ts : List ByteArray) (s : ByteArray) {w : World} {F : List Nat} (HS : Hid (∀ (n : Nat) (c1 : Array Value), Becomes F (sgA w.heap.size c1 p most ts) w ((w.drewN n).alloc (.cells c1 127))))
    {v1 v2 a1 a2 : Int} {b1 b2 : Bool} (H1 : Hid (SdN s 0 false v1 a1 b1)) (H2 : Hid (SdN s a1 b1 v2 a2 b2)) (c1 : s.size ≠ 64) :
    Calls Tryz.prog 80 #[.pointer (some ⟨p, 0, none⟩), .string s] w fun e w' => e = .returned (.tuple #[.int .i64 0, .int .i64 1000]) ∧ Becomes F (refA p most ts) w w' := by
  have c1' : ((s.size : Int) != 64) = true := by simp; omega
  go_enter Tryz.func80, Tryz.ntmps80
  go_wp2_with (go_at_call 59; first
    | ((with_reducible refine (H1.out _ _ (by simp)).mono ?_); rintro e w1 ⟨rfl, m1, rfl⟩)
    | ((with_reducible refine (H2.out _ _ (by simp)).mono ?_); rintro e w1 ⟨rfl, m2, rfl⟩))
  go_quiet (fail)
  all_goals
    go_wp2
    go_ret2
    exact ⟨rfl, ((HS.out _ _).lay (sgA_good _ _ _ _ _) (below_drewN _ _)).drop⟩
set_option maxRecDepth 100000 in
set_option maxHeartbeats 8000000 in
theorem drsget_bad (p : Nat) (most : Int) (ts : List ByteArray) (s : ByteArray) {w : World} {F : List Nat} (HS : Hid (∀ (n : Nat) (c1 : Array Value), Becomes F (sgA w.heap.size c1 p most ts) w ((w.drewN n).alloc (.cells c1 127))))
    {v1 v2 a1 a2 : Int} {b1 : Bool} (H1 : Hid (SdN s 0 false v1 a1 b1)) (H2 : Hid (SdN s a1 b1 v2 a2 true)) (c1 : s.size = 64) :
    Calls Tryz.prog 80 #[.pointer (some ⟨p, 0, none⟩), .string s] w fun e w' => e = .returned (.tuple #[.int .i64 0, .int .i64 1000]) ∧ Becomes F (refA p most ts) w w' := by
  have c1' : ((s.size : Int) != 64) = false := by simp; omega
  go_enter Tryz.func80, Tryz.ntmps80
  go_wp2_with (go_at_call 59; first
    | ((with_reducible refine (H1.out _ _ (by simp)).mono ?_); rintro e w1 ⟨rfl, m1, rfl⟩)
    | ((with_reducible refine (H2.out _ _ (by simp)).mono ?_); rintro e w1 ⟨rfl, m2, rfl⟩))
  have hS := HS.out (m1 + m2) #[.string s, .int .i64 a2, .bool true]
  obtain ⟨e1, f1, l1⟩ := hS.own
  go_quiet (fail)
  all_goals
    go_wp2
    go_ret2
    exact ⟨rfl, ((HS.out _ _).lay (sgA_good _ _ _ _ _) (below_drewN _ _)).drop⟩
set_option maxRecDepth 100000 in
set_option maxHeartbeats 8000000 in
theorem drsget_low (p : Nat) (most : Int) (ts : List ByteArray) (s : ByteArray) {w : World} {F : List Nat} (HS : Hid (∀ (n : Nat) (c1 : Array Value), Becomes F (sgA w.heap.size c1 p most ts) w ((w.drewN n).alloc (.cells c1 127))))
    {v1 v2 a1 a2 : Int} {b1 : Bool} (H1 : Hid (SdN s 0 false v1 a1 b1)) (H2 : Hid (SdN s a1 b1 v2 a2 false)) (c1 : s.size = 64) (d1 : v1 < 1) :
    Calls Tryz.prog 80 #[.pointer (some ⟨p, 0, none⟩), .string s] w fun e w' => e = .returned (.tuple #[.int .i64 0, .int .i64 1000]) ∧ Becomes F (refA p most ts) w w' := by
  have c1' : ((s.size : Int) != 64) = false := by simp; omega
  have d1' : decide (v1 < 1) = true := by simpa using d1
  go_enter Tryz.func80, Tryz.ntmps80
  go_wp2_with (go_at_call 59; first
    | ((with_reducible refine (H1.out _ _ (by simp)).mono ?_); rintro e w1 ⟨rfl, m1, rfl⟩)
    | ((with_reducible refine (H2.out _ _ (by simp)).mono ?_); rintro e w1 ⟨rfl, m2, rfl⟩))
  have hS := HS.out (m1 + m2) #[.string s, .int .i64 a2, .bool false]
  obtain ⟨e1, f1, l1⟩ := hS.own
  go_quiet (fail)
  all_goals
    go_wp2
    go_ret2
    exact ⟨rfl, ((HS.out _ _).lay (sgA_good _ _ _ _ _) (below_drewN _ _)).drop⟩
set_option maxRecDepth 100000 in
set_option maxHeartbeats 8000000 in
theorem drsget_high (p : Nat) (most : Int) (ts : List ByteArray) (s : ByteArray) {w : World} {F : List Nat} (HS : Hid (∀ (n : Nat) (c1 : Array Value), Becomes F (sgA w.heap.size c1 p most ts) w ((w.drewN n).alloc (.cells c1 127))))
    {v1 v2 a1 a2 : Int} {b1 : Bool} (H1 : Hid (SdN s 0 false v1 a1 b1)) (H2 : Hid (SdN s a1 b1 v2 a2 false)) (c1 : s.size = 64) (d1 : 1023 < v1) :
    Calls Tryz.prog 80 #[.pointer (some ⟨p, 0, none⟩), .string s] w fun e w' => e = .returned (.tuple #[.int .i64 0, .int .i64 1000]) ∧ Becomes F (refA p most ts) w w' := by
  have c1' : ((s.size : Int) != 64) = false := by simp; omega
  have d1' : decide (v1 < 1) = false := by simp; omega
  have d2' : decide (1023 < v1) = true := by simpa using d1
  go_enter Tryz.func80, Tryz.ntmps80
  go_wp2_with (go_at_call 59; first
    | ((with_reducible refine (H1.out _ _ (by simp)).mono ?_); rintro e w1 ⟨rfl, m1, rfl⟩)
    | ((with_reducible refine (H2.out _ _ (by simp)).mono ?_); rintro e w1 ⟨rfl, m2, rfl⟩))
  have hS := HS.out (m1 + m2) #[.string s, .int .i64 a2, .bool false]
  obtain ⟨e1, f1, l1⟩ := hS.own
  go_quiet (fail)
  all_goals
    go_wp2
    go_ret2
    exact ⟨rfl, ((HS.out _ _).lay (sgA_good _ _ _ _ _) (below_drewN _ _)).drop⟩
open Go
abbrev gs0 : Oper := ⟨some 16, .move (.tmp 1), 9, "log.go:282", #[], none⟩
abbrev gs1 : Oper := ⟨some 17, .call { callee := .builtin .len, args := #[.tmp 16], argTypes := #[9] }, 3, "log.go:282", #[⟨0, .data⟩], none⟩
abbrev gs2 : Oper := ⟨some 18, .binOp .neq 3 (.tmp 17) (.const (.int .i64 64)) 3, 4, "log.go:282", #[⟨1, .data⟩], none⟩
abbrev gs3 : Oper := ⟨some 19, .move (.tmp 18), 4, "log.go:282", #[⟨2, .data⟩], none⟩
abbrev gs4 : Oper := ⟨some 20, .move (.tmp 6), 125, "log.go:282", #[⟨3, .guard⟩], some (3, false)⟩
abbrev gs5 : Oper := ⟨some 21, .nilCheck (.tmp 20), 0, "log.go:282", #[⟨4, .data⟩, ⟨3, .guard⟩], some (3, false)⟩
abbrev gs6 : Oper := ⟨some 22, .fieldAddr 127 (.tmp 21) 2, 0, "log.go:282", #[⟨5, .data⟩, ⟨3, .guard⟩], some (3, false)⟩
abbrev gs7 : Oper := ⟨some 23, .load 4 (.tmp 22), 4, "log.go:282", #[⟨6, .data⟩, ⟨3, .guard⟩], some (3, false)⟩
abbrev gs8 : Oper := ⟨some 24, .pick (.tmp 19) (.const (.bool true)) (.tmp 23), 4, "log.go:282", #[⟨3, .data⟩, ⟨7, .data⟩], none⟩
abbrev gs9 : Oper := ⟨some 25, .move (.tmp 24), 4, "log.go:282", #[⟨8, .data⟩, ⟨3, .chain⟩], none⟩
abbrev gs10 : Oper := ⟨some 26, .move (.tmp 7), 3, "log.go:282", #[⟨9, .guard⟩], some (9, false)⟩
abbrev gs11 : Oper := ⟨some 27, .binOp .lss 3 (.tmp 26) (.const (.int .i64 1)) 3, 4, "log.go:282", #[⟨10, .data⟩, ⟨9, .guard⟩], some (9, false)⟩
abbrev gs12 : Oper := ⟨some 28, .pick (.tmp 25) (.const (.bool true)) (.tmp 27), 4, "log.go:282", #[⟨9, .data⟩, ⟨11, .data⟩], none⟩
abbrev gs13 : Oper := ⟨some 29, .move (.tmp 28), 4, "log.go:282", #[⟨12, .data⟩, ⟨9, .chain⟩], none⟩
abbrev gs14 : Oper := ⟨some 30, .move (.tmp 7), 3, "log.go:282", #[⟨13, .guard⟩], some (13, false)⟩
abbrev gs15 : Oper := ⟨some 31, .binOp .gtr 3 (.tmp 30) (.const (.int .i64 1023)) 3, 4, "log.go:282", #[⟨14, .data⟩, ⟨13, .guard⟩], some (13, false)⟩
abbrev gs16 : Oper := ⟨some 32, .pick (.tmp 29) (.const (.bool true)) (.tmp 31), 4, "log.go:282", #[⟨13, .data⟩, ⟨15, .data⟩], none⟩
abbrev gs17 : Oper := ⟨some 33, .move (.tmp 32), 4, "log.go:282", #[⟨16, .data⟩, ⟨13, .chain⟩], none⟩
abbrev gs18 : Oper := ⟨some 34, .move (.tmp 1), 9, "log.go:282", #[⟨17, .guard⟩], some (17, false)⟩
abbrev gs19 : Oper := ⟨some 35, .move (.tmp 6), 125, "log.go:282", #[⟨17, .guard⟩], some (17, false)⟩
abbrev gs20 : Oper := ⟨some 36, .nilCheck (.tmp 35), 0, "log.go:282", #[⟨19, .data⟩, ⟨17, .guard⟩], some (17, false)⟩
abbrev gs21 : Oper := ⟨some 37, .fieldAddr 127 (.tmp 36) 1, 0, "log.go:282", #[⟨20, .data⟩, ⟨17, .guard⟩], some (17, false)⟩
abbrev gs22 : Oper := ⟨some 38, .load 3 (.tmp 37), 3, "log.go:282", #[⟨21, .data⟩, ⟨17, .guard⟩], some (17, false)⟩
abbrev gs23 : Oper := ⟨some 39, .slice 9 (.tmp 34) (some (.tmp 38)) none none, 9, "log.go:282", #[⟨18, .data⟩, ⟨22, .data⟩, ⟨17, .guard⟩], some (17, false)⟩
abbrev gs24 : Oper := ⟨some 40, .move (.tmp 6), 125, "log.go:282", #[⟨17, .guard⟩], some (17, false)⟩
abbrev gs25 : Oper := ⟨some 41, .nilCheck (.tmp 40), 0, "log.go:282", #[⟨24, .data⟩, ⟨17, .guard⟩], some (17, false)⟩
abbrev gs26 : Oper := ⟨some 42, .fieldAddr 127 (.tmp 41) 1, 0, "log.go:282", #[⟨25, .data⟩, ⟨17, .guard⟩], some (17, false)⟩
abbrev gs27 : Oper := ⟨some 43, .load 3 (.tmp 42), 3, "log.go:282", #[⟨26, .data⟩, ⟨17, .guard⟩], some (17, false)⟩
abbrev gs28 : Oper := ⟨some 44, .binOp .sub 3 (.const (.int .i64 64)) (.tmp 43) 3, 3, "log.go:282", #[⟨27, .data⟩, ⟨17, .guard⟩], some (17, false)⟩
abbrev gs29 : Oper := ⟨some 45, .makeSlice 77 (.tmp 44) (.tmp 44), 77, "log.go:282", #[⟨28, .data⟩, ⟨28, .data⟩, ⟨17, .guard⟩], some (17, false)⟩
abbrev gs30 : Oper := ⟨some 46, .convert 77 9 (.tmp 45), 9, "log.go:282", #[⟨29, .data⟩, ⟨17, .guard⟩], some (17, false)⟩
abbrev gs31 : Oper := ⟨some 47, .binOp .neq 9 (.tmp 39) (.tmp 46) 9, 4, "log.go:282", #[⟨23, .data⟩, ⟨30, .data⟩, ⟨17, .guard⟩], some (17, false)⟩
abbrev gs32 : Oper := ⟨some 48, .pick (.tmp 33) (.const (.bool true)) (.tmp 47), 4, "log.go:282", #[⟨17, .data⟩, ⟨31, .data⟩], none⟩
abbrev gs33 : Oper := ⟨some 49, .move (.tmp 48), 4, "log.go:282", #[⟨32, .data⟩, ⟨17, .chain⟩], none⟩
abbrev gs34 : Oper := ⟨some 50, .move (.tmp 0), 24, "log.go:282", #[⟨33, .guard⟩], some (33, false)⟩
abbrev gs35 : Oper := ⟨some 51, .move (.tmp 7), 3, "log.go:282", #[⟨33, .guard⟩], some (33, false)⟩
abbrev gs36 : Oper := ⟨some 52, .buildSlice 57 1 #[(0, .tmp 51)], 57, "log.go:282", #[⟨35, .data⟩, ⟨33, .guard⟩], some (33, false)⟩
abbrev gs37 : Oper := ⟨some 53, .call { callee := .value (.func 82), args := #[.tmp 52], argTypes := #[57] }, 9, "log.go:282", #[⟨36, .data⟩, ⟨33, .chain⟩, ⟨33, .guard⟩], some (33, false)⟩
abbrev gs38 : Oper := ⟨some 54, .binOp .add 9 (.const (.string { data := #[115, 117, 112, 101, 114] })) (.tmp 53) 9, 9, "log.go:282", #[⟨37, .data⟩, ⟨33, .guard⟩], some (33, false)⟩
abbrev gs39 : Oper := ⟨some 55, .move (.tmp 8), 3, "log.go:282", #[⟨33, .guard⟩], some (33, false)⟩
abbrev gs40 : Oper := ⟨some 56, .call { callee := .value (.func 62), args := #[.tmp 50, .tmp 54, .tmp 55], argTypes := #[24, 9, 3] }, 4, "log.go:282", #[⟨34, .data⟩, ⟨38, .data⟩, ⟨39, .data⟩, ⟨37, .chain⟩, ⟨33, .guard⟩], some (33, false)⟩
abbrev gs41 : Oper := ⟨some 57, .unOp .not 4 (.tmp 56), 4, "log.go:282", #[⟨40, .data⟩, ⟨33, .guard⟩], some (33, false)⟩
abbrev gs42 : Oper := ⟨some 58, .pick (.tmp 49) (.const (.bool true)) (.tmp 57), 4, "log.go:282", #[⟨33, .data⟩, ⟨41, .data⟩], none⟩
open Go Go.RowKit
set_option maxRecDepth 100000 in
set_option maxHeartbeats 8000000 in
theorem drsget_E (p : Nat) (most : Int) (ts : List ByteArray) (s : ByteArray) {w : World} {F : List Nat} (HS : Hid (∀ (n : Nat) (c1 : Array Value), Becomes F (sgA w.heap.size c1 p most ts) w ((w.drewN n).alloc (.cells c1 127))))
    {v1 v2 a1 : Int} {n5 k : Nat} {b1 : Bool} (H1 : Hid (SdN s 0 false v1 a1 b1)) (H2 : Hid (SdN s a1 b1 v2 (n5 : Int) false)) (c1 : s.size = 64) (d1 : ¬ v1 < 1) (d2 : ¬ 1023 < v1) (hn5 : n5 ≤ 64) (hk : 64 - n5 = k) (hz : ((s.extract n5 64).toList == (zerN k).toList) = false) :
    Calls Tryz.prog 80 #[.pointer (some ⟨p, 0, none⟩), .string s] w fun e w' => e = .returned (.tuple #[.int .i64 0, .int .i64 1000]) ∧ Becomes F (refA p most ts) w w' := by
  have c1' : ((s.size : Int) != 64) = false := by simp; omega
  have d1' : decide (v1 < 1) = false := by simp; omega
  have d2' : decide (1023 < v1) = false := by simp; omega
  have hn5i : (n5 : Int) ≤ 64 := by omega
  have hki : (64 : Int) - (n5 : Int) = (k : Int) := by omega
  have hwk : IntKind.i64.wrap (k : Int) = k := by rw [IntKind.wrap_i64]; omega
  have hk64 : k ≤ 64 := by omega
  go_enter Tryz.func80, Tryz.ntmps80
  go_wp2_with (go_at_call 59; first
    | ((with_reducible refine (H1.out _ _ (by simp)).mono ?_); rintro e w1 ⟨rfl, m1, rfl⟩)
    | ((with_reducible refine (H2.out _ _ (by simp)).mono ?_); rintro e w1 ⟨rfl, m2, rfl⟩))
  have hB : Becomes F (sgA w.heap.size #[.string s, .int .i64 (n5 : Int), .bool false] p most ts) w ((w.drewN (m1 + m2)).alloc (.cells #[.string s, .int .i64 (n5 : Int), .bool false] 127)) := HS.out _ _
  have hws : ((w.drewN (m1 + m2)).alloc (.cells #[.string s, .int .i64 (n5 : Int), .bool false] 127)).heap.size = w.heap.size + 1 := by simp [World.drewN]
  clear H1 H2 HS
  refine region_held (S := sgS w.heap.size (n5 : Int)) 43 [false, false, false, false, false, false, false, false, false, false, false, false, false, false, false, false, false, false, false, false, false, false, false, false, false, false, false, false, false, false, false, false, false, false, false, false, false, false, false, false, false, false, false] rfl rfl (by kernel_rfl) fun W hW => ?_
  have hBW : Becomes F (sgA w.heap.size #[.string s, .int .i64 (n5 : Int), .bool false] p most ts) w W := by subst hW; exact hB.lay (sgA_good _ _ _ _ _) ⟨rfl, rfl, rfl, Nat.le_refl _, fun _ _ => rfl⟩
  have hWs : W.heap.size = w.heap.size + 1 := by subst hW; exact hws
  clear hB hW hws
  have hSW := sgA_S hBW
  refine run_go [(0, gs0, (some 16)), (1, gs1, (some 17)), (2, gs2, (some 18)), (3, gs3, (some 19)), (4, gs4, (some 20)), (5, gs5, (some 21)), (6, gs6, (some 22)), (7, gs7, (some 23)), (8, gs8, (some 24)), (9, gs9, (some 25)), (10, gs10, (some 26)), (11, gs11, (some 27)), (12, gs12, (some 28)), (13, gs13, (some 29)), (14, gs14, (some 30)), (15, gs15, (some 31)), (16, gs16, (some 32)), (17, gs17, (some 33)), (18, gs18, (some 34)), (19, gs19, (some 35)), (20, gs20, (some 36)), (21, gs21, (some 37)), (22, gs22, (some 38)), (23, gs23, (some 39)), (24, gs24, (some 40)), (25, gs25, (some 41)), (26, gs26, (some 42)), (27, gs27, (some 43)), (28, gs28, (some 44))] (by kernel_rfl) ?_
  iterate 29 (refine run_take ?_ rfl rfl (fun _ _ _ h => h) (Or.inl ⟨by rfl, ?_⟩) hSW ?_; rotate_left; (· (intro w0 hy0; obtain ⟨y1, y2⟩ := hy0; (go_simp <;> with_reducible rfl))); simp only [Act.put, List.setIfInBounds_toArray, List.set_cons_zero, List.set_cons_succ])
  refine run_end ?_
  have hB3 := hBW.lay (sgA_good _ _ _ _ _) ((Below.refl _ _).alloc (Nat.le_refl _) (zkObj k))
  have hS3 := sgA_S hB3
  refine held_one 29 gs29 (some 45) (.slice (some ⟨W.heap.size, 0, none⟩) k k) (W.alloc (zkObj k)) (by kernel_rfl) rfl rfl (by rfl) (exec_make 77 (.tmp 44) (.tmp 44) rfl rfl rfl (zk_made k (by omega) W)) hS3 ?_
  simp only [Act.put, List.setIfInBounds_toArray, List.set_cons_zero, List.set_cons_succ]
  refine held_one 30 gs30 (some 46) (.string (zerN k)) (W.alloc (zkObj k)) (by kernel_rfl) rfl rfl (by rfl) (exec_conv 77 9 (.tmp 45) rfl rfl (zk_conv k (by omega) W)) hS3 ?_
  simp only [Act.put, List.setIfInBounds_toArray, List.set_cons_zero, List.set_cons_succ]
  generalize hX : W.alloc (zkObj k) = X at *
  clear hX hSW hBW hWs
  refine run_go [(31, gs31, (some 47)), (32, gs32, (some 48)), (33, gs33, (some 49))] (by kernel_rfl) ?_
  iterate 3 (refine run_take ?_ rfl rfl (fun _ _ _ h => h) (Or.inl ⟨by rfl, ?_⟩) hS3 ?_; rotate_left; (· (intro w0 hy0; obtain ⟨y1, y2⟩ := hy0; (go_simp <;> with_reducible rfl))); simp only [Act.put, List.setIfInBounds_toArray, List.set_cons_zero, List.set_cons_succ])
  refine run_end ?_
  refine held_skip 34 gs34 (some 50) rfl rfl (by kernel_rfl) (by kernel_rfl) (by kernel_rfl) (fun _ _ _ h => h) (by rfl) hS3 ?_
  simp only [Act.put, List.setIfInBounds_toArray, List.set_cons_zero, List.set_cons_succ]
  refine held_skip 35 gs35 (some 51) rfl rfl (by kernel_rfl) (by kernel_rfl) (by kernel_rfl) (fun _ _ _ h => h) (by rfl) hS3 ?_
  simp only [Act.put, List.setIfInBounds_toArray, List.set_cons_zero, List.set_cons_succ]
  refine held_skip 36 gs36 (some 52) rfl rfl (by kernel_rfl) (by kernel_rfl) (by kernel_rfl) (fun _ _ _ h => h) (by rfl) hS3 ?_
  simp only [Act.put, List.setIfInBounds_toArray, List.set_cons_zero, List.set_cons_succ]
  refine held_skip 37 gs37 (some 53) rfl rfl (by kernel_rfl) (by kernel_rfl) (by kernel_rfl) (fun _ _ _ h => h) (by rfl) hS3 ?_
  simp only [Act.put, List.setIfInBounds_toArray, List.set_cons_zero, List.set_cons_succ]
  refine held_skip 38 gs38 (some 54) rfl rfl (by kernel_rfl) (by kernel_rfl) (by kernel_rfl) (fun _ _ _ h => h) (by rfl) hS3 ?_
  simp only [Act.put, List.setIfInBounds_toArray, List.set_cons_zero, List.set_cons_succ]
  refine held_skip 39 gs39 (some 55) rfl rfl (by kernel_rfl) (by kernel_rfl) (by kernel_rfl) (fun _ _ _ h => h) (by rfl) hS3 ?_
  simp only [Act.put, List.setIfInBounds_toArray, List.set_cons_zero, List.set_cons_succ]
  refine held_skip 40 gs40 (some 56) rfl rfl (by kernel_rfl) (by kernel_rfl) (by kernel_rfl) (fun _ _ _ h => h) (by rfl) hS3 ?_
  simp only [Act.put, List.setIfInBounds_toArray, List.set_cons_zero, List.set_cons_succ]
  refine held_skip 41 gs41 (some 57) rfl rfl (by kernel_rfl) (by kernel_rfl) (by kernel_rfl) (fun _ _ _ h => h) (by rfl) hS3 ?_
  simp only [Act.put, List.setIfInBounds_toArray, List.set_cons_zero, List.set_cons_succ]
  refine held_take 42 gs42 (some 58) ?_ rfl rfl (by kernel_rfl) (by kernel_rfl) (by kernel_rfl) (fun _ _ _ h => h) (Or.inl ⟨by rfl, ?_⟩) hS3 ?_
  rotate_left
  · intro w0 hy0; obtain ⟨y1, y2⟩ := hy0; (go_simp <;> with_reducible rfl)
  simp only [Act.put, List.setIfInBounds_toArray, List.set_cons_zero, List.set_cons_succ]
  refine wpAnyH_done (by kernel_rfl) ?_ _
  have hF := hB3
  clear hS3 hB3
  go_wp2
  go_ret2
  exact ⟨rfl, hF.drop⟩
open Go Go.RowKit
set_option maxRecDepth 100000 in
set_option maxHeartbeats 8000000 in
theorem drsget_F (p : Nat) (most : Int) (ts : List ByteArray) (s : ByteArray) {w : World} {F : List Nat} (HS : Hid (∀ (n : Nat) (c1 : Array Value), Becomes F (sgA w.heap.size c1 p most ts) w ((w.drewN n).alloc (.cells c1 127))))
    {v1 v2 a1 : Int} {n5 k : Nat} {b1 : Bool} (H1 : Hid (SdN s 0 false v1 a1 b1)) (H2 : Hid (SdN s a1 b1 v2 (n5 : Int) false)) (c1 : s.size = 64) (d1 : ¬ v1 < 1) (d2 : ¬ 1023 < v1) (hn5 : n5 ≤ 64) (hk : 64 - n5 = k) (hz : s.extract n5 64 = zerN k)
    (hadd : ¬ 9223372036854775807 < 5 + (numS v1).size) (HN : Hid (∀ w : World, Calls Tryz.prog 82 #[.slice (some ⟨w.heap.size, 0, none⟩) 1 1] (w.alloc (.cells #[.int .i64 v1] 3)) fun e w' => e = .returned (.string (numS v1)) ∧ Below w.heap.size w w'))
    (HI : Hid (Does Tryz.prog (refA p most ts) 62 #[.pointer (some ⟨p, 0, none⟩), .string (⟨#[115, 117, 112, 101, 114]⟩ ++ numS v1), .int .i64 v2] (.returned (.bool false)) (refA p most ts))) :
    Calls Tryz.prog 80 #[.pointer (some ⟨p, 0, none⟩), .string s] w fun e w' => e = .returned (.tuple #[.int .i64 0, .int .i64 1000]) ∧ Becomes F (refA p most ts) w w' := by
  have c1' : ((s.size : Int) != 64) = false := by simp; omega
  have d1' : decide (v1 < 1) = false := by simp; omega
  have d2' : decide (1023 < v1) = false := by simp; omega
  have hn5i : (n5 : Int) ≤ 64 := by omega
  have hki : (64 : Int) - (n5 : Int) = (k : Int) := by omega
  have hwk : IntKind.i64.wrap (k : Int) = k := by rw [IntKind.wrap_i64]; omega
  have hk64 : k ≤ 64 := by omega
  go_enter Tryz.func80, Tryz.ntmps80
  go_wp2_with (go_at_call 59; first
    | ((with_reducible refine (H1.out _ _ (by simp)).mono ?_); rintro e w1 ⟨rfl, m1, rfl⟩)
    | ((with_reducible refine (H2.out _ _ (by simp)).mono ?_); rintro e w1 ⟨rfl, m2, rfl⟩))
  have hB : Becomes F (sgA w.heap.size #[.string s, .int .i64 (n5 : Int), .bool false] p most ts) w ((w.drewN (m1 + m2)).alloc (.cells #[.string s, .int .i64 (n5 : Int), .bool false] 127)) := HS.out _ _
  have hws : ((w.drewN (m1 + m2)).alloc (.cells #[.string s, .int .i64 (n5 : Int), .bool false] 127)).heap.size = w.heap.size + 1 := by simp [World.drewN]
  clear H1 H2 HS
  refine region_held (S := sgS w.heap.size (n5 : Int)) 43 [false, false, false, false, false, false, false, false, false, false, false, false, false, false, false, false, false, false, false, false, false, false, false, false, false, false, false, false, false, false, false, false, false, false, false, false, false, false, false, false, false, false, false] rfl rfl (by kernel_rfl) fun W hW => ?_
  have hBW : Becomes F (sgA w.heap.size #[.string s, .int .i64 (n5 : Int), .bool false] p most ts) w W := by subst hW; exact hB.lay (sgA_good _ _ _ _ _) ⟨rfl, rfl, rfl, Nat.le_refl _, fun _ _ => rfl⟩
  have hWs : W.heap.size = w.heap.size + 1 := by subst hW; exact hws
  clear hB hW hws
  have hSW := sgA_S hBW
  refine run_go [(0, gs0, (some 16)), (1, gs1, (some 17)), (2, gs2, (some 18)), (3, gs3, (some 19)), (4, gs4, (some 20)), (5, gs5, (some 21)), (6, gs6, (some 22)), (7, gs7, (some 23)), (8, gs8, (some 24)), (9, gs9, (some 25)), (10, gs10, (some 26)), (11, gs11, (some 27)), (12, gs12, (some 28)), (13, gs13, (some 29)), (14, gs14, (some 30)), (15, gs15, (some 31)), (16, gs16, (some 32)), (17, gs17, (some 33)), (18, gs18, (some 34)), (19, gs19, (some 35)), (20, gs20, (some 36)), (21, gs21, (some 37)), (22, gs22, (some 38)), (23, gs23, (some 39)), (24, gs24, (some 40)), (25, gs25, (some 41)), (26, gs26, (some 42)), (27, gs27, (some 43)), (28, gs28, (some 44))] (by kernel_rfl) ?_
  iterate 29 (refine run_take ?_ rfl rfl (fun _ _ _ h => h) (Or.inl ⟨by rfl, ?_⟩) hSW ?_; rotate_left; (· (intro w0 hy0; obtain ⟨y1, y2⟩ := hy0; (go_simp <;> with_reducible rfl))); simp only [Act.put, List.setIfInBounds_toArray, List.set_cons_zero, List.set_cons_succ])
  refine run_end ?_
  have hB3 := hBW.lay (sgA_good _ _ _ _ _) ((Below.refl _ _).alloc (Nat.le_refl _) (zkObj k))
  have hS3 := sgA_S hB3
  refine held_one 29 gs29 (some 45) (.slice (some ⟨W.heap.size, 0, none⟩) k k) (W.alloc (zkObj k)) (by kernel_rfl) rfl rfl (by rfl) (exec_make 77 (.tmp 44) (.tmp 44) rfl rfl rfl (zk_made k (by omega) W)) hS3 ?_
  simp only [Act.put, List.setIfInBounds_toArray, List.set_cons_zero, List.set_cons_succ]
  refine held_one 30 gs30 (some 46) (.string (zerN k)) (W.alloc (zkObj k)) (by kernel_rfl) rfl rfl (by rfl) (exec_conv 77 9 (.tmp 45) rfl rfl (zk_conv k (by omega) W)) hS3 ?_
  simp only [Act.put, List.setIfInBounds_toArray, List.set_cons_zero, List.set_cons_succ]
  generalize hX : W.alloc (zkObj k) = X at *
  clear hX hSW hBW hWs
  refine run_go [(31, gs31, (some 47)), (32, gs32, (some 48)), (33, gs33, (some 49)), (34, gs34, (some 50)), (35, gs35, (some 51)), (39, gs39, (some 55))] (by kernel_rfl) ?_
  iterate 6 (refine run_take ?_ rfl rfl (fun _ _ _ h => h) (Or.inl ⟨by rfl, ?_⟩) hS3 ?_; rotate_left; (· (intro w0 hy0; obtain ⟨y1, y2⟩ := hy0; (go_simp <;> with_reducible rfl))); simp only [Act.put, List.setIfInBounds_toArray, List.set_cons_zero, List.set_cons_succ])
  refine run_end ?_
  have hB4 := hB3.lay (sgA_good _ _ _ _ _) ((Below.refl _ _).alloc (Nat.le_refl _) (.cells #[.int .i64 v1] 3))
  refine held_one 36 gs36 (some 52) (.slice (some ⟨X.heap.size, 0, none⟩) 1 1) (X.alloc (.cells #[.int .i64 v1] 3)) (by kernel_rfl) rfl rfl (by rfl) (exec_b1 (.tmp 51) rfl rfl) (sgA_S hB4) ?_
  simp only [Act.put, List.setIfInBounds_toArray, List.set_cons_zero, List.set_cons_succ]
  have hcall := ((HN.out X).mono fun e w' (h : e = .returned (.string (numS v1)) ∧ Below X.heap.size X w') => (⟨h.1, hB3.lay (sgA_good _ _ _ _ _) h.2⟩ : e = .returned (.string (numS v1)) ∧ Becomes F (sgA w.heap.size #[.string s, .int .i64 (n5 : Int), .bool false] p most ts) w w'))
  refine held_call 37 gs37 (some 53) (.string (numS v1)) (fun X => Becomes F (sgA w.heap.size #[.string s, .int .i64 (n5 : Int), .bool false] p most ts) w X) 82 #[.slice (some ⟨X.heap.size, 0, none⟩) 1 1] (by kernel_rfl) rfl rfl (by rfl) (exec_nums (.tmp 52) rfl rfl) hcall (fun X hX => sgA_S hX) ?_
  intro Y hB5
  have hS5 := sgA_S hB5
  simp only [Act.put, List.setIfInBounds_toArray, List.set_cons_zero, List.set_cons_succ]
  clear hcall hB4 hB3 hS3
  refine held_take 38 gs38 (some 54) ?_ rfl rfl (by kernel_rfl) (by kernel_rfl) (by kernel_rfl) (fun _ _ _ h => h) (Or.inl ⟨by rfl, ?_⟩) hS5 ?_
  rotate_left
  · intro w0 hy0; obtain ⟨y1, y2⟩ := hy0; (go_simp <;> with_reducible rfl)
  simp only [Act.put, List.setIfInBounds_toArray, List.set_cons_zero, List.set_cons_succ]
  have hcall := sgA_op HI.out hB5
  refine held_call 40 gs40 (some 56) (.bool false) (fun X => Becomes F (sgA w.heap.size #[.string s, .int .i64 (n5 : Int), .bool false] p most ts) w X) 62 #[.pointer (some ⟨p, 0, none⟩), .string (⟨#[115, 117, 112, 101, 114]⟩ ++ numS v1), .int .i64 v2] (by kernel_rfl) rfl rfl (by rfl) (exec_ishash (u := .pointer (some ⟨p, 0, none⟩)) (v := .string (⟨#[115, 117, 112, 101, 114]⟩ ++ numS v1)) (r := .int .i64 v2) (.tmp 50) (.tmp 54) (.tmp 55) rfl rfl (by go_simp) rfl) hcall (fun X hX => sgA_S hX) ?_
  intro Z hF
  have hSX := sgA_S hF
  simp only [Act.put, List.setIfInBounds_toArray, List.set_cons_zero, List.set_cons_succ]
  refine run_go [(41, gs41, (some 57)), (42, gs42, (some 58))] (by kernel_rfl) ?_
  iterate 2 (refine run_take ?_ rfl rfl (fun _ _ _ h => h) (Or.inl ⟨by rfl, ?_⟩) hSX ?_; rotate_left; (· (intro w0 hy0; obtain ⟨y1, y2⟩ := hy0; (go_simp <;> with_reducible rfl))); simp only [Act.put, List.setIfInBounds_toArray, List.set_cons_zero, List.set_cons_succ])
  refine run_end ?_
  refine wpAnyH_done (by kernel_rfl) ?_ _
  clear hSX
  go_wp2
  go_ret2
  exact ⟨rfl, hF.drop⟩
open Go Go.RowKit
set_option maxRecDepth 100000 in
set_option maxHeartbeats 8000000 in
theorem drsget_G (p : Nat) (most : Int) (ts : List ByteArray) (s : ByteArray) {w : World} {F : List Nat} (HS : Hid (∀ (n : Nat) (c1 : Array Value), Becomes F (sgA w.heap.size c1 p most ts) w ((w.drewN n).alloc (.cells c1 127))))
    {v1 v2 a1 : Int} {n5 k : Nat} {b1 : Bool} (H1 : Hid (SdN s 0 false v1 a1 b1)) (H2 : Hid (SdN s a1 b1 v2 (n5 : Int) false)) (c1 : s.size = 64) (d1 : ¬ v1 < 1) (d2 : ¬ 1023 < v1) (hn5 : n5 ≤ 64) (hk : 64 - n5 = k) (hz : s.extract n5 64 = zerN k)
    (hadd : ¬ 9223372036854775807 < 5 + (numS v1).size) (HN : Hid (∀ w : World, Calls Tryz.prog 82 #[.slice (some ⟨w.heap.size, 0, none⟩) 1 1] (w.alloc (.cells #[.int .i64 v1] 3)) fun e w' => e = .returned (.string (numS v1)) ∧ Below w.heap.size w w'))
    (HI : Hid (Does Tryz.prog (refA p most ts) 62 #[.pointer (some ⟨p, 0, none⟩), .string (⟨#[115, 117, 112, 101, 114]⟩ ++ numS v1), .int .i64 v2] (.returned (.bool true)) (refA p most ts))) :
    Calls Tryz.prog 80 #[.pointer (some ⟨p, 0, none⟩), .string s] w fun e w' => e = .returned (.tuple #[.int .i64 v1, .int .i64 0]) ∧ Becomes F (refA p most ts) w w' := by
  have c1' : ((s.size : Int) != 64) = false := by simp; omega
  have d1' : decide (v1 < 1) = false := by simp; omega
  have d2' : decide (1023 < v1) = false := by simp; omega
  have hn5i : (n5 : Int) ≤ 64 := by omega
  have hki : (64 : Int) - (n5 : Int) = (k : Int) := by omega
  have hwk : IntKind.i64.wrap (k : Int) = k := by rw [IntKind.wrap_i64]; omega
  have hk64 : k ≤ 64 := by omega
  go_enter Tryz.func80, Tryz.ntmps80
  go_wp2_with (go_at_call 59; first
    | ((with_reducible refine (H1.out _ _ (by simp)).mono ?_); rintro e w1 ⟨rfl, m1, rfl⟩)
    | ((with_reducible refine (H2.out _ _ (by simp)).mono ?_); rintro e w1 ⟨rfl, m2, rfl⟩))
  have hB : Becomes F (sgA w.heap.size #[.string s, .int .i64 (n5 : Int), .bool false] p most ts) w ((w.drewN (m1 + m2)).alloc (.cells #[.string s, .int .i64 (n5 : Int), .bool false] 127)) := HS.out _ _
  have hws : ((w.drewN (m1 + m2)).alloc (.cells #[.string s, .int .i64 (n5 : Int), .bool false] 127)).heap.size = w.heap.size + 1 := by simp [World.drewN]
  clear H1 H2 HS
  refine region_held (S := sgS w.heap.size (n5 : Int)) 43 [false, false, false, false, false, false, false, false, false, false, false, false, false, false, false, false, false, false, false, false, false, false, false, false, false, false, false, false, false, false, false, false, false, false, false, false, false, false, false, false, false, false, false] rfl rfl (by kernel_rfl) fun W hW => ?_
  have hBW : Becomes F (sgA w.heap.size #[.string s, .int .i64 (n5 : Int), .bool false] p most ts) w W := by subst hW; exact hB.lay (sgA_good _ _ _ _ _) ⟨rfl, rfl, rfl, Nat.le_refl _, fun _ _ => rfl⟩
  have hWs : W.heap.size = w.heap.size + 1 := by subst hW; exact hws
  clear hB hW hws
  have hSW := sgA_S hBW
  refine run_go [(0, gs0, (some 16)), (1, gs1, (some 17)), (2, gs2, (some 18)), (3, gs3, (some 19)), (4, gs4, (some 20)), (5, gs5, (some 21)), (6, gs6, (some 22)), (7, gs7, (some 23)), (8, gs8, (some 24)), (9, gs9, (some 25)), (10, gs10, (some 26)), (11, gs11, (some 27)), (12, gs12, (some 28)), (13, gs13, (some 29)), (14, gs14, (some 30)), (15, gs15, (some 31)), (16, gs16, (some 32)), (17, gs17, (some 33)), (18, gs18, (some 34)), (19, gs19, (some 35)), (20, gs20, (some 36)), (21, gs21, (some 37)), (22, gs22, (some 38)), (23, gs23, (some 39)), (24, gs24, (some 40)), (25, gs25, (some 41)), (26, gs26, (some 42)), (27, gs27, (some 43)), (28, gs28, (some 44))] (by kernel_rfl) ?_
  iterate 29 (refine run_take ?_ rfl rfl (fun _ _ _ h => h) (Or.inl ⟨by rfl, ?_⟩) hSW ?_; rotate_left; (· (intro w0 hy0; obtain ⟨y1, y2⟩ := hy0; (go_simp <;> with_reducible rfl))); simp only [Act.put, List.setIfInBounds_toArray, List.set_cons_zero, List.set_cons_succ])
  refine run_end ?_
  have hB3 := hBW.lay (sgA_good _ _ _ _ _) ((Below.refl _ _).alloc (Nat.le_refl _) (zkObj k))
  have hS3 := sgA_S hB3
  refine held_one 29 gs29 (some 45) (.slice (some ⟨W.heap.size, 0, none⟩) k k) (W.alloc (zkObj k)) (by kernel_rfl) rfl rfl (by rfl) (exec_make 77 (.tmp 44) (.tmp 44) rfl rfl rfl (zk_made k (by omega) W)) hS3 ?_
  simp only [Act.put, List.setIfInBounds_toArray, List.set_cons_zero, List.set_cons_succ]
  refine held_one 30 gs30 (some 46) (.string (zerN k)) (W.alloc (zkObj k)) (by kernel_rfl) rfl rfl (by rfl) (exec_conv 77 9 (.tmp 45) rfl rfl (zk_conv k (by omega) W)) hS3 ?_
  simp only [Act.put, List.setIfInBounds_toArray, List.set_cons_zero, List.set_cons_succ]
  generalize hX : W.alloc (zkObj k) = X at *
  clear hX hSW hBW hWs
  refine run_go [(31, gs31, (some 47)), (32, gs32, (some 48)), (33, gs33, (some 49)), (34, gs34, (some 50)), (35, gs35, (some 51)), (39, gs39, (some 55))] (by kernel_rfl) ?_
  iterate 6 (refine run_take ?_ rfl rfl (fun _ _ _ h => h) (Or.inl ⟨by rfl, ?_⟩) hS3 ?_; rotate_left; (· (intro w0 hy0; obtain ⟨y1, y2⟩ := hy0; (go_simp <;> with_reducible rfl))); simp only [Act.put, List.setIfInBounds_toArray, List.set_cons_zero, List.set_cons_succ])
  refine run_end ?_
  have hB4 := hB3.lay (sgA_good _ _ _ _ _) ((Below.refl _ _).alloc (Nat.le_refl _) (.cells #[.int .i64 v1] 3))
  refine held_one 36 gs36 (some 52) (.slice (some ⟨X.heap.size, 0, none⟩) 1 1) (X.alloc (.cells #[.int .i64 v1] 3)) (by kernel_rfl) rfl rfl (by rfl) (exec_b1 (.tmp 51) rfl rfl) (sgA_S hB4) ?_
  simp only [Act.put, List.setIfInBounds_toArray, List.set_cons_zero, List.set_cons_succ]
  have hcall := ((HN.out X).mono fun e w' (h : e = .returned (.string (numS v1)) ∧ Below X.heap.size X w') => (⟨h.1, hB3.lay (sgA_good _ _ _ _ _) h.2⟩ : e = .returned (.string (numS v1)) ∧ Becomes F (sgA w.heap.size #[.string s, .int .i64 (n5 : Int), .bool false] p most ts) w w'))
  refine held_call 37 gs37 (some 53) (.string (numS v1)) (fun X => Becomes F (sgA w.heap.size #[.string s, .int .i64 (n5 : Int), .bool false] p most ts) w X) 82 #[.slice (some ⟨X.heap.size, 0, none⟩) 1 1] (by kernel_rfl) rfl rfl (by rfl) (exec_nums (.tmp 52) rfl rfl) hcall (fun X hX => sgA_S hX) ?_
  intro Y hB5
  have hS5 := sgA_S hB5
  simp only [Act.put, List.setIfInBounds_toArray, List.set_cons_zero, List.set_cons_succ]
  clear hcall hB4 hB3 hS3
  refine held_take 38 gs38 (some 54) ?_ rfl rfl (by kernel_rfl) (by kernel_rfl) (by kernel_rfl) (fun _ _ _ h => h) (Or.inl ⟨by rfl, ?_⟩) hS5 ?_
  rotate_left
  · intro w0 hy0; obtain ⟨y1, y2⟩ := hy0; (go_simp <;> with_reducible rfl)
  simp only [Act.put, List.setIfInBounds_toArray, List.set_cons_zero, List.set_cons_succ]
  have hcall := sgA_op HI.out hB5
  refine held_call 40 gs40 (some 56) (.bool true) (fun X => Becomes F (sgA w.heap.size #[.string s, .int .i64 (n5 : Int), .bool false] p most ts) w X) 62 #[.pointer (some ⟨p, 0, none⟩), .string (⟨#[115, 117, 112, 101, 114]⟩ ++ numS v1), .int .i64 v2] (by kernel_rfl) rfl rfl (by rfl) (exec_ishash (u := .pointer (some ⟨p, 0, none⟩)) (v := .string (⟨#[115, 117, 112, 101, 114]⟩ ++ numS v1)) (r := .int .i64 v2) (.tmp 50) (.tmp 54) (.tmp 55) rfl rfl (by go_simp) rfl) hcall (fun X hX => sgA_S hX) ?_
  intro Z hF
  have hSX := sgA_S hF
  simp only [Act.put, List.setIfInBounds_toArray, List.set_cons_zero, List.set_cons_succ]
  refine run_go [(41, gs41, (some 57)), (42, gs42, (some 58))] (by kernel_rfl) ?_
  iterate 2 (refine run_take ?_ rfl rfl (fun _ _ _ h => h) (Or.inl ⟨by rfl, ?_⟩) hSX ?_; rotate_left; (· (intro w0 hy0; obtain ⟨y1, y2⟩ := hy0; (go_simp <;> with_reducible rfl))); simp only [Act.put, List.setIfInBounds_toArray, List.set_cons_zero, List.set_cons_succ])
  refine run_end ?_
  refine wpAnyH_done (by kernel_rfl) ?_ _
  clear hSX
  go_wp2
  go_ret2
  exact ⟨rfl, hF.drop⟩
open Go Go.RowKit
theorem bneS {s t : ByteArray} (h : s ≠ t) : (s.toList == t.toList) = false := by
  cases c : (s.toList == t.toList)
  · rfl
  · exfalso
    refine h ?_
    have h1 : s.toList = t.toList := by simpa using c
    obtain ⟨⟨a⟩⟩ := s
    obtain ⟨⟨b⟩⟩ := t
    rw [ByteArray.toList_mk, ByteArray.toList_mk] at h1
    exact congrArg (fun l => (⟨⟨l⟩⟩ : ByteArray)) h1
theorem drsget (p : Nat) (most : Int) (ts : List ByteArray) (s : ByteArray) (hs : s.size ≤ 9223372036854770000) : Does Tryz.prog (refA p most ts) 80 #[.pointer (some ⟨p, 0, none⟩), .string s] (.returned (.tuple #[.int .i64 (sgX ts s), .int .i64 (sgE ts s)])) (refA p most ts) := by
  intro w F h
  have HS := Lib.hid (fun n c1 => sg_start h n c1)
  clear h
  have hv := suv s
  have h1 := fun X q => rdnum2 s 0 false 127 hs (by omega) (by omega) X q
  obtain ⟨x1, y1⟩ := rnA_bd (s := s) (a := 0) (b := false) (by omega) (by omega)
  generalize rnX s 0 false = v1 at *
  generalize rnA s 0 false = a1 at *
  generalize rnB s 0 false = b1 at *
  have h2 := fun X q => rdnum2 s a1 b1 127 hs x1 y1 X q
  obtain ⟨x2, y2⟩ := rnA_bd (s := s) (a := a1) (b := b1) x1 y1
  generalize rnX s a1 b1 = v2 at *
  generalize rnA s a1 b1 = a2 at *
  generalize rnB s a1 b1 = b2 at *
  have H1 := Lib.hid h1
  have H2 := Lib.hid h2
  clear h1 h2
  by_cases c1 : s.size = 64
  · cases b2 with
    | true =>
      obtain ⟨q1, q2⟩ := sg_no (hv.none (.inr (.inl rfl)) ts)
      rw [q1, q2]
      exact drsget_bad p most ts s HS H1 H2 c1
    | false =>
      by_cases d1 : v1 < 1
      · obtain ⟨q1, q2⟩ := sg_no (hv.none (.inr (.inr (.inl (by cases hm : suMay v1; rfl; have := (suMay_iff v1).1 hm; omega)))) ts)
        rw [q1, q2]
        exact drsget_low p most ts s HS H1 H2 c1 d1
      · by_cases d2 : 1023 < v1
        · obtain ⟨q1, q2⟩ := sg_no (hv.none (.inr (.inr (.inl (by cases hm : suMay v1; rfl; have := (suMay_iff v1).1 hm; omega)))) ts)
          rw [q1, q2]
          exact drsget_high p most ts s HS H1 H2 c1 d2
        · obtain ⟨n5, rfl⟩ := Int.eq_ofNat_of_zero_le x2
          have hn5 : n5 ≤ 64 := by omega
          have hm : suMay v1 = true := (suMay_iff v1).2 ⟨by omega, by omega⟩
          by_cases hz : s.extract n5 64 = zerN (64 - n5)
          · have hfd := hv.find c1 hm (by rw [Int.toNat_natCast]; exact hz) ts
            have h5 := numS_size5 v1
            have hI := drishash p most ts (markS ++ numS v1) v2 (by rw [ByteArray.size_append, show markS.size = 5 from rfl]; omega)
            rw [show okK none = true from rfl, show tmK cH none (markS ++ numS v1) = suTm v1 from rfl] at hI
            have hN := fun w => rn1 v1 3 w (by omega) (by omega)
            rw [numsB_one] at hN
            have HN := Lib.hid hN
            cases hk : ckI ts true (suTm v1) v2 with
            | false =>
              rw [hk] at hfd hI
              obtain ⟨q1, q2⟩ := sg_no hfd
              rw [q1, q2]
              exact drsget_F p most ts s HS H1 H2 c1 d1 d2 hn5 rfl hz (by omega) HN (Lib.hid hI)
            | true =>
              rw [hk] at hfd hI
              obtain ⟨q1, q2⟩ : sgX ts s = v1 ∧ sgE ts s = 0 := sg_yes hfd
              rw [q1, q2]
              exact drsget_G p most ts s HS H1 H2 c1 d1 d2 hn5 rfl hz (by omega) HN (Lib.hid hI)
          · obtain ⟨q1, q2⟩ := sg_no (hv.none (.inr (.inr (.inr (by rw [Int.toNat_natCast]; exact hz)))) ts)
            rw [q1, q2]
            exact drsget_E p most ts s HS H1 H2 c1 d1 d2 hn5 rfl (bneS hz)
  · obtain ⟨q1, q2⟩ := sg_no (hv.none (.inl c1) ts)
    rw [q1, q2]
    exact drsget_size p most ts s HS H1 H2 c1
theorem rpick_of (p : Nat) (most : Int) (ts : List ByteArray) (s t : ByteArray) (x e y f X Q E : Int)
    (h1 : Does Tryz.prog (refA p most ts) 80 #[.pointer (some ⟨p, 0, none⟩), .string s] (.returned (.tuple #[.int .i64 x, .int .i64 e])) (refA p most ts))
    (h2 : Does Tryz.prog (refA p most ts) 80 #[.pointer (some ⟨p, 0, none⟩), .string t] (.returned (.tuple #[.int .i64 y, .int .i64 f])) (refA p most ts))
    (hc : (e = 1000 ∧ f = 1000 ∧ X = 0 ∧ Q = 0 ∧ E = 1001) ∨ (e = 0 ∧ f = 1000 ∧ X = x ∧ Q = 1 ∧ E = 0) ∨ (e = 1000 ∧ f = 0 ∧ X = y ∧ Q = 0 ∧ E = 0) ∨ (e = 0 ∧ f = 0 ∧ y ≤ x ∧ X = x ∧ Q = 1 ∧ E = 0) ∨ (e = 0 ∧ f = 0 ∧ x < y ∧ X = y ∧ Q = 0 ∧ E = 0)) :
    Does Tryz.prog (refA p most ts) 65 #[.pointer (some ⟨p, 0, none⟩), .string s, .string t] (.returned (.tuple #[.int .i64 X, .int .i64 Q, .int .i64 E])) (refA p most ts) := by
  intro w F h
  have hS := Becomes.refl h
  clear h
  rcases hc with ⟨rfl, rfl, rfl, rfl, rfl⟩ | ⟨rfl, rfl, rfl, rfl, rfl⟩ | ⟨rfl, rfl, rfl, rfl, rfl⟩ | ⟨rfl, rfl, hc, rfl, rfl, rfl⟩ | ⟨rfl, rfl, hc, rfl, rfl, rfl⟩
  case' inr.inr.inr.inr => have hc2 : ¬ X ≤ x := by omega
  all_goals
    have H1 := Lib.hid h1
    have H2 := Lib.hid h2
    clear h1 h2
    go_enter Tryz.func65, Tryz.ntmps65
    go_wp2_with (go_at_call 80; first
      | ((with_reducible refine (Becomes.op H1.out hS).mono ?_); rintro e1 w1 ⟨rfl, hS1⟩; clear hS)
      | ((with_reducible refine (Becomes.op H2.out hS1).mono ?_); rintro e1 w1 ⟨rfl, hS2⟩))
    go_ret3
    exact ⟨rfl, hS2⟩
theorem drpick (p : Nat) (most : Int) (ts : List ByteArray) (s t : ByteArray) (hs : s.size ≤ 9223372036854770000) (ht : t.size ≤ 9223372036854770000) : Does Tryz.prog (refA p most ts) 65 #[.pointer (some ⟨p, 0, none⟩), .string s, .string t] (.returned (.tuple #[.int .i64 (pkX ts s t), .int .i64 (pkP ts s t), .int .i64 (pkE ts s t)])) (refA p most ts) := by
  refine rpick_of p most ts s t _ _ _ _ _ _ _ (drsget p most ts s hs) (drsget p most ts t ht) ?_
  rcases sg_cases ts s with ⟨a, a1, _⟩ | ⟨a, a1⟩ <;> rcases sg_cases ts t with ⟨b, b1, _⟩ | ⟨b, b1⟩
  · by_cases hc : sgX ts t ≤ sgX ts s
    · obtain ⟨q1, q2, q3⟩ := pk_ge a b hc
      exact .inr (.inr (.inr (.inl ⟨a, b, hc, q1, q2, q3⟩)))
    · obtain ⟨q1, q2, q3⟩ := pk_lt a b (by omega)
      exact .inr (.inr (.inr (.inr ⟨a, b, by omega, q1, q2, q3⟩)))
  · obtain ⟨q1, q2, q3⟩ := pk_one a b
    exact .inr (.inl ⟨a, b, q1, q2, q3⟩)
  · obtain ⟨q1, q2, q3⟩ := pk_two a b
    exact .inr (.inr (.inl ⟨a, b, q1, q2, q3⟩))
  · obtain ⟨q1, q2, q3⟩ := pk_none a b
    exact .inl ⟨a, b, q1, q2, q3⟩
end Go.Proofs.YtbfpfmidjdonjaaGreatDoor
