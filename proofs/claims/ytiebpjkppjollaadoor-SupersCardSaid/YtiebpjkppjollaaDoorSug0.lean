/- The reference's GetSuper: its reader's block, the operations' steps, the ways that refuse early. Conditions: as typed. -/
import Derived.Test.YtiebpjkppjollaaDoorSuref
import Derived.Test.YtiebpjkppjollaaDoorBme
import Derived.Test.YtiebpjkppjollaaDoorReg
import Derived.Great.BuildSlice
import Derived.Deep.QuietTactic
import Derived.BigQuiet
namespace Go.Proofs.YtiebpjkppjollaaDoor
open Go Go.RowKit

abbrev sgA (q : Nat) (c1 : Array Value) (p : Nat) (most : Int) (ts : List ByteArray) : Ass := (ownA q c1 88).star (refA p most ts)
theorem sgA_good (q : Nat) (c1 : Array Value) (p : Nat) (most : Int) (ts : List ByteArray) : (sgA q c1 p most ts).Good := (ownA_good _ _ _).star (refA_good _ _ _)
abbrev sdO (s : ByteArray) (a : Int) (b : Bool) : Obj := .cells #[.string s, .int .i64 a, .bool b] 88
/-- What a reading answers and leaves. -/
abbrev SdN (s : ByteArray) (a : Int) (b : Bool) (v a' : Int) (b' : Bool) : Prop := ∀ (X : World) (q : Nat), X.heap.size = q → Calls Tryd.prog 44 #[.pointer (some ⟨q, 0, none⟩)] (X.alloc (sdO s a b)) fun e w' => e = .returned (.int .i64 v) ∧ ∃ n, w' = (X.drewN n).alloc (sdO s a' b')
theorem sg_start {p : Nat} {most : Int} {ts : List ByteArray} {w : World} {F : List Nat} (h : refA p most ts w F) (n : Nat) (c1 : Array Value) : Becomes F (sgA w.heap.size c1 p most ts) w ((w.drewN n).alloc (.cells c1 88)) := by
  have h1 := ((Becomes.refl h).lay (w2 := w.drewN n) (refA_good _ _ _) ⟨rfl, rfl, rfl, Nat.le_refl _, fun _ _ => rfl⟩).hold (refA_good _ _ _) c1 88
  exact h1
theorem Ass.imp.comm2 (A B : Ass) : (A.star B).imp (B.star A) := by
  rintro w F ⟨F1, F2, rfl, a, b, d⟩
  exact ⟨F2 ++ F1, ⟨F2, F1, rfl, b, a, fun k hk hk' => d k hk' hk⟩, fun k => by simp; exact Or.comm⟩
/-- What the great region reads. -/
abbrev sgS (q : Nat) (a : Int) : World → Prop := fun v => v.cell? ⟨q, 1, none⟩ = some (.int .i64 a) ∧ v.cell? ⟨q, 2, none⟩ = some (.bool false)
theorem sgA_S {F : List Nat} {q : Nat} {w : World} {p : Nat} {most : Int} {ts : List ByteArray} {s : ByteArray} {a : Int} {v : World} (h : Becomes F (sgA q #[.string s, .int .i64 a, .bool false] p most ts) w v) : sgS q a v :=
  ⟨(h.own.1 1).trans rfl, (h.own.1 2).trans rfl⟩
theorem sgA_op {p q : Nat} {most : Int} {ts : List ByteArray} {w W : World} {F : List Nat} {c1 : Array Value} {f : FuncId} {args : Array Value} {v : Ending} (hd : Does Tryd.prog (refA p most ts) f args v (refA p most ts)) (h : Becomes F (sgA q c1 p most ts) w W) :
    Calls Tryd.prog f args W fun e w' => e = v ∧ Becomes F (sgA q c1 p most ts) w w' :=
  Becomes.opN hd (Ass.imp.comm2 _ _) (Ass.imp.comm2 _ _) (ownA_good _ _ _) h
theorem infI1 : (Tryd.prog.info? 3).map (fun i => (i.zero, i.size, i.bytes)) = some (some (.int .i64 0), 1, 8) := by kernel_rfl
theorem exec_b1 {a : Act} {w : World} {op : Oper} (y : Operand) (ho : op.op = .buildSlice 52 1 #[(0, y)]) {x : Int} (hy : a.eval y = .int .i64 x) :
    (execOp a.eval op).run Tryd.prog w = .ok (.value (.slice (some ⟨w.heap.size, 0, none⟩) 1 1)) (w.alloc (.cells #[.int .i64 x] 3)) := by
  obtain ⟨ie, hie, hz, hs, _⟩ := info_parts infI1
  have hrun := run_buildSlice (P := Tryd.prog) w 52 3 1 #[(0, .int .i64 x)] #[.int .i64 x] ie (.int .i64 0) Tryd.underlying52 hie hz (by rw [hs]; decide) (by rw [hs]; decide) (by rw [hs]; kernel_rfl)
  unfold execOp
  simp only [ho, List.map_toArray, List.map_cons, List.map_nil, hy, Sem.run_bind, hrun, Result.andThen_ok, Sem.run_pure]
theorem exec_make {P : Program} {a : Act} {w w' : World} {op : Oper} (t : TypeId) (x y : Operand) (ho : op.op = .makeSlice t x y) {u v r : Value} (hx : a.eval x = u) (hy : a.eval y = v) (hr : (Instr.makeSlice t u v).run P w = .ok r w') : (execOp a.eval op).run P w = .ok (.value r) w' := by
  unfold execOp
  simp only [ho, hx, hy, Sem.run_bind, hr, Result.andThen_ok, Sem.run_pure]
theorem exec_conv {P : Program} {a : Act} {w w' : World} {op : Oper} (t t2 : TypeId) (x : Operand) (ho : op.op = .convert t t2 x) {u r : Value} (hx : a.eval x = u) (hr : (convert t t2 u).run P w = .ok r w') : (execOp a.eval op).run P w = .ok (.value r) w' := by
  unfold execOp
  simp only [ho, hx, Sem.run_bind, hr, Result.andThen_ok, Sem.run_pure]
theorem exec_ishash {a : Act} {w : World} {op : Oper} (x y z : Operand) (ho : op.op = .call { callee := .value (.func 47), args := #[x, y, z], argTypes := #[24, 9, 3] }) {u v r : Value} (hx : a.eval x = u) (hy : a.eval y = v) (hz : a.eval z = r) : (execOp a.eval op).run Tryd.prog w = .ok (.enter 47 #[u, v, r]) w := by
  unfold execOp
  simp only [ho, resolve, Sem.run_bind, List.map_toArray, List.map_cons, List.map_nil, hx, hy, hz]
  go_simp
theorem exec_nums {a : Act} {w : World} {op : Oper} (x : Operand) (ho : op.op = .call { callee := .value (.func 39), args := #[x], argTypes := #[52] }) {u : Value} (hx : a.eval x = u) : (execOp a.eval op).run Tryd.prog w = .ok (.enter 39 #[u]) w := by
  unfold execOp
  simp only [ho, resolve, Sem.run_bind, List.map_toArray, List.map_cons, List.map_nil, hx]
  go_simp
end Go.Proofs.YtiebpjkppjollaaDoor
