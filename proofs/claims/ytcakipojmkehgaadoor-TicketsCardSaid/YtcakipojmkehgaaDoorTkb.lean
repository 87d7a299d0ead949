/- The reference's BodyMay and body: what they answer. Condition: the text's size. -/
import Derived.Test.YtcakipojmkehgaaDoorTk
import Derived.Test.YtcakipojmkehgaaDoorBrk
import Derived.Test.YtcakipojmkehgaaDoorRgr
import Derived.Test.YtcakipojmkehgaaDoorBlks
import Derived.Test.YtcakipojmkehgaaDoorReg
namespace Go.Proofs.YtcakipojmkehgaaDoor
open Go Go.RowKit

set_option maxRecDepth 100000 in
set_option maxHeartbeats 8000000 in
theorem rbmay (t : Bd) (w : World) : Calls Tryd.prog 25 #[t.val] w fun e w' => e = .returned (.bool t.may) ∧ Below w.heap.size w w' := by
  obtain ⟨u, g, x, s, k⟩ := t
  have hM : (Bd.mk u g x s k).may = (decide (0 ≤ u) && decide (u < 8) && okNum g && okNum x && okNum s && okNum k) := by
    unfold Bd.may okNum
    by_cases h0 : u < 8
    · have h1 : u ≤ 1073741823 := by omega
      simp [h0, h1]
    · simp [h0]
  rw [hM]
  simp only [Bd.val]
  have N1 := fun w => rgnum g _ rfl w
  have N2 := fun w => rgnum x _ rfl w
  have N3 := fun w => rgnum s _ rfl w
  have N4 := fun w => rgnum k _ rfl w
  generalize okNum g = B1 at *
  generalize okNum x = B2 at *
  generalize okNum s = B3 at *
  generalize okNum k = B4 at *
  have H1 := Lib.hid N1
  have H2 := Lib.hid N2
  have H3 := Lib.hid N3
  have H4 := Lib.hid N4
  have hb := (Below.refl w.heap.size w).alloc (Nat.le_refl _) (.cells #[.int .i64 u, .int .i64 g, .int .i64 x, .int .i64 s, .int .i64 k] 34)
  clear N1 N2 N3 N4 hM
  go_enter Tryd.func25, Tryd.ntmps25
  go_wp2_with (go_at_call 29; (first | (with_reducible refine (H1.out _).mono ?_) | (with_reducible refine (H2.out _).mono ?_) | (with_reducible refine (H3.out _).mono ?_) | (with_reducible refine (H4.out _).mono ?_)); rintro r w1 ⟨rfl, rfl⟩)
  all_goals (go_ret; refine ⟨?_, hb⟩; congr 2; simp [*] <;> omega)
/-- What the flagged reading tells of a body's bytes. -/
theorem tkG_flag {s : ByteArray} {v0 v1 v2 v3 v4 e : Int} {b : Bool} (hy : rdF s 0 false [false, false, false, false, false] = ([.n v0, .n v1, .n v2, .n v3, .n v4], e, b)) :
    tkG s = if b = false ∧ e = s.size ∧ (Bd.mk v0 v1 v2 v3 v4).may = true then some ⟨v0, v1, v2, v3, v4⟩ else none := by
  obtain ⟨i1, i2⟩ := rdF_of s [false, false, false, false, false] 0
  by_cases hq : tkQ s 0 = 0 ∧ tkQ s 1 = 0 ∧ tkQ s 2 = 0 ∧ tkQ s 3 = 0 ∧ tkQ s 4 = 0
  · have hr := rdL_five hq
    have h := i1 _ _ hr
    rw [hy] at h
    simp only [Bd.fl, tkBd, Prod.mk.injEq, List.cons.injEq, Fld.n.injEq, and_true] at h
    obtain ⟨⟨x0, x1, x2, x3, x4⟩, he, hb⟩ := h
    subst hb
    have hB : tkBd s = ⟨v0, v1, v2, v3, v4⟩ := by unfold tkBd; rw [← x0, ← x1, ← x2, ← x3, ← x4]
    unfold tkG
    rw [hB, ← he]
    simp [hq]
  · cases hr : rdL s 0 [false, false, false, false, false] with
    | none =>
      have h := i2 hr
      rw [hy] at h
      have hb : b = true := h
      subst hb
      rw [if_neg (fun c => by cases c.1)]
      unfold tkG
      rw [if_neg (fun c => hq ⟨c.1, c.2.1, c.2.2.1, c.2.2.2.1, c.2.2.2.2.1⟩)]
    | some y =>
      obtain ⟨q0, z0, h1, -⟩ := rdL_num hr
      obtain ⟨q1, z1, h2, -⟩ := rdL_num h1
      obtain ⟨q2, z2, h3, -⟩ := rdL_num h2
      obtain ⟨q3, z3, h4, -⟩ := rdL_num h3
      obtain ⟨q4, z4, -, -⟩ := rdL_num h4
      exact absurd ⟨q0, q1, q2, q3, q4⟩ hq
theorem below_two' (w : World) (R A B : Obj) (m : Nat) : Below w.heap.size w ((((w.alloc R).drewN m).alloc A).alloc B) :=
  ((((Below.refl w.heap.size w).alloc (Nat.le_refl _) R).trans (⟨rfl, rfl, rfl, Nat.le_refl _, fun _ _ => rfl⟩ : Below w.heap.size (w.alloc R) ((w.alloc R).drewN m))).alloc (by simp) A).alloc (by simp; omega) B
/-- Within the reference's body: the result's block, the reader's, the body's. -/
structure RB (w W : World) (s : ByteArray) (a : Int) (b : Bool) (v0 v1 v2 v3 v4 : Int) : Prop where
  bel : Below w.heap.size w W
  b0 : Blk W w.heap.size #[.int .i64 0, .int .i64 0, .int .i64 0, .int .i64 0, .int .i64 0]
  b1 : Blk W (w.heap.size + 1) #[.string s, .int .i64 a, .bool b]
  b2 : Blk W (w.heap.size + 1 + 1) #[.int .i64 v0, .int .i64 v1, .int .i64 v2, .int .i64 v3, .int .i64 v4]
theorem RB.start (w : World) (s : ByteArray) (a : Int) (b : Bool) (v0 v1 v2 v3 v4 : Int) (m : Nat) (T R : TypeId) :
    RB w ((((w.alloc (.cells #[.int .i64 0, .int .i64 0, .int .i64 0, .int .i64 0, .int .i64 0] T)).drewN m).alloc (.cells #[.string s, .int .i64 a, .bool b] R)).alloc (.cells #[.int .i64 v0, .int .i64 v1, .int .i64 v2, .int .i64 v3, .int .i64 v4] T)) s a b v0 v1 v2 v3 v4 :=
  ⟨below_two' _ _ _ _ _, (((Blk.new _ _ _).drewN m).alloc _).alloc _, (Blk.new' _ _ (by simp) _ _).alloc _, Blk.new' _ _ (by simp) _ _⟩
theorem RB.step {w W W' : World} {s : ByteArray} {a : Int} {b : Bool} {v0 v1 v2 v3 v4 : Int} (h : RB w W s a b v0 v1 v2 v3 v4) (hb : Below W.heap.size W W') : RB w W' s a b v0 v1 v2 v3 v4 :=
  ⟨h.bel.trans (hb.mono h.bel.size), h.b0.step hb, h.b1.step hb, h.b2.step hb⟩
theorem Blk.five {W : World} {q : Nat} {c : Array Value} (h : Blk W q c) (b : Nat) (hb : b ≠ q) (x0 x1 x2 x3 x4 : Value) : Blk (((((W.setCell ⟨b, 0, none⟩ x0).setCell ⟨b, 1, none⟩ x1).setCell ⟨b, 2, none⟩ x2).setCell ⟨b, 3, none⟩ x3).setCell ⟨b, 4, none⟩ x4) q c := by
  have h0 := h.far ⟨b, 0, none⟩ x0 hb
  have h1 := h0.far ⟨b, 1, none⟩ x1 hb
  have h2 := h1.far ⟨b, 2, none⟩ x2 hb
  have h3 := h2.far ⟨b, 3, none⟩ x3 hb
  exact h3.far ⟨b, 4, none⟩ x4 hb
theorem RB.poke {w W : World} {s : ByteArray} {a : Int} {b : Bool} {v0 v1 v2 v3 v4 : Int} (h : RB w W s a b v0 v1 v2 v3 v4) (x0 x1 x2 x3 x4 : Value) :
    Blk (((((W.setCell ⟨w.heap.size, 0, none⟩ x0).setCell ⟨w.heap.size, 1, none⟩ x1).setCell ⟨w.heap.size, 2, none⟩ x2).setCell ⟨w.heap.size, 3, none⟩ x3).setCell ⟨w.heap.size, 4, none⟩ x4) (w.heap.size + 1) #[.string s, .int .i64 a, .bool b] ∧
    Blk (((((W.setCell ⟨w.heap.size, 0, none⟩ x0).setCell ⟨w.heap.size, 1, none⟩ x1).setCell ⟨w.heap.size, 2, none⟩ x2).setCell ⟨w.heap.size, 3, none⟩ x3).setCell ⟨w.heap.size, 4, none⟩ x4) (w.heap.size + 1 + 1) #[.int .i64 v0, .int .i64 v1, .int .i64 v2, .int .i64 v3, .int .i64 v4] :=
  ⟨h.b1.five w.heap.size (by omega) x0 x1 x2 x3 x4, h.b2.five w.heap.size (by omega) x0 x1 x2 x3 x4⟩
theorem RB.end {w W : World} {s : ByteArray} {a : Int} {b : Bool} {v0 v1 v2 v3 v4 : Int} (h : RB w W s a b v0 v1 v2 v3 v4) (x0 x1 x2 x3 x4 : Value) : Below w.heap.size w (((((W.setCell ⟨w.heap.size, 0, none⟩ x0).setCell ⟨w.heap.size, 1, none⟩ x1).setCell ⟨w.heap.size, 2, none⟩ x2).setCell ⟨w.heap.size, 3, none⟩ x3).setCell ⟨w.heap.size, 4, none⟩ x4) := by
  repeat (with_reducible refine Below.setCell ?_ (by simp) _)
  exact h.bel
/- Operations of the region, each by a law. -/
theorem exec_store5 {a : Act} {w : World} {op : Oper} (x y : Operand) (ho : op.op = .store 34 x y) (b : Nat) (e1 : ∀ i, w.cell? ⟨b, i, Option.none⟩ = (#[.int .i64 0, .int .i64 0, .int .i64 0, .int .i64 0, .int .i64 0] : Array Value)[i]?) (f1 : ∀ i, w.frozen? ⟨b, i, Option.none⟩ = false) (x0 x1 x2 x3 x4 : Int) (hx : a.eval x = .pointer (some ⟨b, 0, Option.none⟩)) (hy : a.eval y = .agg #[.int .i64 x0, .int .i64 x1, .int .i64 x2, .int .i64 x3, .int .i64 x4]) :
    (execOp a.eval op).run Tryd.prog w = .ok .skip (((((w.setCell ⟨b, 0, Option.none⟩ (.int .i64 x0)).setCell ⟨b, 1, Option.none⟩ (.int .i64 x1)).setCell ⟨b, 2, Option.none⟩ (.int .i64 x2)).setCell ⟨b, 3, Option.none⟩ (.int .i64 x3)).setCell ⟨b, 4, Option.none⟩ (.int .i64 x4)) := by
  unfold execOp
  simp only [ho, hx, hy, Sem.run_bind]
  go_simp
theorem exec_bodymay {a : Act} {w : World} {op : Oper} (x : Operand) (ho : op.op = .call { callee := .value (.func 25), args := #[x], argTypes := #[34] }) {u : Value} (hx : a.eval x = u) : (execOp a.eval op).run Tryd.prog w = .ok (.enter 25 #[u]) w := by
  unfold execOp
  simp only [ho, resolve, Sem.run_bind, List.map_toArray, List.map_cons, List.map_nil, hx]
  go_simp
end Go.Proofs.YtcakipojmkehgaaDoor
