/- The walk of RecordRows. Conditions: the arguments' bounds, the handle of the type error. -/
import Derived.Test.YtiebpjkppjollaaDoorBrr
namespace Go.Proofs.YtiebpjkppjollaaDoor
open Go Go.RowKit Go.Maps

theorem Ass.imp.up4 (A B C D E F : Ass) : (A.star (B.star (C.star (D.star (E.star F))))).imp (E.star (A.star (B.star (C.star (D.star F))))) := ((Ass.imp.up3 B C D E F).under A).trans (Ass.imp.swap A E _)
theorem Ass.imp.dn4 (A B C D E F : Ass) : (E.star (A.star (B.star (C.star (D.star F))))).imp (A.star (B.star (C.star (D.star (E.star F))))) := (Ass.imp.swap E A _).trans ((Ass.imp.dn3 B C D E F).under A)
theorem At.one {C : Ass} {w0 w : World} (hC : C.Good) (h : At w0 C w) (c : Int) : At w0 ((rowA 3 (.slice (some ⟨w.heap.size, 0, Option.none⟩) 1 1) (vals [c])).star C) (w.alloc (.cells #[.int .i64 c] 3)) :=
  At.add hC h ⟨[w.heap.size], ⟨⟨rfl, .inr ⟨w.heap.size, 1, _, rfl, Nat.zero_le _, heap_alloc_new w _, Nat.le_refl _, by decide, rfl, rfl⟩⟩, by simp [Value.ownBlock]⟩, (Tn.refl _ _).alloc _, fun k hk => .inr (by simp at hk; omega)⟩
abbrev rrA (p : Nat) (T : List ByteArray) (vs vr vp : Value) (ss : List ByteArray) (rs : List Rc) (ps : List Int) : Ass :=
  (rowA 3 vp (vals ps)).star ((rowW 34 11 vr rs.length (rcells rs)).star ((rowA 9 vs (strs' ss)).star ((bookA p 99 T).star emp)))
theorem rrA_good (p : Nat) (T : List ByteArray) (vs vr vp : Value) (ss : List ByteArray) (rs : List Rc) (ps : List Int) : (rrA p T vs vr vp ss rs ps).Good := (rowA_good _ _ _).star ((rowW_good _ _ _ _ _).star ((rowA_good _ _ _).star (good1 _ _ _)))
theorem exec_alloc_rc {a : Act} {w : World} {op : Oper} (ho : op.op = .alloc 34) : (execOp a.eval op).run Tryd.prog w = .ok (.value (.pointer (some ⟨w.heap.size, 0, Option.none⟩))) (w.alloc (.cells Z11 34)) := by
  unfold execOp
  simp only [ho, Sem.run_bind]
  go_simp
theorem exec_store_rc {a : Act} {w : World} {op : Oper} (x y : Operand) (ho : op.op = .store 34 x y) (x0 x1 x2 x3 x4 x5 x6 x7 x8 x9 x10 : Int) (hx : a.eval x = .pointer (some ⟨w.heap.size, 0, Option.none⟩)) (hy : a.eval y = .agg #[.int .i64 x0, .int .i64 x1, .int .i64 x2, .int .i64 x3, .int .i64 x4, .int .i64 x5, .int .i64 x6, .int .i64 x7, .int .i64 x8, .int .i64 x9, .int .i64 x10]) :
    (execOp a.eval op).run Tryd.prog (w.alloc (.cells Z11 34)) = .ok .skip (w.alloc (.cells #[.int .i64 x0, .int .i64 x1, .int .i64 x2, .int .i64 x3, .int .i64 x4, .int .i64 x5, .int .i64 x6, .int .i64 x7, .int .i64 x8, .int .i64 x9, .int .i64 x10] 34)) := by
  unfold execOp
  simp only [ho, hx, hy, Sem.run_bind]
  go_simp
section
variable {P : Program} {ops : Array Oper} {Q : Exit → Act → World → Prop} {S : World → Prop} {fuel : Nat} {listed : Array Bool} {a : Act} {w : World}
/-- Two may come up. -/
theorem held_two (i j : Nat) (hr : Region.ready .any ops listed = [i, j]) (h1 : wpOp P ops Q i (fun a' w' => S w' ∧ wpAnyH P .any ops Q S fuel (listed.setIfInBounds i true) a' w') a w)
    (h2 : wpOp P ops Q j (fun a' w' => S w' ∧ wpAnyH P .any ops Q S fuel (listed.setIfInBounds j true) a' w') a w) : wpAnyH P .any ops Q S (fuel + 1) listed a w := by
  refine wpAnyH_all hr (by simp) (fun k hk => ?_)
  have hk : k = i ∨ k = j := by simpa using hk
  rcases hk with rfl | rfl
  · exact h1
  · exact h2
theorem op_one (i : Nat) (o : Oper) (dst : Option Tmp) (v : Value) (w' : World) (ho : ops[i]? = some o) (hd : o.dst = dst) (hw : Region.wanted o (yielded ops a.tmps) = true)
    (hrun : (execOp a.eval o).run P w = .ok (.value v) w') (hS : S w') (h : wpAnyH P .any ops Q S fuel (listed.setIfInBounds i true) (a.put dst v) w') : wpOp P ops Q i (fun a' w' => S w' ∧ wpAnyH P .any ops Q S fuel (listed.setIfInBounds i true) a' w') a w := by
  subst hd
  refine wpOp_step ho (fun K hK => ?_)
  rw [if_pos hw]
  unfold Oper.wp
  rw [hrun, Oper.upon_value]
  exact hK _ _ ⟨hS, h⟩
theorem op_call (i : Nat) (o : Oper) (dst : Option Tmp) (v : Value) (R : World → Prop) (f : FuncId) (args : Array Value) (ho : ops[i]? = some o) (hd : o.dst = dst) (hw : Region.wanted o (yielded ops a.tmps) = true)
    (hrun : (execOp a.eval o).run P w = .ok (.enter f args) w) (hc : Calls P f args w fun e w' => e = .returned v ∧ R w') (hS : ∀ w', R w' → S w')
    (h : ∀ w', R w' → wpAnyH P .any ops Q S fuel (listed.setIfInBounds i true) (a.put dst v) w') : wpOp P ops Q i (fun a' w' => S w' ∧ wpAnyH P .any ops Q S fuel (listed.setIfInBounds i true) a' w') a w := by
  subst hd
  refine wpOp_step ho (fun K hK => ?_)
  rw [if_pos hw]
  unfold Oper.wp
  rw [hrun, Oper.upon_enter]
  refine hc.mono ?_
  rintro e w' ⟨rfl, hR⟩
  exact hK _ _ ⟨hS w' hR, h w' hR⟩
end
theorem exec_get {a : Act} {w : World} {op : Oper} (x y z t : Operand) (ho : op.op = .call { callee := .value (.func 17), args := #[x, y, z, t], argTypes := #[23, 9, 3, 3] }) {u v r q : Value} (hx : a.eval x = u) (hy : a.eval y = v) (hz : a.eval z = r) (ht : a.eval t = q) : (execOp a.eval op).run Tryd.prog w = .ok (.enter 17 #[u, v, r, q]) w := by
  unfold execOp
  simp only [ho, resolve, Sem.run_bind, List.map_toArray, List.map_cons, List.map_nil, hx, hy, hz, ht]
  go_simp
theorem exec_lnum {a : Act} {w : World} {op : Oper} (x : Operand) (ho : op.op = .call { callee := .value (.func 16), args := #[x], argTypes := #[28] }) {u : Value} (hx : a.eval x = u) : (execOp a.eval op).run Tryd.prog w = .ok (.enter 16 #[u]) w := by
  unfold execOp
  simp only [ho, resolve, Sem.run_bind, List.map_toArray, List.map_cons, List.map_nil, hx]
  go_simp
theorem exec_store_own {a : Act} {w : World} {op : Oper} (x y : Operand) (ho : op.op = .store 34 x y) (b : Nat) (e1 : ∀ i, w.cell? ⟨b, i, Option.none⟩ = Z11[i]?) (f1 : ∀ i, w.frozen? ⟨b, i, Option.none⟩ = false) (_ : b < w.heap.size) (x0 x1 x2 x3 x4 x5 x6 x7 x8 x9 x10 : Int) (hx : a.eval x = .pointer (some ⟨b, 0, Option.none⟩)) (hy : a.eval y = .agg #[.int .i64 x0, .int .i64 x1, .int .i64 x2, .int .i64 x3, .int .i64 x4, .int .i64 x5, .int .i64 x6, .int .i64 x7, .int .i64 x8, .int .i64 x9, .int .i64 x10]) :
    (execOp a.eval op).run Tryd.prog w = .ok .skip (((((((((((w.setCell ⟨b, 0, Option.none⟩ (.int .i64 x0)).setCell ⟨b, 1, Option.none⟩ (.int .i64 x1)).setCell ⟨b, 2, Option.none⟩ (.int .i64 x2)).setCell ⟨b, 3, Option.none⟩ (.int .i64 x3)).setCell ⟨b, 4, Option.none⟩ (.int .i64 x4)).setCell ⟨b, 5, Option.none⟩ (.int .i64 x5)).setCell ⟨b, 6, Option.none⟩ (.int .i64 x6)).setCell ⟨b, 7, Option.none⟩ (.int .i64 x7)).setCell ⟨b, 8, Option.none⟩ (.int .i64 x8)).setCell ⟨b, 9, Option.none⟩ (.int .i64 x9)).setCell ⟨b, 10, Option.none⟩ (.int .i64 x10)) := by
  unfold execOp
  simp only [ho, hx, hy, Sem.run_bind]
  go_simp
theorem At.poke_all {b : Nat} {T : TypeId} {C : Ass} {w0 w : World} (hC : C.Good) (x0 x1 x2 x3 x4 x5 x6 x7 x8 x9 x10 : Int) (h : At w0 ((ownA b Z11 T).star C) w) : At w0 ((ownA b #[.int .i64 x0, .int .i64 x1, .int .i64 x2, .int .i64 x3, .int .i64 x4, .int .i64 x5, .int .i64 x6, .int .i64 x7, .int .i64 x8, .int .i64 x9, .int .i64 x10] T).star C) (((((((((((w.setCell ⟨b, 0, Option.none⟩ (.int .i64 x0)).setCell ⟨b, 1, Option.none⟩ (.int .i64 x1)).setCell ⟨b, 2, Option.none⟩ (.int .i64 x2)).setCell ⟨b, 3, Option.none⟩ (.int .i64 x3)).setCell ⟨b, 4, Option.none⟩ (.int .i64 x4)).setCell ⟨b, 5, Option.none⟩ (.int .i64 x5)).setCell ⟨b, 6, Option.none⟩ (.int .i64 x6)).setCell ⟨b, 7, Option.none⟩ (.int .i64 x7)).setCell ⟨b, 8, Option.none⟩ (.int .i64 x8)).setCell ⟨b, 9, Option.none⟩ (.int .i64 x9)).setCell ⟨b, 10, Option.none⟩ (.int .i64 x10)) := by
  have h1 := ((((((((((h.poke hC 0 (.int .i64 x0)).poke hC 1 (.int .i64 x1)).poke hC 2 (.int .i64 x2)).poke hC 3 (.int .i64 x3)).poke hC 4 (.int .i64 x4)).poke hC 5 (.int .i64 x5)).poke hC 6 (.int .i64 x6)).poke hC 7 (.int .i64 x7)).poke hC 8 (.int .i64 x8)).poke hC 9 (.int .i64 x9)).poke hC 10 (.int .i64 x10)
  simpa only [Z11, List.setIfInBounds_toArray, List.set_cons_zero, List.set_cons_succ] using h1
theorem rr_two {p : Nat} {T : List ByteArray} {gs gr gp sc rc cp : Nat} {ss : List ByteArray} {rs : List Rc} {ps : List Int} {w W : World} {i j : Nat} (h : At w (rrA p T (.slice (some ⟨gs, 0, none⟩) rs.length sc) (.slice (some ⟨gr, 0, none⟩) rs.length rc) (.slice (some ⟨gp, 0, none⟩) (rs.length + 1) cp) ss rs ps) W) (l1 : ss.length = rs.length) (l2 : ps.length = rs.length + 1) (hi : i < rs.length) (hj : j < rs.length + 1) :
    W.cell? ⟨gs, i, none⟩ = some (.string (ss.getD i ⟨#[]⟩)) ∧ W.cell? ⟨gp, j, none⟩ = some (.int .i64 (ps.getD j 0)) := by
  obtain ⟨g1, c1, e1, f1⟩ := h.drop.drop.str (j := i) (by omega)
  obtain ⟨g2, c2, e2, f2⟩ := h.num (j := j) (by omega)
  obtain ⟨rfl, _, _⟩ : gs = g1 ∧ rs.length = ss.length ∧ sc = c1 := by simpa using e1
  obtain ⟨rfl, _, _⟩ : gp = g2 ∧ rs.length + 1 = ps.length ∧ cp = c2 := by simpa using e2
  exact ⟨f1, f2⟩
theorem rr_facts {p b : Nat} {T : List ByteArray} {gs gr gp sc rc cp : Nat} {ss : List ByteArray} {rs : List Rc} {ps : List Int} {c : Array Value} {w W : World} {i : Nat}
    (h : At w ((ownA b c 34).star (rrA p T (.slice (some ⟨gs, 0, none⟩) rs.length sc) (.slice (some ⟨gr, 0, none⟩) rs.length rc) (.slice (some ⟨gp, 0, none⟩) (rs.length + 1) cp) ss rs ps)) W) (l1 : ss.length = rs.length) (l2 : ps.length = rs.length + 1) (hi : i < rs.length) : (∀ k, W.cell? ⟨b, k, none⟩ = c[k]?) ∧ W.cell? ⟨gr, i * 11, none⟩ = some (.int .i64 (rs.getD i Rc.zero).seq) ∧ W.cell? ⟨gr, i * 11 + 1, none⟩ = some (.int .i64 (rs.getD i Rc.zero).boot) ∧ W.cell? ⟨gr, i * 11 + 2, none⟩ = some (.int .i64 (rs.getD i Rc.zero).prev) ∧ W.cell? ⟨gr, i * 11 + 3, none⟩ = some (.int .i64 (rs.getD i Rc.zero).ev.kind) ∧ W.cell? ⟨gr, i * 11 + 4, none⟩ = some (.int .i64 (rs.getD i Rc.zero).ev.user) ∧ W.cell? ⟨gr, i * 11 + 5, none⟩ = some (.int .i64 (rs.getD i Rc.zero).ev.session) ∧ W.cell? ⟨gr, i * 11 + 6, none⟩ = some (.int .i64 (rs.getD i Rc.zero).ev.address) ∧ W.cell? ⟨gr, i * 11 + 7, none⟩ = some (.int .i64 (rs.getD i Rc.zero).ev.a) ∧ W.cell? ⟨gr, i * 11 + 8, none⟩ = some (.int .i64 (rs.getD i Rc.zero).ev.b) ∧ W.cell? ⟨gr, i * 11 + 9, none⟩ = some (.int .i64 (rs.getD i Rc.zero).ev.c) ∧ W.cell? ⟨gr, i * 11 + 10, none⟩ = some (.int .i64 (rs.getD i Rc.zero).ev.tick) ∧ W.cell? ⟨gp, i + 1, none⟩ = some (.int .i64 (ps.getD (i + 1) 0)) := by
  obtain ⟨_, f2⟩ := rr_two h.drop l1 l2 hi (show i + 1 < rs.length + 1 by omega)
  obtain ⟨g1, c1, e1, f1⟩ := h.drop.drop.rec (j := i) hi
  obtain ⟨rfl, _⟩ : gr = g1 ∧ rc = c1 := by simpa using e1
  exact ⟨h.own.1, f1 0 (by decide), f1 1 (by decide), f1 2 (by decide), f1 3 (by decide), f1 4 (by decide), f1 5 (by decide), f1 6 (by decide), f1 7 (by decide), f1 8 (by decide), f1 9 (by decide), f1 10 (by decide), f2⟩
set_option maxRecDepth 100000 in
set_option maxHeartbeats 8000000 in
theorem rrows_walk (ao : Option Addr) (cap : Nat) (es : List Ev) (bo : Option Addr) (bcap : Nat) (bs : List Int) (w : World) (hg : Gd w) (hE : EvIn w ao es) (hB : IArg w bo bs) :
    Calls Tryd.prog 6 #[.slice ao es.length cap, .slice bo bs.length bcap] w fun e w' => e = .returned (.bool true) ∧ Below w.heap.size w w' := by
  have hfew := hE.few
  have hfew2 := hB.few
  have HE := Lib.hid hE
  have HB := Lib.hid hB
  have HG := Lib.hid hg
  have HW := Lib.hid (awake9 w hg)
  clear hE hB hg
  go_enter Tryd.func6, Tryd.ntmps6
  go_wp2_with (first
    | (go_at_call 13; (with_reducible refine (HW.out).mono ?_); rintro e w1 ⟨rfl, hb0⟩; have hS0 := At.none hb0; clear hb0)
    | (go_at_call 21; (with_reducible refine (bnew_ok 99 _ (by omega) (by omega)).mono ?_); rintro e w1 ⟨p, rfl, hb⟩; have hS := At.add emp_good hS0 hb; clear hb hS0)
    | (go_at_call 16; (with_reducible refine (lnum _ _).mono ?_); rintro e w1 ⟨rfl, rfl⟩))
  have hS1 : At w (rrA p [] (.slice none 0 0) (.slice none 0 0) (.slice (some ⟨w1.heap.size, 0, none⟩) 1 1) [] [] [0]) (w1.alloc (.cells #[.int .i64 0] 3)) := At.one ((rowW_good _ _ _ _ _).star ((rowA_good _ _ _).star (good1 _ _ _))) (At.wrow0 34 11 (At.row0 9 hS)) 0
  clear hS
  go_loopw [7, 8, 9, 10] (fun vs vr vp i wr => ∃ (k : Nat) (T ss : List ByteArray) (rs : List Rc) (ps : List Int), k ≤ es.length ∧ k ≤ 20 ∧ i = .int .i64 (k : Int) ∧ rs.length ≤ k ∧ T.length ≤ k ∧ Ch T ss rs ps ∧ At w (rrA p T vs vr vp ss rs ps) wr) (fun _ _ _ i _ => es.length - (intOf i).toNat)
  case atStart => exact ⟨0, [], [], [], [0], Nat.zero_le _, Nat.zero_le _, rfl, Nat.le_refl _, Nat.le_refl _, Ch.start _, hS1⟩
  case round =>
    clear hS1
    obtain ⟨k, T, ss, rs, ps, hk, hk20, rfl, hrs, hT, hch, hS⟩ := hrel
    have hgo : (k < es.length ∧ k < 20) ∨ (¬ k < es.length ∨ ¬ k < 20) := by omega
    rcases hgo with ⟨hlt, h20⟩ | hend
    · obtain ⟨be, oe, rfl, hC⟩ := HE.out.at hlt
      have l1 := hch.l1
      have l2 := hch.l2
      obtain ⟨y, hy⟩ : ∃ y, es.getD k Ev.zero = y := ⟨_, rfl⟩
      rw [hy] at hC
      obtain ⟨gp, cp, rfl, hcp⟩ := hS.num (j := rs.length) (by omega)
      obtain ⟨ro, rc, rfl⟩ := rowW_shape hS.drop.wrow
      obtain ⟨so, sc, rfl⟩ := rowI_shape' hS.drop.drop.row
      rw [show (strs' ss).length = rs.length by rw [List.length_map]; exact l1, l2] at hS ⊢
      have hboot : ∃ B : Int, (k < bs.length ∧ ∃ bb ob z, bo = some ⟨bb, ob, none⟩ ∧ (∀ W, Below w.heap.size w W → W.cell? ⟨bb, ob + k, none⟩ = some (.int .i64 z)) ∧ bits .and .i64 z 7 = B ∧ 0 ≤ B ∧ B ≤ 7) ∨ (¬ k < bs.length ∧ B = 0) := by
        by_cases hkb : k < bs.length
        · obtain ⟨bb, ob, z, e1, _, _, hz⟩ := HB.out.at hkb
          have hm := i64_mask z 3 (by omega)
          rw [show ((2 ^ 3 - 1 : Nat) : Int) = 7 from by decide, show ((2 ^ 3 : Nat) : Int) = 8 from by decide] at hm
          exact ⟨z % 8, .inl ⟨hkb, bb, ob, z, e1, hz, hm, by omega, by omega⟩⟩
        · exact ⟨0, .inr ⟨hkb, rfl⟩⟩
      obtain ⟨B, hBB⟩ := hboot
      obtain ⟨P, hP⟩ : ∃ P, ps.getD rs.length 0 = P := ⟨_, rfl⟩
      rw [hP] at hcp
      have hF : ∀ W, Below wr.heap.size wr W → W.cell? ⟨gp, rs.length, none⟩ = some (.int .i64 P) := fun W hb => by
        obtain ⟨g2, c2, e2, f2⟩ := (hS.lay (rrA_good _ _ _ _ _ _ _ _) hb).num (j := rs.length) (by omega)
        obtain ⟨rfl, _, rfl⟩ : gp = g2 ∧ rs.length + 1 = ps.length ∧ cp = c2 := by simpa using e2
        rw [hP] at f2; exact f2
      have HF := Lib.hid hF
      have HC := Lib.hid hC
      obtain ⟨q0, q1, q2, q3, q4, q5, q6, q7⟩ := hC _ hS.bel
      clear hF hC
      have HBel := Lib.hid hS.bel
      have hw1 : IntKind.i64.wrap ((rs.length : Int) + 1) = (rs.length : Int) + 1 := by rw [IntKind.wrap_i64]; omega
      have hw2 : IntKind.i64.wrap (rs.length : Int) = (rs.length : Int) := by rw [IntKind.wrap_i64]; omega
      have hw3 : (rs.length : Int) < (rs.length : Int) + 1 := by omega
      rcases hBB with ⟨hkb, bb, ob, z, rfl, hz, hm, b0, b7⟩ | ⟨hkb, rfl⟩
      · have hz1 := hz _ hS.bel
        clear hz
        go_wp2
        have hX := hS.lay (rrA_good _ _ _ _ _ _ _ _) (bdrew wr)
        refine region_held (S := fun W => Below wr.heap.size wr W) 17 [false, false, false, false, false, false, false, false, false, false, false, false, false, false, false, false, false] rfl rfl (by kernel_rfl) fun W hW => ?_
        have hSW : Below wr.heap.size wr W := by subst hW; exact bdrew wr
        have hXW := hX
        rw [← hW] at hXW
        clear hX hW
        refine held_take 0 ra0 (some 55) ?_ rfl rfl (by kernel_rfl) (by kernel_rfl) (by kernel_rfl) (fun _ _ _ h => h) (Or.inl ⟨by rfl, ?_⟩) hSW ?_
        rotate_left
        · intro w0 hy0; have y0 := HF.out w0 hy0; obtain ⟨z0, z1, z2, z3, z4, z5, z6, z7⟩ := HC.out w0 (HBel.out.trans (hy0.mono HBel.out.size)); (go_simp <;> with_reducible rfl)
        simp only [Act.put, List.setIfInBounds_toArray, List.set_cons_zero, List.set_cons_succ]
        refine held_take 1 ra1 (some 56) ?_ rfl rfl (by kernel_rfl) (by kernel_rfl) (by kernel_rfl) (fun _ _ _ h => h) (Or.inl ⟨by rfl, ?_⟩) hSW ?_
        rotate_left
        · intro w0 hy0; have y0 := HF.out w0 hy0; obtain ⟨z0, z1, z2, z3, z4, z5, z6, z7⟩ := HC.out w0 (HBel.out.trans (hy0.mono HBel.out.size)); (go_simp <;> with_reducible rfl)
        simp only [Act.put, List.setIfInBounds_toArray, List.set_cons_zero, List.set_cons_succ]
        refine held_take 2 ra2 (some 57) ?_ rfl rfl (by kernel_rfl) (by kernel_rfl) (by kernel_rfl) (fun _ _ _ h => h) (Or.inl ⟨by rfl, ?_⟩) hSW ?_
        rotate_left
        · intro w0 hy0; have y0 := HF.out w0 hy0; obtain ⟨z0, z1, z2, z3, z4, z5, z6, z7⟩ := HC.out w0 (HBel.out.trans (hy0.mono HBel.out.size)); (go_simp <;> with_reducible rfl)
        simp only [Act.put, List.setIfInBounds_toArray, List.set_cons_zero, List.set_cons_succ]
        refine held_take 3 ra3 (some 58) ?_ rfl rfl (by kernel_rfl) (by kernel_rfl) (by kernel_rfl) (fun _ _ _ h => h) (Or.inl ⟨by rfl, ?_⟩) hSW ?_
        rotate_left
        · intro w0 hy0; have y0 := HF.out w0 hy0; obtain ⟨z0, z1, z2, z3, z4, z5, z6, z7⟩ := HC.out w0 (HBel.out.trans (hy0.mono HBel.out.size)); (go_simp <;> with_reducible rfl)
        simp only [Act.put, List.setIfInBounds_toArray, List.set_cons_zero, List.set_cons_succ]
        refine held_take 4 ra4 (some 59) ?_ rfl rfl (by kernel_rfl) (by kernel_rfl) (by kernel_rfl) (fun _ _ _ h => h) (Or.inl ⟨by rfl, ?_⟩) hSW ?_
        rotate_left
        · intro w0 hy0; have y0 := HF.out w0 hy0; obtain ⟨z0, z1, z2, z3, z4, z5, z6, z7⟩ := HC.out w0 (HBel.out.trans (hy0.mono HBel.out.size)); (go_simp <;> with_reducible rfl)
        simp only [Act.put, List.setIfInBounds_toArray, List.set_cons_zero, List.set_cons_succ]
        refine held_take 5 ra5 (some 60) ?_ rfl rfl (by kernel_rfl) (by kernel_rfl) (by kernel_rfl) (fun _ _ _ h => h) (Or.inl ⟨by rfl, ?_⟩) hSW ?_
        rotate_left
        · intro w0 hy0; have y0 := HF.out w0 hy0; obtain ⟨z0, z1, z2, z3, z4, z5, z6, z7⟩ := HC.out w0 (HBel.out.trans (hy0.mono HBel.out.size)); (go_simp <;> with_reducible rfl)
        simp only [Act.put, List.setIfInBounds_toArray, List.set_cons_zero, List.set_cons_succ]
        refine held_take 6 ra6 (some 61) ?_ rfl rfl (by kernel_rfl) (by kernel_rfl) (by kernel_rfl) (fun _ _ _ h => h) (Or.inl ⟨by rfl, ?_⟩) hSW ?_
        rotate_left
        · intro w0 hy0; have y0 := HF.out w0 hy0; obtain ⟨z0, z1, z2, z3, z4, z5, z6, z7⟩ := HC.out w0 (HBel.out.trans (hy0.mono HBel.out.size)); (go_simp <;> with_reducible rfl)
        simp only [Act.put, List.setIfInBounds_toArray, List.set_cons_zero, List.set_cons_succ]
        refine held_take 7 ra7 (some 62) ?_ rfl rfl (by kernel_rfl) (by kernel_rfl) (by kernel_rfl) (fun _ _ _ h => h) (Or.inl ⟨by rfl, ?_⟩) hSW ?_
        rotate_left
        · intro w0 hy0; have y0 := HF.out w0 hy0; obtain ⟨z0, z1, z2, z3, z4, z5, z6, z7⟩ := HC.out w0 (HBel.out.trans (hy0.mono HBel.out.size)); (go_simp <;> with_reducible rfl)
        simp only [Act.put, List.setIfInBounds_toArray, List.set_cons_zero, List.set_cons_succ]
        refine held_take 8 ra8 (some 63) ?_ rfl rfl (by kernel_rfl) (by kernel_rfl) (by kernel_rfl) (fun _ _ _ h => h) (Or.inl ⟨by rfl, ?_⟩) hSW ?_
        rotate_left
        · intro w0 hy0; have y0 := HF.out w0 hy0; obtain ⟨z0, z1, z2, z3, z4, z5, z6, z7⟩ := HC.out w0 (HBel.out.trans (hy0.mono HBel.out.size)); (go_simp <;> with_reducible rfl)
        simp only [Act.put, List.setIfInBounds_toArray, List.set_cons_zero, List.set_cons_succ]
        refine held_take 9 ra9 (some 64) ?_ rfl rfl (by kernel_rfl) (by kernel_rfl) (by kernel_rfl) (fun _ _ _ h => h) (Or.inl ⟨by rfl, ?_⟩) hSW ?_
        rotate_left
        · intro w0 hy0; have y0 := HF.out w0 hy0; obtain ⟨z0, z1, z2, z3, z4, z5, z6, z7⟩ := HC.out w0 (HBel.out.trans (hy0.mono HBel.out.size)); (go_simp <;> with_reducible rfl)
        simp only [Act.put, List.setIfInBounds_toArray, List.set_cons_zero, List.set_cons_succ]
        refine held_take 10 ra10 (some 65) ?_ rfl rfl (by kernel_rfl) (by kernel_rfl) (by kernel_rfl) (fun _ _ _ h => h) (Or.inl ⟨by rfl, ?_⟩) hSW ?_
        rotate_left
        · intro w0 hy0; have y0 := HF.out w0 hy0; obtain ⟨z0, z1, z2, z3, z4, z5, z6, z7⟩ := HC.out w0 (HBel.out.trans (hy0.mono HBel.out.size)); (go_simp <;> with_reducible rfl)
        simp only [Act.put, List.setIfInBounds_toArray, List.set_cons_zero, List.set_cons_succ]
        refine held_take 11 ra11 (some 66) ?_ rfl rfl (by kernel_rfl) (by kernel_rfl) (by kernel_rfl) (fun _ _ _ h => h) (Or.inl ⟨by rfl, ?_⟩) hSW ?_
        rotate_left
        · intro w0 hy0; have y0 := HF.out w0 hy0; obtain ⟨z0, z1, z2, z3, z4, z5, z6, z7⟩ := HC.out w0 (HBel.out.trans (hy0.mono HBel.out.size)); (go_simp <;> with_reducible rfl)
        simp only [Act.put, List.setIfInBounds_toArray, List.set_cons_zero, List.set_cons_succ]
        refine held_take 12 ra12 (some 67) ?_ rfl rfl (by kernel_rfl) (by kernel_rfl) (by kernel_rfl) (fun _ _ _ h => h) (Or.inl ⟨by rfl, ?_⟩) hSW ?_
        rotate_left
        · intro w0 hy0; have y0 := HF.out w0 hy0; obtain ⟨z0, z1, z2, z3, z4, z5, z6, z7⟩ := HC.out w0 (HBel.out.trans (hy0.mono HBel.out.size)); (go_simp <;> with_reducible rfl)
        simp only [Act.put, List.setIfInBounds_toArray, List.set_cons_zero, List.set_cons_succ]
        refine held_take 13 ra13 (some 68) ?_ rfl rfl (by kernel_rfl) (by kernel_rfl) (by kernel_rfl) (fun _ _ _ h => h) (Or.inl ⟨by rfl, ?_⟩) hSW ?_
        rotate_left
        · intro w0 hy0; have y0 := HF.out w0 hy0; obtain ⟨z0, z1, z2, z3, z4, z5, z6, z7⟩ := HC.out w0 (HBel.out.trans (hy0.mono HBel.out.size)); (go_simp <;> with_reducible rfl)
        simp only [Act.put, List.setIfInBounds_toArray, List.set_cons_zero, List.set_cons_succ]
        refine held_take 14 ra14 (some 69) ?_ rfl rfl (by kernel_rfl) (by kernel_rfl) (by kernel_rfl) (fun _ _ _ h => h) (Or.inl ⟨by rfl, ?_⟩) hSW ?_
        rotate_left
        · intro w0 hy0; have y0 := HF.out w0 hy0; obtain ⟨z0, z1, z2, z3, z4, z5, z6, z7⟩ := HC.out w0 (HBel.out.trans (hy0.mono HBel.out.size)); (go_simp <;> with_reducible rfl)
        simp only [Act.put, List.setIfInBounds_toArray, List.set_cons_zero, List.set_cons_succ]
        have hS2 : Below wr.heap.size wr (W.alloc (.cells Z11 34)) := hSW.alloc hSW.size _
        have hS3 : Below wr.heap.size wr (W.alloc (.cells #[.int .i64 ((rs.length : Int) + 1), .int .i64 (1 + B), .int .i64 P, .int .i64 y.kind, .int .i64 y.user, .int .i64 y.session, .int .i64 y.address, .int .i64 y.a, .int .i64 y.b, .int .i64 y.c, .int .i64 y.tick] 34)) := hSW.alloc hSW.size _
        refine held_one 15 ra15 (some 12) (.pointer (some ⟨W.heap.size, 0, none⟩)) _ (by kernel_rfl) rfl rfl (by rfl) (exec_alloc_rc rfl) hS2 ?_
        simp only [Act.put, List.setIfInBounds_toArray, List.set_cons_zero, List.set_cons_succ]
        refine held_void 16 ra16 _ (by kernel_rfl) rfl (by rfl) (exec_store_rc (.tmp 12) (.tmp 69) rfl ((rs.length : Int) + 1) (1 + B) P y.kind y.user y.session y.address y.a y.b y.c y.tick rfl rfl) hS3 ?_
        simp only [Act.put, List.setIfInBounds_toArray, List.set_cons_zero, List.set_cons_succ]
        refine wpAnyH_done (by kernel_rfl) ?_ _
        have hY := hXW.hold (rrA_good _ _ _ _ _ _ _ _) #[.int .i64 ((rs.length : Int) + 1), .int .i64 (1 + B), .int .i64 P, .int .i64 y.kind, .int .i64 y.user, .int .i64 y.session, .int .i64 y.address, .int .i64 y.a, .int .i64 y.b, .int .i64 y.c, .int .i64 y.tick] 34
        obtain ⟨e1, f1, g1⟩ := hY.own
        clear hS2 hS3 hXW hSW HF HC HBel hS q0 q1 q2 q3 q4 q5 q6 q7
        obtain ⟨r, hr⟩ : ∃ r : Rc, r = ⟨(rs.length : Int) + 1, 1 + B, P, y⟩ := ⟨_, rfl⟩
        have hcs : #[.int .i64 ((rs.length : Int) + 1), .int .i64 (1 + B), .int .i64 P, .int .i64 y.kind, .int .i64 y.user, .int .i64 y.session, .int .i64 y.address, .int .i64 y.a, .int .i64 y.b, .int .i64 y.c, .int .i64 y.tick] = r.cs.toArray := by subst hr; rfl
        have hval : r.val = .agg #[.int .i64 ((rs.length : Int) + 1), .int .i64 (1 + B), .int .i64 P, .int .i64 y.kind, .int .i64 y.user, .int .i64 y.session, .int .i64 y.address, .int .i64 y.a, .int .i64 y.b, .int .i64 y.c, .int .i64 y.tick] := by subst hr; rfl
        have hT2 := rcT_len (most := 99) (ts := T) r
        have HP := dpput p 99 T r (by omega)
        rw [hval] at HP
        have HCS := Lib.hid hcs
        have HR := Lib.hid hr
        have hP' := Lib.hid hP
        clear hcs hval hr hP
        by_cases he : rcE 99 T r = 0
        · have hpush := hch.push (most := 99) (r := r) (by rw [HR.out]) (by rw [HR.out]; exact hP'.out.symm) he
          rw [he] at HP
          generalize rcS 99 T r = SE at *
          generalize rcN 99 T r = N at *
          generalize rcT 99 T r = T2 at *
          have HP := Lib.hid HP
          go_wp2_with (first
            | (go_at_call 14; (with_reducible refine (At.opG HP.out (Ass.imp.up4 _ _ _ _ _ _) (Ass.imp.dn4 _ _ _ _ _ _) ((ownA_good _ _ _).star ((rowA_good _ _ _).star ((rowW_good _ _ _ _ _).star ((rowA_good _ _ _).star emp_good)))) HG.out hY).mono ?_); rintro e w2 ⟨rfl, hY1⟩; replace hY := hY1; clear hY1; obtain ⟨e1, f1, g1⟩ := hY.own)
            | (go_at_call 16; (with_reducible refine (lnum _ _).mono ?_); rintro e w1 ⟨rfl, rfl⟩)
            | (at_builtin; refine app_str ((ownA_good _ _ _).star ((rowA_good _ _ _).star ((rowW_good _ _ _ _ _).star (good1 _ _ _)))) rfl _ _ rfl _ ss SE rfl rfl (hY.imp (Ass.imp.up3 _ _ _ _ _)) (by omega) ?_; intro v1 w3 hS4; have hY2 := hS4.imp (Ass.imp.dn3 _ _ _ _ _); obtain ⟨e1, f1, g1⟩ := hY2.own)
            | (at_builtin; rw [HCS.out]; refine app_rec ((ownA_good _ _ _).star ((rowA_good _ _ _).star ((rowA_good _ _ _).star (good1 _ _ _)))) rfl _ _ rfl _ rs r rfl rfl (hY2.imp (Ass.imp.up2 _ _ _ _)) (by omega) ?_; intro v2 w4 hS5; have hY3 := (hS5.imp (Ass.imp.dn2 _ _ _ _)).drop)
            | (at_builtin; refine app_int ((rowW_good _ _ _ _ _).star ((rowA_good _ _ _).star (good1 _ _ _))) rfl _ _ rfl _ ps N rfl rfl hY3 (by omega) ?_; intro v3 w5 hS6))
          clear HP HG HW
          go_roundw
          case rel => exact ⟨k + 1, T2, ss ++ [SE], rs ++ [r], ps ++ [N], by omega, by omega, by go_num, by simp; omega, by omega, hpush, hS6⟩
          case measure => simp [intOf]; omega
        · have hkeep := hch.keep 99 r
          rw [(put_no he).1, (put_no he).2.1, (put_no he).2.2] at HP
          generalize rcT 99 T r = T2 at *
          have HP := Lib.hid HP
          go_wp2_with (first
            | (go_at_call 14; (with_reducible refine (At.opG HP.out (Ass.imp.up4 _ _ _ _ _ _) (Ass.imp.dn4 _ _ _ _ _ _) ((ownA_good _ _ _).star ((rowA_good _ _ _).star ((rowW_good _ _ _ _ _).star ((rowA_good _ _ _).star emp_good)))) HG.out hY).mono ?_); rintro e w2 ⟨rfl, hY1⟩; replace hY := hY1; clear hY1)
            | (go_at_call 16; (with_reducible refine (lnum _ _).mono ?_); rintro e w1 ⟨rfl, rfl⟩))
          clear HP HG HW
          go_roundw
          case rel => exact ⟨k + 1, T2, ss, rs, ps, by omega, by omega, by go_num, by omega, by omega, hkeep, hY.drop⟩
          case measure => simp [intOf]; omega
      · skip
        go_wp2
        have hX := hS.lay (rrA_good _ _ _ _ _ _ _ _) (bdrew wr)
        refine region_held (S := fun W => Below wr.heap.size wr W) 17 [false, false, false, false, false, false, false, false, false, false, false, false, false, false, false, false, false] rfl rfl (by kernel_rfl) fun W hW => ?_
        have hSW : Below wr.heap.size wr W := by subst hW; exact bdrew wr
        have hXW := hX
        rw [← hW] at hXW
        clear hX hW
        refine held_take 0 ra0 (some 55) ?_ rfl rfl (by kernel_rfl) (by kernel_rfl) (by kernel_rfl) (fun _ _ _ h => h) (Or.inl ⟨by rfl, ?_⟩) hSW ?_
        rotate_left
        · intro w0 hy0; have y0 := HF.out w0 hy0; obtain ⟨z0, z1, z2, z3, z4, z5, z6, z7⟩ := HC.out w0 (HBel.out.trans (hy0.mono HBel.out.size)); (go_simp <;> with_reducible rfl)
        simp only [Act.put, List.setIfInBounds_toArray, List.set_cons_zero, List.set_cons_succ]
        refine held_take 1 ra1 (some 56) ?_ rfl rfl (by kernel_rfl) (by kernel_rfl) (by kernel_rfl) (fun _ _ _ h => h) (Or.inl ⟨by rfl, ?_⟩) hSW ?_
        rotate_left
        · intro w0 hy0; have y0 := HF.out w0 hy0; obtain ⟨z0, z1, z2, z3, z4, z5, z6, z7⟩ := HC.out w0 (HBel.out.trans (hy0.mono HBel.out.size)); (go_simp <;> with_reducible rfl)
        simp only [Act.put, List.setIfInBounds_toArray, List.set_cons_zero, List.set_cons_succ]
        refine held_take 2 ra2 (some 57) ?_ rfl rfl (by kernel_rfl) (by kernel_rfl) (by kernel_rfl) (fun _ _ _ h => h) (Or.inl ⟨by rfl, ?_⟩) hSW ?_
        rotate_left
        · intro w0 hy0; have y0 := HF.out w0 hy0; obtain ⟨z0, z1, z2, z3, z4, z5, z6, z7⟩ := HC.out w0 (HBel.out.trans (hy0.mono HBel.out.size)); (go_simp <;> with_reducible rfl)
        simp only [Act.put, List.setIfInBounds_toArray, List.set_cons_zero, List.set_cons_succ]
        refine held_take 3 ra3 (some 58) ?_ rfl rfl (by kernel_rfl) (by kernel_rfl) (by kernel_rfl) (fun _ _ _ h => h) (Or.inl ⟨by rfl, ?_⟩) hSW ?_
        rotate_left
        · intro w0 hy0; have y0 := HF.out w0 hy0; obtain ⟨z0, z1, z2, z3, z4, z5, z6, z7⟩ := HC.out w0 (HBel.out.trans (hy0.mono HBel.out.size)); (go_simp <;> with_reducible rfl)
        simp only [Act.put, List.setIfInBounds_toArray, List.set_cons_zero, List.set_cons_succ]
        refine held_take 4 ra4 (some 59) ?_ rfl rfl (by kernel_rfl) (by kernel_rfl) (by kernel_rfl) (fun _ _ _ h => h) (Or.inl ⟨by rfl, ?_⟩) hSW ?_
        rotate_left
        · intro w0 hy0; have y0 := HF.out w0 hy0; obtain ⟨z0, z1, z2, z3, z4, z5, z6, z7⟩ := HC.out w0 (HBel.out.trans (hy0.mono HBel.out.size)); (go_simp <;> with_reducible rfl)
        simp only [Act.put, List.setIfInBounds_toArray, List.set_cons_zero, List.set_cons_succ]
        refine held_take 5 ra5 (some 60) ?_ rfl rfl (by kernel_rfl) (by kernel_rfl) (by kernel_rfl) (fun _ _ _ h => h) (Or.inl ⟨by rfl, ?_⟩) hSW ?_
        rotate_left
        · intro w0 hy0; have y0 := HF.out w0 hy0; obtain ⟨z0, z1, z2, z3, z4, z5, z6, z7⟩ := HC.out w0 (HBel.out.trans (hy0.mono HBel.out.size)); (go_simp <;> with_reducible rfl)
        simp only [Act.put, List.setIfInBounds_toArray, List.set_cons_zero, List.set_cons_succ]
        refine held_take 6 ra6 (some 61) ?_ rfl rfl (by kernel_rfl) (by kernel_rfl) (by kernel_rfl) (fun _ _ _ h => h) (Or.inl ⟨by rfl, ?_⟩) hSW ?_
        rotate_left
        · intro w0 hy0; have y0 := HF.out w0 hy0; obtain ⟨z0, z1, z2, z3, z4, z5, z6, z7⟩ := HC.out w0 (HBel.out.trans (hy0.mono HBel.out.size)); (go_simp <;> with_reducible rfl)
        simp only [Act.put, List.setIfInBounds_toArray, List.set_cons_zero, List.set_cons_succ]
        refine held_take 7 ra7 (some 62) ?_ rfl rfl (by kernel_rfl) (by kernel_rfl) (by kernel_rfl) (fun _ _ _ h => h) (Or.inl ⟨by rfl, ?_⟩) hSW ?_
        rotate_left
        · intro w0 hy0; have y0 := HF.out w0 hy0; obtain ⟨z0, z1, z2, z3, z4, z5, z6, z7⟩ := HC.out w0 (HBel.out.trans (hy0.mono HBel.out.size)); (go_simp <;> with_reducible rfl)
        simp only [Act.put, List.setIfInBounds_toArray, List.set_cons_zero, List.set_cons_succ]
        refine held_take 8 ra8 (some 63) ?_ rfl rfl (by kernel_rfl) (by kernel_rfl) (by kernel_rfl) (fun _ _ _ h => h) (Or.inl ⟨by rfl, ?_⟩) hSW ?_
        rotate_left
        · intro w0 hy0; have y0 := HF.out w0 hy0; obtain ⟨z0, z1, z2, z3, z4, z5, z6, z7⟩ := HC.out w0 (HBel.out.trans (hy0.mono HBel.out.size)); (go_simp <;> with_reducible rfl)
        simp only [Act.put, List.setIfInBounds_toArray, List.set_cons_zero, List.set_cons_succ]
        refine held_take 9 ra9 (some 64) ?_ rfl rfl (by kernel_rfl) (by kernel_rfl) (by kernel_rfl) (fun _ _ _ h => h) (Or.inl ⟨by rfl, ?_⟩) hSW ?_
        rotate_left
        · intro w0 hy0; have y0 := HF.out w0 hy0; obtain ⟨z0, z1, z2, z3, z4, z5, z6, z7⟩ := HC.out w0 (HBel.out.trans (hy0.mono HBel.out.size)); (go_simp <;> with_reducible rfl)
        simp only [Act.put, List.setIfInBounds_toArray, List.set_cons_zero, List.set_cons_succ]
        refine held_take 10 ra10 (some 65) ?_ rfl rfl (by kernel_rfl) (by kernel_rfl) (by kernel_rfl) (fun _ _ _ h => h) (Or.inl ⟨by rfl, ?_⟩) hSW ?_
        rotate_left
        · intro w0 hy0; have y0 := HF.out w0 hy0; obtain ⟨z0, z1, z2, z3, z4, z5, z6, z7⟩ := HC.out w0 (HBel.out.trans (hy0.mono HBel.out.size)); (go_simp <;> with_reducible rfl)
        simp only [Act.put, List.setIfInBounds_toArray, List.set_cons_zero, List.set_cons_succ]
        refine held_take 11 ra11 (some 66) ?_ rfl rfl (by kernel_rfl) (by kernel_rfl) (by kernel_rfl) (fun _ _ _ h => h) (Or.inl ⟨by rfl, ?_⟩) hSW ?_
        rotate_left
        · intro w0 hy0; have y0 := HF.out w0 hy0; obtain ⟨z0, z1, z2, z3, z4, z5, z6, z7⟩ := HC.out w0 (HBel.out.trans (hy0.mono HBel.out.size)); (go_simp <;> with_reducible rfl)
        simp only [Act.put, List.setIfInBounds_toArray, List.set_cons_zero, List.set_cons_succ]
        refine held_take 12 ra12 (some 67) ?_ rfl rfl (by kernel_rfl) (by kernel_rfl) (by kernel_rfl) (fun _ _ _ h => h) (Or.inl ⟨by rfl, ?_⟩) hSW ?_
        rotate_left
        · intro w0 hy0; have y0 := HF.out w0 hy0; obtain ⟨z0, z1, z2, z3, z4, z5, z6, z7⟩ := HC.out w0 (HBel.out.trans (hy0.mono HBel.out.size)); (go_simp <;> with_reducible rfl)
        simp only [Act.put, List.setIfInBounds_toArray, List.set_cons_zero, List.set_cons_succ]
        refine held_take 13 ra13 (some 68) ?_ rfl rfl (by kernel_rfl) (by kernel_rfl) (by kernel_rfl) (fun _ _ _ h => h) (Or.inl ⟨by rfl, ?_⟩) hSW ?_
        rotate_left
        · intro w0 hy0; have y0 := HF.out w0 hy0; obtain ⟨z0, z1, z2, z3, z4, z5, z6, z7⟩ := HC.out w0 (HBel.out.trans (hy0.mono HBel.out.size)); (go_simp <;> with_reducible rfl)
        simp only [Act.put, List.setIfInBounds_toArray, List.set_cons_zero, List.set_cons_succ]
        refine held_take 14 ra14 (some 69) ?_ rfl rfl (by kernel_rfl) (by kernel_rfl) (by kernel_rfl) (fun _ _ _ h => h) (Or.inl ⟨by rfl, ?_⟩) hSW ?_
        rotate_left
        · intro w0 hy0; have y0 := HF.out w0 hy0; obtain ⟨z0, z1, z2, z3, z4, z5, z6, z7⟩ := HC.out w0 (HBel.out.trans (hy0.mono HBel.out.size)); (go_simp <;> with_reducible rfl)
        simp only [Act.put, List.setIfInBounds_toArray, List.set_cons_zero, List.set_cons_succ]
        have hS2 : Below wr.heap.size wr (W.alloc (.cells Z11 34)) := hSW.alloc hSW.size _
        have hS3 : Below wr.heap.size wr (W.alloc (.cells #[.int .i64 ((rs.length : Int) + 1), .int .i64 (1), .int .i64 P, .int .i64 y.kind, .int .i64 y.user, .int .i64 y.session, .int .i64 y.address, .int .i64 y.a, .int .i64 y.b, .int .i64 y.c, .int .i64 y.tick] 34)) := hSW.alloc hSW.size _
        refine held_one 15 ra15 (some 12) (.pointer (some ⟨W.heap.size, 0, none⟩)) _ (by kernel_rfl) rfl rfl (by rfl) (exec_alloc_rc rfl) hS2 ?_
        simp only [Act.put, List.setIfInBounds_toArray, List.set_cons_zero, List.set_cons_succ]
        refine held_void 16 ra16 _ (by kernel_rfl) rfl (by rfl) (exec_store_rc (.tmp 12) (.tmp 69) rfl ((rs.length : Int) + 1) (1) P y.kind y.user y.session y.address y.a y.b y.c y.tick rfl rfl) hS3 ?_
        simp only [Act.put, List.setIfInBounds_toArray, List.set_cons_zero, List.set_cons_succ]
        refine wpAnyH_done (by kernel_rfl) ?_ _
        have hY := hXW.hold (rrA_good _ _ _ _ _ _ _ _) #[.int .i64 ((rs.length : Int) + 1), .int .i64 (1), .int .i64 P, .int .i64 y.kind, .int .i64 y.user, .int .i64 y.session, .int .i64 y.address, .int .i64 y.a, .int .i64 y.b, .int .i64 y.c, .int .i64 y.tick] 34
        obtain ⟨e1, f1, g1⟩ := hY.own
        clear hS2 hS3 hXW hSW HF HC HBel hS q0 q1 q2 q3 q4 q5 q6 q7
        obtain ⟨r, hr⟩ : ∃ r : Rc, r = ⟨(rs.length : Int) + 1, 1, P, y⟩ := ⟨_, rfl⟩
        have hcs : #[.int .i64 ((rs.length : Int) + 1), .int .i64 (1), .int .i64 P, .int .i64 y.kind, .int .i64 y.user, .int .i64 y.session, .int .i64 y.address, .int .i64 y.a, .int .i64 y.b, .int .i64 y.c, .int .i64 y.tick] = r.cs.toArray := by subst hr; rfl
        have hval : r.val = .agg #[.int .i64 ((rs.length : Int) + 1), .int .i64 (1), .int .i64 P, .int .i64 y.kind, .int .i64 y.user, .int .i64 y.session, .int .i64 y.address, .int .i64 y.a, .int .i64 y.b, .int .i64 y.c, .int .i64 y.tick] := by subst hr; rfl
        have hT2 := rcT_len (most := 99) (ts := T) r
        have HP := dpput p 99 T r (by omega)
        rw [hval] at HP
        have HCS := Lib.hid hcs
        have HR := Lib.hid hr
        have hP' := Lib.hid hP
        clear hcs hval hr hP
        by_cases he : rcE 99 T r = 0
        · have hpush := hch.push (most := 99) (r := r) (by rw [HR.out]) (by rw [HR.out]; exact hP'.out.symm) he
          rw [he] at HP
          generalize rcS 99 T r = SE at *
          generalize rcN 99 T r = N at *
          generalize rcT 99 T r = T2 at *
          have HP := Lib.hid HP
          go_wp2_with (first
            | (go_at_call 14; (with_reducible refine (At.opG HP.out (Ass.imp.up4 _ _ _ _ _ _) (Ass.imp.dn4 _ _ _ _ _ _) ((ownA_good _ _ _).star ((rowA_good _ _ _).star ((rowW_good _ _ _ _ _).star ((rowA_good _ _ _).star emp_good)))) HG.out hY).mono ?_); rintro e w2 ⟨rfl, hY1⟩; replace hY := hY1; clear hY1; obtain ⟨e1, f1, g1⟩ := hY.own)
            | (go_at_call 16; (with_reducible refine (lnum _ _).mono ?_); rintro e w1 ⟨rfl, rfl⟩)
            | (at_builtin; refine app_str ((ownA_good _ _ _).star ((rowA_good _ _ _).star ((rowW_good _ _ _ _ _).star (good1 _ _ _)))) rfl _ _ rfl _ ss SE rfl rfl (hY.imp (Ass.imp.up3 _ _ _ _ _)) (by omega) ?_; intro v1 w3 hS4; have hY2 := hS4.imp (Ass.imp.dn3 _ _ _ _ _); obtain ⟨e1, f1, g1⟩ := hY2.own)
            | (at_builtin; rw [HCS.out]; refine app_rec ((ownA_good _ _ _).star ((rowA_good _ _ _).star ((rowA_good _ _ _).star (good1 _ _ _)))) rfl _ _ rfl _ rs r rfl rfl (hY2.imp (Ass.imp.up2 _ _ _ _)) (by omega) ?_; intro v2 w4 hS5; have hY3 := (hS5.imp (Ass.imp.dn2 _ _ _ _)).drop)
            | (at_builtin; refine app_int ((rowW_good _ _ _ _ _).star ((rowA_good _ _ _).star (good1 _ _ _))) rfl _ _ rfl _ ps N rfl rfl hY3 (by omega) ?_; intro v3 w5 hS6))
          clear HP HG HW
          go_roundw
          case rel => exact ⟨k + 1, T2, ss ++ [SE], rs ++ [r], ps ++ [N], by omega, by omega, by go_num, by simp; omega, by omega, hpush, hS6⟩
          case measure => simp [intOf]; omega
        · have hkeep := hch.keep 99 r
          rw [(put_no he).1, (put_no he).2.1, (put_no he).2.2] at HP
          generalize rcT 99 T r = T2 at *
          have HP := Lib.hid HP
          go_wp2_with (first
            | (go_at_call 14; (with_reducible refine (At.opG HP.out (Ass.imp.up4 _ _ _ _ _ _) (Ass.imp.dn4 _ _ _ _ _ _) ((ownA_good _ _ _).star ((rowA_good _ _ _).star ((rowW_good _ _ _ _ _).star ((rowA_good _ _ _).star emp_good)))) HG.out hY).mono ?_); rintro e w2 ⟨rfl, hY1⟩; replace hY := hY1; clear hY1)
            | (go_at_call 16; (with_reducible refine (lnum _ _).mono ?_); rintro e w1 ⟨rfl, rfl⟩))
          clear HP HG HW
          go_roundw
          case rel => exact ⟨k + 1, T2, ss, rs, ps, by omega, by omega, by go_num, by omega, by omega, hkeep, hY.drop⟩
          case measure => simp [intOf]; omega
    · skip
      obtain ⟨gp, cp, rfl, hcp⟩ := hS.num (j := rs.length) (by have := hch.l2; omega)
      obtain ⟨ro, rc, rfl⟩ := rowW_shape hS.drop.wrow
      obtain ⟨so, sc, rfl⟩ := rowI_shape' hS.drop.drop.row
      have l1 := hch.l1
      have l2 := hch.l2
      rw [show (strs' ss).length = rs.length by rw [List.length_map]; exact l1, l2] at hS ⊢
      clear hcp HE HB HW
      have hend2 : k = es.length ∨ (k < es.length ∧ k = 20) := by omega
      clear hend
      rcases hend2 with rfl | ⟨hlt, rfl⟩
      all_goals
        go_wp2
        go_loopw [16] (fun x wr2 => ∃ i : Nat, i ≤ rs.length ∧ x = .int .i64 (i : Int) ∧ At w (rrA p T (.slice so rs.length sc) (.slice ro rs.length rc) (.slice (some ⟨gp, 0, none⟩) (rs.length + 1) cp) ss rs ps) wr2) (fun x _ => rs.length - (intOf x).toNat)
        case atStart => exact ⟨0, Nat.zero_le _, rfl, hS⟩
        case round =>
          clear hS
          obtain ⟨i, hi', rfl, hS⟩ := hrel
          by_cases hi : i < rs.length
          · obtain ⟨gs, c1, e1, _⟩ := hS.drop.drop.str (j := i) (by omega)
            obtain ⟨gr, c2, e2, _⟩ := hS.drop.rec (j := i) hi
            obtain ⟨rfl, -, -⟩ : so = some ⟨gs, 0, none⟩ ∧ rs.length = ss.length ∧ sc = c1 := by simpa using e1
            obtain ⟨rfl, -⟩ : ro = some ⟨gr, 0, none⟩ ∧ rc = c2 := by simpa using e2
            clear e1 e2
            go_wp2
            go_loopw [17] (fun x wr3 => ∃ j : Nat, j ≤ rs.length ∧ x = .int .i64 (j : Int) ∧ At w (rrA p T (.slice (some ⟨gs, 0, none⟩) rs.length sc) (.slice (some ⟨gr, 0, none⟩) rs.length rc) (.slice (some ⟨gp, 0, none⟩) (rs.length + 1) cp) ss rs ps) wr3) (fun x _ => rs.length - (intOf x).toNat)
            case atStart => exact ⟨0, Nat.zero_le _, rfl, hS⟩
            case round =>
              clear hS
              obtain ⟨j, hj', rfl, hS⟩ := hrel
              by_cases hj : j < rs.length
              · obtain ⟨g64, geq, gne⟩ := hch.find (i := i) (j := j) (by omega) hi
                have hGt := dpget p 99 T (ss.getD i ⟨#[]⟩) ((j : Int) + 1) (ps.getD j 0) (by omega)
                have hw1 : IntKind.i64.wrap ((j : Int) + 1) = (j : Int) + 1 := by rw [IntKind.wrap_i64]; omega
                have hw2 : IntKind.i64.wrap ((i : Int) + 1) = (i : Int) + 1 := by rw [IntKind.wrap_i64]; omega
                have hb1 : (i : Int) < (rs.length : Int) := by omega
                have hb2 : (j : Int) < (rs.length : Int) := by omega
                have hb3 : (j : Int) < (rs.length : Int) + 1 := by omega
                have hb4 : (i : Int) + 1 < (rs.length : Int) + 1 := by omega
                have hb5 : 0 ≤ (i : Int) + 1 := by omega
                have hb6 : 0 ≤ (j : Int) + 1 := by omega
                have hF0 := fun W (h : At w (rrA p T (.slice (some ⟨gs, 0, none⟩) rs.length sc) (.slice (some ⟨gr, 0, none⟩) rs.length rc) (.slice (some ⟨gp, 0, none⟩) (rs.length + 1) cp) ss rs ps) W) => rr_two h l1 l2 hi (show j < rs.length + 1 by omega)
                have hQ0 := fun b c W (h : At w ((ownA b c 34).star (rrA p T (.slice (some ⟨gs, 0, none⟩) rs.length sc) (.slice (some ⟨gr, 0, none⟩) rs.length rc) (.slice (some ⟨gp, 0, none⟩) (rs.length + 1) cp) ss rs ps)) W) => rr_facts h l1 l2 hi
                by_cases hij : i = j
                · subst hij
                  obtain ⟨q1, q2, q3⟩ := geq rfl
                  rw [q1, q2, q3] at hGt
                  replace hGt : DoesG Tryd.prog (bookA p 99 T) 17 #[.pointer (some ⟨p, 0, none⟩), .string (ss.getD i ⟨#[]⟩), .int .i64 ((i : Int) + 1), .int .i64 (ps.getD i 0)] (.returned (.tuple #[.agg #[.int .i64 (rs.getD i Rc.zero).seq, .int .i64 (rs.getD i Rc.zero).boot, .int .i64 (rs.getD i Rc.zero).prev, .int .i64 (rs.getD i Rc.zero).ev.kind, .int .i64 (rs.getD i Rc.zero).ev.user, .int .i64 (rs.getD i Rc.zero).ev.session, .int .i64 (rs.getD i Rc.zero).ev.address, .int .i64 (rs.getD i Rc.zero).ev.a, .int .i64 (rs.getD i Rc.zero).ev.b, .int .i64 (rs.getD i Rc.zero).ev.c, .int .i64 (rs.getD i Rc.zero).ev.tick], .int .i64 (ps.getD (i + 1) 0), .int .i64 0])) (bookA p 99 T) := hGt
                  generalize ss.getD i ⟨#[]⟩ = SI at hF0 hGt
                  generalize ps.getD i 0 = PJ at hF0 hGt
                  generalize ps.getD (i + 1) 0 = PI at hQ0 hGt
                  generalize rs.getD i Rc.zero = Y at hQ0 hGt
                  have HGt := Lib.hid hGt
                  have HF := Lib.hid hF0
                  have HQ0 := Lib.hid hQ0
                  clear geq gne q1 q2 q3 hGt hF0 hQ0 g64
                  have hX := hS.lay (rrA_good _ _ _ _ _ _ _ _) (bdrew _)
                  go_wp2
                  refine region_held (S := fun W => At w (rrA p T (.slice (some ⟨gs, 0, none⟩) rs.length sc) (.slice (some ⟨gr, 0, none⟩) rs.length rc) (.slice (some ⟨gp, 0, none⟩) (rs.length + 1) cp) ss rs ps) W) 20 [false, false, false, false, false, false, false, false, false, false, false, false, false, false, false, false, false, false, false, false] rfl rfl (by kernel_rfl) fun W hW => ?_
                  have hSW : At w (rrA p T (.slice (some ⟨gs, 0, none⟩) rs.length sc) (.slice (some ⟨gr, 0, none⟩) rs.length rc) (.slice (some ⟨gp, 0, none⟩) (rs.length + 1) cp) ss rs ps) W := by rw [hW]; exact hX
                  clear hX hW
                  refine held_take 0 rb0 (some 105) ?_ rfl rfl (by kernel_rfl) (by kernel_rfl) (by kernel_rfl) (fun _ _ _ h => h) (Or.inl ⟨by rfl, ?_⟩) hSW ?_
                  rotate_left
                  · intro w0 hy0; obtain ⟨y0, y1⟩ := HF.out w0 hy0; (go_simp <;> with_reducible rfl)
                  simp only [Act.put, List.setIfInBounds_toArray, List.set_cons_zero, List.set_cons_succ]
                  refine held_take 1 rb1 (some 106) ?_ rfl rfl (by kernel_rfl) (by kernel_rfl) (by kernel_rfl) (fun _ _ _ h => h) (Or.inl ⟨by rfl, ?_⟩) hSW ?_
                  rotate_left
                  · intro w0 hy0; obtain ⟨y0, y1⟩ := HF.out w0 hy0; (go_simp <;> with_reducible rfl)
                  simp only [Act.put, List.setIfInBounds_toArray, List.set_cons_zero, List.set_cons_succ]
                  refine held_take 2 rb2 (some 107) ?_ rfl rfl (by kernel_rfl) (by kernel_rfl) (by kernel_rfl) (fun _ _ _ h => h) (Or.inl ⟨by rfl, ?_⟩) hSW ?_
                  rotate_left
                  · intro w0 hy0; obtain ⟨y0, y1⟩ := HF.out w0 hy0; (go_simp <;> with_reducible rfl)
                  simp only [Act.put, List.setIfInBounds_toArray, List.set_cons_zero, List.set_cons_succ]
                  refine held_take 3 rb3 (some 108) ?_ rfl rfl (by kernel_rfl) (by kernel_rfl) (by kernel_rfl) (fun _ _ _ h => h) (Or.inl ⟨by rfl, ?_⟩) hSW ?_
                  rotate_left
                  · intro w0 hy0; obtain ⟨y0, y1⟩ := HF.out w0 hy0; (go_simp <;> with_reducible rfl)
                  simp only [Act.put, List.setIfInBounds_toArray, List.set_cons_zero, List.set_cons_succ]
                  refine held_take 4 rb4 (some 109) ?_ rfl rfl (by kernel_rfl) (by kernel_rfl) (by kernel_rfl) (fun _ _ _ h => h) (Or.inl ⟨by rfl, ?_⟩) hSW ?_
                  rotate_left
                  · intro w0 hy0; obtain ⟨y0, y1⟩ := HF.out w0 hy0; (go_simp <;> with_reducible rfl)
                  simp only [Act.put, List.setIfInBounds_toArray, List.set_cons_zero, List.set_cons_succ]
                  refine held_take 5 rb5 (some 110) ?_ rfl rfl (by kernel_rfl) (by kernel_rfl) (by kernel_rfl) (fun _ _ _ h => h) (Or.inl ⟨by rfl, ?_⟩) hSW ?_
                  rotate_left
                  · intro w0 hy0; obtain ⟨y0, y1⟩ := HF.out w0 hy0; (go_simp <;> with_reducible rfl)
                  simp only [Act.put, List.setIfInBounds_toArray, List.set_cons_zero, List.set_cons_succ]
                  refine held_take 6 rb6 (some 111) ?_ rfl rfl (by kernel_rfl) (by kernel_rfl) (by kernel_rfl) (fun _ _ _ h => h) (Or.inl ⟨by rfl, ?_⟩) hSW ?_
                  rotate_left
                  · intro w0 hy0; obtain ⟨y0, y1⟩ := HF.out w0 hy0; (go_simp <;> with_reducible rfl)
                  simp only [Act.put, List.setIfInBounds_toArray, List.set_cons_zero, List.set_cons_succ]
                  refine held_take 7 rb7 (some 112) ?_ rfl rfl (by kernel_rfl) (by kernel_rfl) (by kernel_rfl) (fun _ _ _ h => h) (Or.inl ⟨by rfl, ?_⟩) hSW ?_
                  rotate_left
                  · intro w0 hy0; obtain ⟨y0, y1⟩ := HF.out w0 hy0; (go_simp <;> with_reducible rfl)
                  simp only [Act.put, List.setIfInBounds_toArray, List.set_cons_zero, List.set_cons_succ]
                  refine held_take 8 rb8 (some 113) ?_ rfl rfl (by kernel_rfl) (by kernel_rfl) (by kernel_rfl) (fun _ _ _ h => h) (Or.inl ⟨by rfl, ?_⟩) hSW ?_
                  rotate_left
                  · intro w0 hy0; obtain ⟨y0, y1⟩ := HF.out w0 hy0; (go_simp <;> with_reducible rfl)
                  simp only [Act.put, List.setIfInBounds_toArray, List.set_cons_zero, List.set_cons_succ]
                  refine held_take 9 rb9 (some 114) ?_ rfl rfl (by kernel_rfl) (by kernel_rfl) (by kernel_rfl) (fun _ _ _ h => h) (Or.inl ⟨by rfl, ?_⟩) hSW ?_
                  rotate_left
                  · intro w0 hy0; obtain ⟨y0, y1⟩ := HF.out w0 hy0; (go_simp <;> with_reducible rfl)
                  simp only [Act.put, List.setIfInBounds_toArray, List.set_cons_zero, List.set_cons_succ]
                  refine held_take 10 rb10 (some 115) ?_ rfl rfl (by kernel_rfl) (by kernel_rfl) (by kernel_rfl) (fun _ _ _ h => h) (Or.inl ⟨by rfl, ?_⟩) hSW ?_
                  rotate_left
                  · intro w0 hy0; obtain ⟨y0, y1⟩ := HF.out w0 hy0; (go_simp <;> with_reducible rfl)
                  simp only [Act.put, List.setIfInBounds_toArray, List.set_cons_zero, List.set_cons_succ]
                  refine held_two 11 16 (by kernel_rfl) ?_ ?_
                  · refine op_call 11 rb11 (some 116) (.tuple #[.agg #[.int .i64 Y.seq, .int .i64 Y.boot, .int .i64 Y.prev, .int .i64 Y.ev.kind, .int .i64 Y.ev.user, .int .i64 Y.ev.session, .int .i64 Y.ev.address, .int .i64 Y.ev.a, .int .i64 Y.ev.b, .int .i64 Y.ev.c, .int .i64 Y.ev.tick], .int .i64 PI, .int .i64 0]) (fun Z9 => At w (rrA p T (.slice (some ⟨gs, 0, none⟩) rs.length sc) (.slice (some ⟨gr, 0, none⟩) rs.length rc) (.slice (some ⟨gp, 0, none⟩) (rs.length + 1) cp) ss rs ps) Z9) 17 #[.pointer (some ⟨p, 0, none⟩), .string SI, .int .i64 ((i : Int) + 1), .int .i64 PJ] rfl rfl (by rfl) (exec_get (.tmp 105) (.tmp 109) (.tmp 111) (.tmp 115) rfl rfl rfl rfl rfl) (At.opG HGt.out (Ass.imp.up3 _ _ _ _ _) (Ass.imp.dn3 _ _ _ _ _) ((rowA_good _ _ _).star ((rowW_good _ _ _ _ _).star ((rowA_good _ _ _).star emp_good))) HG.out hSW) (fun X hX => hX) ?_
                    intro X hX
                    simp only [Act.put, List.setIfInBounds_toArray, List.set_cons_zero, List.set_cons_succ]
                    refine held_take 12 rb12 (some 104) ?_ rfl rfl (by kernel_rfl) (by kernel_rfl) (by kernel_rfl) (fun _ _ _ h => h) (Or.inl ⟨by rfl, ?_⟩) hX ?_
                    rotate_left
                    · intro w0 hy0; (go_simp <;> with_reducible rfl)
                    simp only [Act.put, List.setIfInBounds_toArray, List.set_cons_zero, List.set_cons_succ]
                    refine held_take 13 rb13 (some 117) ?_ rfl rfl (by kernel_rfl) (by kernel_rfl) (by kernel_rfl) (fun _ _ _ h => h) (Or.inl ⟨by rfl, ?_⟩) hX ?_
                    rotate_left
                    · intro w0 hy0; (go_simp <;> with_reducible rfl)
                    simp only [Act.put, List.setIfInBounds_toArray, List.set_cons_zero, List.set_cons_succ]
                    refine held_take 14 rb14 (some 118) ?_ rfl rfl (by kernel_rfl) (by kernel_rfl) (by kernel_rfl) (fun _ _ _ h => h) (Or.inl ⟨by rfl, ?_⟩) hX ?_
                    rotate_left
                    · intro w0 hy0; (go_simp <;> with_reducible rfl)
                    simp only [Act.put, List.setIfInBounds_toArray, List.set_cons_zero, List.set_cons_succ]
                    refine held_take 15 rb15 (some 119) ?_ rfl rfl (by kernel_rfl) (by kernel_rfl) (by kernel_rfl) (fun _ _ _ h => h) (Or.inl ⟨by rfl, ?_⟩) hX ?_
                    rotate_left
                    · intro w0 hy0; (go_simp <;> with_reducible rfl)
                    simp only [Act.put, List.setIfInBounds_toArray, List.set_cons_zero, List.set_cons_succ]
                    have hX1 := hX.lay1 (rrA_good _ _ _ _ _ _ _ _) (.cells Z11 34)
                    have hX2 := hX.lay1 (rrA_good _ _ _ _ _ _ _ _) (.cells #[.int .i64 Y.seq, .int .i64 Y.boot, .int .i64 Y.prev, .int .i64 Y.ev.kind, .int .i64 Y.ev.user, .int .i64 Y.ev.session, .int .i64 Y.ev.address, .int .i64 Y.ev.a, .int .i64 Y.ev.b, .int .i64 Y.ev.c, .int .i64 Y.ev.tick] 34)
                    have hZ := hX.hold (rrA_good _ _ _ _ _ _ _ _) #[.int .i64 Y.seq, .int .i64 Y.boot, .int .i64 Y.prev, .int .i64 Y.ev.kind, .int .i64 Y.ev.user, .int .i64 Y.ev.session, .int .i64 Y.ev.address, .int .i64 Y.ev.a, .int .i64 Y.ev.b, .int .i64 Y.ev.c, .int .i64 Y.ev.tick] 34
                    refine held_one 16 rb16 (some 18) (.pointer (some ⟨X.heap.size, 0, none⟩)) _ (by kernel_rfl) rfl rfl (by rfl) (exec_alloc_rc rfl) hX1 ?_
                    simp only [Act.put, List.setIfInBounds_toArray, List.set_cons_zero, List.set_cons_succ]
                    refine held_void 17 rb17 _ (by kernel_rfl) rfl (by rfl) (exec_store_rc (.tmp 18) (.tmp 117) rfl (Y.seq) (Y.boot) (Y.prev) (Y.ev.kind) (Y.ev.user) (Y.ev.session) (Y.ev.address) (Y.ev.a) (Y.ev.b) (Y.ev.c) (Y.ev.tick) rfl rfl) hX2 ?_
                    simp only [Act.put, List.setIfInBounds_toArray, List.set_cons_zero, List.set_cons_succ]
                    refine held_take 18 rb18 (some 19) ?_ rfl rfl (by kernel_rfl) (by kernel_rfl) (by kernel_rfl) (fun _ _ _ h => h) (Or.inl ⟨by rfl, ?_⟩) hX2 ?_
                    rotate_left
                    · intro w0 hy0; (go_simp <;> with_reducible rfl)
                    simp only [Act.put, List.setIfInBounds_toArray, List.set_cons_zero, List.set_cons_succ]
                    refine held_take 19 rb19 (some 20) ?_ rfl rfl (by kernel_rfl) (by kernel_rfl) (by kernel_rfl) (fun _ _ _ h => h) (Or.inl ⟨by rfl, ?_⟩) hX2 ?_
                    rotate_left
                    · intro w0 hy0; (go_simp <;> with_reducible rfl)
                    simp only [Act.put, List.setIfInBounds_toArray, List.set_cons_zero, List.set_cons_succ]
                    refine wpAnyH_done (by kernel_rfl) ?_ _
                    have HQ := Lib.hid (fun Z8 (h : At w ((ownA X.heap.size #[.int .i64 Y.seq, .int .i64 Y.boot, .int .i64 Y.prev, .int .i64 Y.ev.kind, .int .i64 Y.ev.user, .int .i64 Y.ev.session, .int .i64 Y.ev.address, .int .i64 Y.ev.a, .int .i64 Y.ev.b, .int .i64 Y.ev.c, .int .i64 Y.ev.tick] 34).star (rrA p T (.slice (some ⟨gs, 0, none⟩) rs.length sc) (.slice (some ⟨gr, 0, none⟩) rs.length rc) (.slice (some ⟨gp, 0, none⟩) (rs.length + 1) cp) ss rs ps)) Z8) => HQ0.out _ _ Z8 h)
                    go_wp2
                    refine region_held (S := fun Z8 => At w ((ownA X.heap.size #[.int .i64 Y.seq, .int .i64 Y.boot, .int .i64 Y.prev, .int .i64 Y.ev.kind, .int .i64 Y.ev.user, .int .i64 Y.ev.session, .int .i64 Y.ev.address, .int .i64 Y.ev.a, .int .i64 Y.ev.b, .int .i64 Y.ev.c, .int .i64 Y.ev.tick] 34).star (rrA p T (.slice (some ⟨gs, 0, none⟩) rs.length sc) (.slice (some ⟨gr, 0, none⟩) rs.length rc) (.slice (some ⟨gp, 0, none⟩) (rs.length + 1) cp) ss rs ps)) Z8) 35 [false, false, false, false, false, false, false, false, false, false, false, false, false, false, false, false, false, false, false, false, false, false, false, false, false, false, false, false, false, false, false, false, false, false, false] rfl rfl (by kernel_rfl) fun W2 hW2 => ?_
                    have hZW : At w ((ownA X.heap.size #[.int .i64 Y.seq, .int .i64 Y.boot, .int .i64 Y.prev, .int .i64 Y.ev.kind, .int .i64 Y.ev.user, .int .i64 Y.ev.session, .int .i64 Y.ev.address, .int .i64 Y.ev.a, .int .i64 Y.ev.b, .int .i64 Y.ev.c, .int .i64 Y.ev.tick] 34).star (rrA p T (.slice (some ⟨gs, 0, none⟩) rs.length sc) (.slice (some ⟨gr, 0, none⟩) rs.length rc) (.slice (some ⟨gp, 0, none⟩) (rs.length + 1) cp) ss rs ps)) W2 := by rw [hW2]; exact hZ.lay ((ownA_good _ _ _).star (rrA_good _ _ _ _ _ _ _ _)) (bdrew _)
                    clear hZ hW2
                    refine held_take 0 rx0 (some 120) ?_ rfl rfl (by kernel_rfl) (by kernel_rfl) (by kernel_rfl) (fun _ _ _ h => h) (Or.inl ⟨by rfl, ?_⟩) hZW ?_
                    rotate_left
                    · intro w0 hy0; obtain ⟨s0, s1, s2, s3, s4, s5, s6, s7, s8, s9, s10, s11, s12⟩ := HQ.out w0 hy0; (go_simp <;> with_reducible rfl)
                    simp only [Act.put, List.setIfInBounds_toArray, List.set_cons_zero, List.set_cons_succ]
                    refine held_take 1 rx1 (some 121) ?_ rfl rfl (by kernel_rfl) (by kernel_rfl) (by kernel_rfl) (fun _ _ _ h => h) (Or.inl ⟨by rfl, ?_⟩) hZW ?_
                    rotate_left
                    · intro w0 hy0; obtain ⟨s0, s1, s2, s3, s4, s5, s6, s7, s8, s9, s10, s11, s12⟩ := HQ.out w0 hy0; (go_simp <;> with_reducible rfl)
                    simp only [Act.put, List.setIfInBounds_toArray, List.set_cons_zero, List.set_cons_succ]
                    refine held_take 2 rx2 (some 122) ?_ rfl rfl (by kernel_rfl) (by kernel_rfl) (by kernel_rfl) (fun _ _ _ h => h) (Or.inl ⟨by rfl, ?_⟩) hZW ?_
                    rotate_left
                    · intro w0 hy0; obtain ⟨s0, s1, s2, s3, s4, s5, s6, s7, s8, s9, s10, s11, s12⟩ := HQ.out w0 hy0; (go_simp <;> with_reducible rfl)
                    simp only [Act.put, List.setIfInBounds_toArray, List.set_cons_zero, List.set_cons_succ]
                    refine held_take 3 rx3 (some 123) ?_ rfl rfl (by kernel_rfl) (by kernel_rfl) (by kernel_rfl) (fun _ _ _ h => h) (Or.inl ⟨by rfl, ?_⟩) hZW ?_
                    rotate_left
                    · intro w0 hy0; obtain ⟨s0, s1, s2, s3, s4, s5, s6, s7, s8, s9, s10, s11, s12⟩ := HQ.out w0 hy0; (go_simp <;> with_reducible rfl)
                    simp only [Act.put, List.setIfInBounds_toArray, List.set_cons_zero, List.set_cons_succ]
                    refine held_take 4 rx4 (some 124) ?_ rfl rfl (by kernel_rfl) (by kernel_rfl) (by kernel_rfl) (fun _ _ _ h => h) (Or.inl ⟨by rfl, ?_⟩) hZW ?_
                    rotate_left
                    · intro w0 hy0; obtain ⟨s0, s1, s2, s3, s4, s5, s6, s7, s8, s9, s10, s11, s12⟩ := HQ.out w0 hy0; (go_simp <;> with_reducible rfl)
                    simp only [Act.put, List.setIfInBounds_toArray, List.set_cons_zero, List.set_cons_succ]
                    refine held_call 5 rx5 (some 125) (.int .i64 0) (fun Z9 => At w ((ownA X.heap.size #[.int .i64 Y.seq, .int .i64 Y.boot, .int .i64 Y.prev, .int .i64 Y.ev.kind, .int .i64 Y.ev.user, .int .i64 Y.ev.session, .int .i64 Y.ev.address, .int .i64 Y.ev.a, .int .i64 Y.ev.b, .int .i64 Y.ev.c, .int .i64 Y.ev.tick] 34).star (rrA p T (.slice (some ⟨gs, 0, none⟩) rs.length sc) (.slice (some ⟨gr, 0, none⟩) rs.length rc) (.slice (some ⟨gp, 0, none⟩) (rs.length + 1) cp) ss rs ps)) Z9) 16 #[.int .i64 0] (by kernel_rfl) rfl rfl (by rfl) (exec_lnum (.tmp 124) rfl rfl) ((lnum _ _).mono fun e w' ⟨e1, e2⟩ => ⟨e1, e2 ▸ hZW⟩) (fun X hX => hX) ?_
                    intro X5 hX5
                    simp only [Act.put, List.setIfInBounds_toArray, List.set_cons_zero, List.set_cons_succ]
                    refine held_take 6 rx6 (some 126) ?_ rfl rfl (by kernel_rfl) (by kernel_rfl) (by kernel_rfl) (fun _ _ _ h => h) (Or.inl ⟨by rfl, ?_⟩) hX5 ?_
                    rotate_left
                    · intro w0 hy0; obtain ⟨s0, s1, s2, s3, s4, s5, s6, s7, s8, s9, s10, s11, s12⟩ := HQ.out w0 hy0; (go_simp <;> with_reducible rfl)
                    simp only [Act.put, List.setIfInBounds_toArray, List.set_cons_zero, List.set_cons_succ]
                    refine held_take 7 rx7 (some 127) ?_ rfl rfl (by kernel_rfl) (by kernel_rfl) (by kernel_rfl) (fun _ _ _ h => h) (Or.inl ⟨by rfl, ?_⟩) hX5 ?_
                    rotate_left
                    · intro w0 hy0; obtain ⟨s0, s1, s2, s3, s4, s5, s6, s7, s8, s9, s10, s11, s12⟩ := HQ.out w0 hy0; (go_simp <;> with_reducible rfl)
                    simp only [Act.put, List.setIfInBounds_toArray, List.set_cons_zero, List.set_cons_succ]
                    refine held_take 8 rx8 (some 128) ?_ rfl rfl (by kernel_rfl) (by kernel_rfl) (by kernel_rfl) (fun _ _ _ h => h) (Or.inl ⟨by rfl, ?_⟩) hX5 ?_
                    rotate_left
                    · intro w0 hy0; obtain ⟨s0, s1, s2, s3, s4, s5, s6, s7, s8, s9, s10, s11, s12⟩ := HQ.out w0 hy0; (go_simp <;> with_reducible rfl)
                    simp only [Act.put, List.setIfInBounds_toArray, List.set_cons_zero, List.set_cons_succ]
                    refine held_take 9 rx9 (some 129) ?_ rfl rfl (by kernel_rfl) (by kernel_rfl) (by kernel_rfl) (fun _ _ _ h => h) (Or.inl ⟨by rfl, ?_⟩) hX5 ?_
                    rotate_left
                    · intro w0 hy0; obtain ⟨s0, s1, s2, s3, s4, s5, s6, s7, s8, s9, s10, s11, s12⟩ := HQ.out w0 hy0; (go_simp <;> with_reducible rfl)
                    simp only [Act.put, List.setIfInBounds_toArray, List.set_cons_zero, List.set_cons_succ]
                    refine held_take 10 rx10 (some 130) ?_ rfl rfl (by kernel_rfl) (by kernel_rfl) (by kernel_rfl) (fun _ _ _ h => h) (Or.inl ⟨by rfl, ?_⟩) hX5 ?_
                    rotate_left
                    · intro w0 hy0; obtain ⟨s0, s1, s2, s3, s4, s5, s6, s7, s8, s9, s10, s11, s12⟩ := HQ.out w0 hy0; (go_simp <;> with_reducible rfl)
                    simp only [Act.put, List.setIfInBounds_toArray, List.set_cons_zero, List.set_cons_succ]
                    refine held_take 11 rx11 (some 131) ?_ rfl rfl (by kernel_rfl) (by kernel_rfl) (by kernel_rfl) (fun _ _ _ h => h) (Or.inl ⟨by rfl, ?_⟩) hX5 ?_
                    rotate_left
                    · intro w0 hy0; obtain ⟨s0, s1, s2, s3, s4, s5, s6, s7, s8, s9, s10, s11, s12⟩ := HQ.out w0 hy0; (go_simp <;> with_reducible rfl)
                    simp only [Act.put, List.setIfInBounds_toArray, List.set_cons_zero, List.set_cons_succ]
                    refine held_take 12 rx12 (some 132) ?_ rfl rfl (by kernel_rfl) (by kernel_rfl) (by kernel_rfl) (fun _ _ _ h => h) (Or.inl ⟨by rfl, ?_⟩) hX5 ?_
                    rotate_left
                    · intro w0 hy0; obtain ⟨s0, s1, s2, s3, s4, s5, s6, s7, s8, s9, s10, s11, s12⟩ := HQ.out w0 hy0; (go_simp <;> with_reducible rfl)
                    simp only [Act.put, List.setIfInBounds_toArray, List.set_cons_zero, List.set_cons_succ]
                    refine held_take 13 rx13 (some 133) ?_ rfl rfl (by kernel_rfl) (by kernel_rfl) (by kernel_rfl) (fun _ _ _ h => h) (Or.inl ⟨by rfl, ?_⟩) hX5 ?_
                    rotate_left
                    · intro w0 hy0; obtain ⟨s0, s1, s2, s3, s4, s5, s6, s7, s8, s9, s10, s11, s12⟩ := HQ.out w0 hy0; (go_simp <;> with_reducible rfl)
                    simp only [Act.put, List.setIfInBounds_toArray, List.set_cons_zero, List.set_cons_succ]
                    refine held_take 14 rx14 (some 134) ?_ rfl rfl (by kernel_rfl) (by kernel_rfl) (by kernel_rfl) (fun _ _ _ h => h) (Or.inl ⟨by rfl, ?_⟩) hX5 ?_
                    rotate_left
                    · intro w0 hy0; obtain ⟨s0, s1, s2, s3, s4, s5, s6, s7, s8, s9, s10, s11, s12⟩ := HQ.out w0 hy0; (go_simp <;> with_reducible rfl)
                    simp only [Act.put, List.setIfInBounds_toArray, List.set_cons_zero, List.set_cons_succ]
                    refine held_take 15 rx15 (some 135) ?_ rfl rfl (by kernel_rfl) (by kernel_rfl) (by kernel_rfl) (fun _ _ _ h => h) (Or.inl ⟨by rfl, ?_⟩) hX5 ?_
                    rotate_left
                    · intro w0 hy0; obtain ⟨s0, s1, s2, s3, s4, s5, s6, s7, s8, s9, s10, s11, s12⟩ := HQ.out w0 hy0; (go_simp <;> with_reducible rfl)
                    simp only [Act.put, List.setIfInBounds_toArray, List.set_cons_zero, List.set_cons_succ]
                    refine held_take 16 rx16 (some 136) ?_ rfl rfl (by kernel_rfl) (by kernel_rfl) (by kernel_rfl) (fun _ _ _ h => h) (Or.inl ⟨by rfl, ?_⟩) hX5 ?_
                    rotate_left
                    · intro w0 hy0; obtain ⟨s0, s1, s2, s3, s4, s5, s6, s7, s8, s9, s10, s11, s12⟩ := HQ.out w0 hy0; (go_simp <;> with_reducible rfl)
                    simp only [Act.put, List.setIfInBounds_toArray, List.set_cons_zero, List.set_cons_succ]
                    refine held_take 17 rx17 (some 137) ?_ rfl rfl (by kernel_rfl) (by kernel_rfl) (by kernel_rfl) (fun _ _ _ h => h) (Or.inl ⟨by rfl, ?_⟩) hX5 ?_
                    rotate_left
                    · intro w0 hy0; obtain ⟨s0, s1, s2, s3, s4, s5, s6, s7, s8, s9, s10, s11, s12⟩ := HQ.out w0 hy0; (go_simp <;> with_reducible rfl)
                    simp only [Act.put, List.setIfInBounds_toArray, List.set_cons_zero, List.set_cons_succ]
                    refine held_take 18 rx18 (some 138) ?_ rfl rfl (by kernel_rfl) (by kernel_rfl) (by kernel_rfl) (fun _ _ _ h => h) (Or.inl ⟨by rfl, ?_⟩) hX5 ?_
                    rotate_left
                    · intro w0 hy0; obtain ⟨s0, s1, s2, s3, s4, s5, s6, s7, s8, s9, s10, s11, s12⟩ := HQ.out w0 hy0; (go_simp <;> with_reducible rfl)
                    simp only [Act.put, List.setIfInBounds_toArray, List.set_cons_zero, List.set_cons_succ]
                    refine held_take 19 rx19 (some 139) ?_ rfl rfl (by kernel_rfl) (by kernel_rfl) (by kernel_rfl) (fun _ _ _ h => h) (Or.inl ⟨by rfl, ?_⟩) hX5 ?_
                    rotate_left
                    · intro w0 hy0; obtain ⟨s0, s1, s2, s3, s4, s5, s6, s7, s8, s9, s10, s11, s12⟩ := HQ.out w0 hy0; (go_simp <;> with_reducible rfl)
                    simp only [Act.put, List.setIfInBounds_toArray, List.set_cons_zero, List.set_cons_succ]
                    refine held_take 20 rx20 (some 140) ?_ rfl rfl (by kernel_rfl) (by kernel_rfl) (by kernel_rfl) (fun _ _ _ h => h) (Or.inl ⟨by rfl, ?_⟩) hX5 ?_
                    rotate_left
                    · intro w0 hy0; obtain ⟨s0, s1, s2, s3, s4, s5, s6, s7, s8, s9, s10, s11, s12⟩ := HQ.out w0 hy0; (go_simp <;> with_reducible rfl)
                    simp only [Act.put, List.setIfInBounds_toArray, List.set_cons_zero, List.set_cons_succ]
                    refine held_take 21 rx21 (some 141) ?_ rfl rfl (by kernel_rfl) (by kernel_rfl) (by kernel_rfl) (fun _ _ _ h => h) (Or.inl ⟨by rfl, ?_⟩) hX5 ?_
                    rotate_left
                    · intro w0 hy0; obtain ⟨s0, s1, s2, s3, s4, s5, s6, s7, s8, s9, s10, s11, s12⟩ := HQ.out w0 hy0; (go_simp <;> with_reducible rfl)
                    simp only [Act.put, List.setIfInBounds_toArray, List.set_cons_zero, List.set_cons_succ]
                    refine held_take 22 rx22 (some 142) ?_ rfl rfl (by kernel_rfl) (by kernel_rfl) (by kernel_rfl) (fun _ _ _ h => h) (Or.inl ⟨by rfl, ?_⟩) hX5 ?_
                    rotate_left
                    · intro w0 hy0; obtain ⟨s0, s1, s2, s3, s4, s5, s6, s7, s8, s9, s10, s11, s12⟩ := HQ.out w0 hy0; (go_simp <;> with_reducible rfl)
                    simp only [Act.put, List.setIfInBounds_toArray, List.set_cons_zero, List.set_cons_succ]
                    refine held_take 23 rx23 (some 143) ?_ rfl rfl (by kernel_rfl) (by kernel_rfl) (by kernel_rfl) (fun _ _ _ h => h) (Or.inl ⟨by rfl, ?_⟩) hX5 ?_
                    rotate_left
                    · intro w0 hy0; obtain ⟨s0, s1, s2, s3, s4, s5, s6, s7, s8, s9, s10, s11, s12⟩ := HQ.out w0 hy0; (go_simp <;> with_reducible rfl)
                    simp only [Act.put, List.setIfInBounds_toArray, List.set_cons_zero, List.set_cons_succ]
                    refine held_take 24 rx24 (some 144) ?_ rfl rfl (by kernel_rfl) (by kernel_rfl) (by kernel_rfl) (fun _ _ _ h => h) (Or.inl ⟨by rfl, ?_⟩) hX5 ?_
                    rotate_left
                    · intro w0 hy0; obtain ⟨s0, s1, s2, s3, s4, s5, s6, s7, s8, s9, s10, s11, s12⟩ := HQ.out w0 hy0; (go_simp <;> with_reducible rfl)
                    simp only [Act.put, List.setIfInBounds_toArray, List.set_cons_zero, List.set_cons_succ]
                    refine held_take 25 rx25 (some 145) ?_ rfl rfl (by kernel_rfl) (by kernel_rfl) (by kernel_rfl) (fun _ _ _ h => h) (Or.inl ⟨by rfl, ?_⟩) hX5 ?_
                    rotate_left
                    · intro w0 hy0; obtain ⟨s0, s1, s2, s3, s4, s5, s6, s7, s8, s9, s10, s11, s12⟩ := HQ.out w0 hy0; (go_simp <;> with_reducible rfl)
                    simp only [Act.put, List.setIfInBounds_toArray, List.set_cons_zero, List.set_cons_succ]
                    refine held_take 26 rx26 (some 146) ?_ rfl rfl (by kernel_rfl) (by kernel_rfl) (by kernel_rfl) (fun _ _ _ h => h) (Or.inl ⟨by rfl, ?_⟩) hX5 ?_
                    rotate_left
                    · intro w0 hy0; obtain ⟨s0, s1, s2, s3, s4, s5, s6, s7, s8, s9, s10, s11, s12⟩ := HQ.out w0 hy0; (go_simp <;> with_reducible rfl)
                    simp only [Act.put, List.setIfInBounds_toArray, List.set_cons_zero, List.set_cons_succ]
                    refine held_take 27 rx27 (some 147) ?_ rfl rfl (by kernel_rfl) (by kernel_rfl) (by kernel_rfl) (fun _ _ _ h => h) (Or.inl ⟨by rfl, ?_⟩) hX5 ?_
                    rotate_left
                    · intro w0 hy0; obtain ⟨s0, s1, s2, s3, s4, s5, s6, s7, s8, s9, s10, s11, s12⟩ := HQ.out w0 hy0; (go_simp <;> with_reducible rfl)
                    simp only [Act.put, List.setIfInBounds_toArray, List.set_cons_zero, List.set_cons_succ]
                    refine held_take 28 rx28 (some 148) ?_ rfl rfl (by kernel_rfl) (by kernel_rfl) (by kernel_rfl) (fun _ _ _ h => h) (Or.inl ⟨by rfl, ?_⟩) hX5 ?_
                    rotate_left
                    · intro w0 hy0; obtain ⟨s0, s1, s2, s3, s4, s5, s6, s7, s8, s9, s10, s11, s12⟩ := HQ.out w0 hy0; (go_simp <;> with_reducible rfl)
                    simp only [Act.put, List.setIfInBounds_toArray, List.set_cons_zero, List.set_cons_succ]
                    refine held_take 29 rx29 (some 149) ?_ rfl rfl (by kernel_rfl) (by kernel_rfl) (by kernel_rfl) (fun _ _ _ h => h) (Or.inl ⟨by rfl, ?_⟩) hX5 ?_
                    rotate_left
                    · intro w0 hy0; obtain ⟨s0, s1, s2, s3, s4, s5, s6, s7, s8, s9, s10, s11, s12⟩ := HQ.out w0 hy0; (go_simp <;> with_reducible rfl)
                    simp only [Act.put, List.setIfInBounds_toArray, List.set_cons_zero, List.set_cons_succ]
                    refine held_skip 30 rx30 (some 150) rfl rfl (by kernel_rfl) (by kernel_rfl) (by kernel_rfl) (fun _ _ _ h => h) (by rfl) hX5 ?_
                    simp only [Act.put, List.setIfInBounds_toArray, List.set_cons_zero, List.set_cons_succ]
                    refine held_skip 31 rx31 (some 151) rfl rfl (by kernel_rfl) (by kernel_rfl) (by kernel_rfl) (fun _ _ _ h => h) (by rfl) hX5 ?_
                    simp only [Act.put, List.setIfInBounds_toArray, List.set_cons_zero, List.set_cons_succ]
                    refine held_skip 32 rx32 (some 152) rfl rfl (by kernel_rfl) (by kernel_rfl) (by kernel_rfl) (fun _ _ _ h => h) (by rfl) hX5 ?_
                    simp only [Act.put, List.setIfInBounds_toArray, List.set_cons_zero, List.set_cons_succ]
                    refine held_take 33 rx33 (some 153) ?_ rfl rfl (by kernel_rfl) (by kernel_rfl) (by kernel_rfl) (fun _ _ _ h => h) (Or.inl ⟨by rfl, ?_⟩) hX5 ?_
                    rotate_left
                    · intro w0 hy0; obtain ⟨s0, s1, s2, s3, s4, s5, s6, s7, s8, s9, s10, s11, s12⟩ := HQ.out w0 hy0; (go_simp <;> with_reducible rfl)
                    simp only [Act.put, List.setIfInBounds_toArray, List.set_cons_zero, List.set_cons_succ]
                    refine held_take 34 rx34 (some 154) ?_ rfl rfl (by kernel_rfl) (by kernel_rfl) (by kernel_rfl) (fun _ _ _ h => h) (Or.inl ⟨by rfl, ?_⟩) hX5 ?_
                    rotate_left
                    · intro w0 hy0; obtain ⟨s0, s1, s2, s3, s4, s5, s6, s7, s8, s9, s10, s11, s12⟩ := HQ.out w0 hy0; (go_simp <;> with_reducible rfl)
                    simp only [Act.put, List.setIfInBounds_toArray, List.set_cons_zero, List.set_cons_succ]
                    refine wpAnyH_done (by kernel_rfl) ?_ _
                    have hE := hX5.drop
                    clear HQ HF HGt
                    go_wp2
                    go_roundw
                    case rel => exact ⟨i + 1, by omega, by go_num, hE⟩
                    case measure => simp [intOf]; omega
                  · have hX1 := hSW.lay1 (rrA_good _ _ _ _ _ _ _ _) (.cells Z11 34)
                    have hX0 := hSW.hold (rrA_good _ _ _ _ _ _ _ _) Z11 34
                    refine op_one 16 rb16 (some 18) (.pointer (some ⟨W.heap.size, 0, none⟩)) _ rfl rfl (by rfl) (exec_alloc_rc rfl) hX1 ?_
                    simp only [Act.put, List.setIfInBounds_toArray, List.set_cons_zero, List.set_cons_succ]
                    refine held_call 11 rb11 (some 116) (.tuple #[.agg #[.int .i64 Y.seq, .int .i64 Y.boot, .int .i64 Y.prev, .int .i64 Y.ev.kind, .int .i64 Y.ev.user, .int .i64 Y.ev.session, .int .i64 Y.ev.address, .int .i64 Y.ev.a, .int .i64 Y.ev.b, .int .i64 Y.ev.c, .int .i64 Y.ev.tick], .int .i64 PI, .int .i64 0]) (fun Z9 => At w ((ownA W.heap.size Z11 34).star (rrA p T (.slice (some ⟨gs, 0, none⟩) rs.length sc) (.slice (some ⟨gr, 0, none⟩) rs.length rc) (.slice (some ⟨gp, 0, none⟩) (rs.length + 1) cp) ss rs ps)) Z9) 17 #[.pointer (some ⟨p, 0, none⟩), .string SI, .int .i64 ((i : Int) + 1), .int .i64 PJ] (by kernel_rfl) rfl rfl (by rfl) (exec_get (.tmp 105) (.tmp 109) (.tmp 111) (.tmp 115) rfl rfl rfl rfl rfl) (At.opG HGt.out (Ass.imp.up4 _ _ _ _ _ _) (Ass.imp.dn4 _ _ _ _ _ _) ((ownA_good _ _ _).star ((rowA_good _ _ _).star ((rowW_good _ _ _ _ _).star ((rowA_good _ _ _).star emp_good)))) HG.out hX0) (fun X hX => hX.drop) ?_
                    intro X hX
                    simp only [Act.put, List.setIfInBounds_toArray, List.set_cons_zero, List.set_cons_succ]
                    refine held_take 12 rb12 (some 104) ?_ rfl rfl (by kernel_rfl) (by kernel_rfl) (by kernel_rfl) (fun _ _ _ h => h) (Or.inl ⟨by rfl, ?_⟩) hX.drop ?_
                    rotate_left
                    · intro w0 hy0; (go_simp <;> with_reducible rfl)
                    simp only [Act.put, List.setIfInBounds_toArray, List.set_cons_zero, List.set_cons_succ]
                    refine held_take 13 rb13 (some 117) ?_ rfl rfl (by kernel_rfl) (by kernel_rfl) (by kernel_rfl) (fun _ _ _ h => h) (Or.inl ⟨by rfl, ?_⟩) hX.drop ?_
                    rotate_left
                    · intro w0 hy0; (go_simp <;> with_reducible rfl)
                    simp only [Act.put, List.setIfInBounds_toArray, List.set_cons_zero, List.set_cons_succ]
                    refine held_take 14 rb14 (some 118) ?_ rfl rfl (by kernel_rfl) (by kernel_rfl) (by kernel_rfl) (fun _ _ _ h => h) (Or.inl ⟨by rfl, ?_⟩) hX.drop ?_
                    rotate_left
                    · intro w0 hy0; (go_simp <;> with_reducible rfl)
                    simp only [Act.put, List.setIfInBounds_toArray, List.set_cons_zero, List.set_cons_succ]
                    refine held_take 15 rb15 (some 119) ?_ rfl rfl (by kernel_rfl) (by kernel_rfl) (by kernel_rfl) (fun _ _ _ h => h) (Or.inl ⟨by rfl, ?_⟩) hX.drop ?_
                    rotate_left
                    · intro w0 hy0; (go_simp <;> with_reducible rfl)
                    simp only [Act.put, List.setIfInBounds_toArray, List.set_cons_zero, List.set_cons_succ]
                    have hZ := hX.poke_all (rrA_good _ _ _ _ _ _ _ _) (Y.seq) (Y.boot) (Y.prev) (Y.ev.kind) (Y.ev.user) (Y.ev.session) (Y.ev.address) (Y.ev.a) (Y.ev.b) (Y.ev.c) (Y.ev.tick)
                    obtain ⟨e1, f1, l1⟩ := hX.own
                    refine held_void 17 rb17 _ (by kernel_rfl) rfl (by rfl) (exec_store_own (.tmp 18) (.tmp 117) rfl W.heap.size e1 f1 l1 (Y.seq) (Y.boot) (Y.prev) (Y.ev.kind) (Y.ev.user) (Y.ev.session) (Y.ev.address) (Y.ev.a) (Y.ev.b) (Y.ev.c) (Y.ev.tick) rfl rfl) hZ.drop ?_
                    simp only [Act.put, List.setIfInBounds_toArray, List.set_cons_zero, List.set_cons_succ]
                    refine held_take 18 rb18 (some 19) ?_ rfl rfl (by kernel_rfl) (by kernel_rfl) (by kernel_rfl) (fun _ _ _ h => h) (Or.inl ⟨by rfl, ?_⟩) hZ.drop ?_
                    rotate_left
                    · intro w0 hy0; (go_simp <;> with_reducible rfl)
                    simp only [Act.put, List.setIfInBounds_toArray, List.set_cons_zero, List.set_cons_succ]
                    refine held_take 19 rb19 (some 20) ?_ rfl rfl (by kernel_rfl) (by kernel_rfl) (by kernel_rfl) (fun _ _ _ h => h) (Or.inl ⟨by rfl, ?_⟩) hZ.drop ?_
                    rotate_left
                    · intro w0 hy0; (go_simp <;> with_reducible rfl)
                    simp only [Act.put, List.setIfInBounds_toArray, List.set_cons_zero, List.set_cons_succ]
                    refine wpAnyH_done (by kernel_rfl) ?_ _
                    have HQ := Lib.hid (fun Z8 (h : At w ((ownA W.heap.size #[.int .i64 Y.seq, .int .i64 Y.boot, .int .i64 Y.prev, .int .i64 Y.ev.kind, .int .i64 Y.ev.user, .int .i64 Y.ev.session, .int .i64 Y.ev.address, .int .i64 Y.ev.a, .int .i64 Y.ev.b, .int .i64 Y.ev.c, .int .i64 Y.ev.tick] 34).star (rrA p T (.slice (some ⟨gs, 0, none⟩) rs.length sc) (.slice (some ⟨gr, 0, none⟩) rs.length rc) (.slice (some ⟨gp, 0, none⟩) (rs.length + 1) cp) ss rs ps)) Z8) => HQ0.out _ _ Z8 h)
                    go_wp2
                    refine region_held (S := fun Z8 => At w ((ownA W.heap.size #[.int .i64 Y.seq, .int .i64 Y.boot, .int .i64 Y.prev, .int .i64 Y.ev.kind, .int .i64 Y.ev.user, .int .i64 Y.ev.session, .int .i64 Y.ev.address, .int .i64 Y.ev.a, .int .i64 Y.ev.b, .int .i64 Y.ev.c, .int .i64 Y.ev.tick] 34).star (rrA p T (.slice (some ⟨gs, 0, none⟩) rs.length sc) (.slice (some ⟨gr, 0, none⟩) rs.length rc) (.slice (some ⟨gp, 0, none⟩) (rs.length + 1) cp) ss rs ps)) Z8) 35 [false, false, false, false, false, false, false, false, false, false, false, false, false, false, false, false, false, false, false, false, false, false, false, false, false, false, false, false, false, false, false, false, false, false, false] rfl rfl (by kernel_rfl) fun W2 hW2 => ?_
                    have hZW : At w ((ownA W.heap.size #[.int .i64 Y.seq, .int .i64 Y.boot, .int .i64 Y.prev, .int .i64 Y.ev.kind, .int .i64 Y.ev.user, .int .i64 Y.ev.session, .int .i64 Y.ev.address, .int .i64 Y.ev.a, .int .i64 Y.ev.b, .int .i64 Y.ev.c, .int .i64 Y.ev.tick] 34).star (rrA p T (.slice (some ⟨gs, 0, none⟩) rs.length sc) (.slice (some ⟨gr, 0, none⟩) rs.length rc) (.slice (some ⟨gp, 0, none⟩) (rs.length + 1) cp) ss rs ps)) W2 := by rw [hW2]; exact hZ.lay ((ownA_good _ _ _).star (rrA_good _ _ _ _ _ _ _ _)) (bdrew _)
                    clear hZ hW2
                    refine held_take 0 rx0 (some 120) ?_ rfl rfl (by kernel_rfl) (by kernel_rfl) (by kernel_rfl) (fun _ _ _ h => h) (Or.inl ⟨by rfl, ?_⟩) hZW ?_
                    rotate_left
                    · intro w0 hy0; obtain ⟨s0, s1, s2, s3, s4, s5, s6, s7, s8, s9, s10, s11, s12⟩ := HQ.out w0 hy0; (go_simp <;> with_reducible rfl)
                    simp only [Act.put, List.setIfInBounds_toArray, List.set_cons_zero, List.set_cons_succ]
                    refine held_take 1 rx1 (some 121) ?_ rfl rfl (by kernel_rfl) (by kernel_rfl) (by kernel_rfl) (fun _ _ _ h => h) (Or.inl ⟨by rfl, ?_⟩) hZW ?_
                    rotate_left
                    · intro w0 hy0; obtain ⟨s0, s1, s2, s3, s4, s5, s6, s7, s8, s9, s10, s11, s12⟩ := HQ.out w0 hy0; (go_simp <;> with_reducible rfl)
                    simp only [Act.put, List.setIfInBounds_toArray, List.set_cons_zero, List.set_cons_succ]
                    refine held_take 2 rx2 (some 122) ?_ rfl rfl (by kernel_rfl) (by kernel_rfl) (by kernel_rfl) (fun _ _ _ h => h) (Or.inl ⟨by rfl, ?_⟩) hZW ?_
                    rotate_left
                    · intro w0 hy0; obtain ⟨s0, s1, s2, s3, s4, s5, s6, s7, s8, s9, s10, s11, s12⟩ := HQ.out w0 hy0; (go_simp <;> with_reducible rfl)
                    simp only [Act.put, List.setIfInBounds_toArray, List.set_cons_zero, List.set_cons_succ]
                    refine held_take 3 rx3 (some 123) ?_ rfl rfl (by kernel_rfl) (by kernel_rfl) (by kernel_rfl) (fun _ _ _ h => h) (Or.inl ⟨by rfl, ?_⟩) hZW ?_
                    rotate_left
                    · intro w0 hy0; obtain ⟨s0, s1, s2, s3, s4, s5, s6, s7, s8, s9, s10, s11, s12⟩ := HQ.out w0 hy0; (go_simp <;> with_reducible rfl)
                    simp only [Act.put, List.setIfInBounds_toArray, List.set_cons_zero, List.set_cons_succ]
                    refine held_take 4 rx4 (some 124) ?_ rfl rfl (by kernel_rfl) (by kernel_rfl) (by kernel_rfl) (fun _ _ _ h => h) (Or.inl ⟨by rfl, ?_⟩) hZW ?_
                    rotate_left
                    · intro w0 hy0; obtain ⟨s0, s1, s2, s3, s4, s5, s6, s7, s8, s9, s10, s11, s12⟩ := HQ.out w0 hy0; (go_simp <;> with_reducible rfl)
                    simp only [Act.put, List.setIfInBounds_toArray, List.set_cons_zero, List.set_cons_succ]
                    refine held_call 5 rx5 (some 125) (.int .i64 0) (fun Z9 => At w ((ownA W.heap.size #[.int .i64 Y.seq, .int .i64 Y.boot, .int .i64 Y.prev, .int .i64 Y.ev.kind, .int .i64 Y.ev.user, .int .i64 Y.ev.session, .int .i64 Y.ev.address, .int .i64 Y.ev.a, .int .i64 Y.ev.b, .int .i64 Y.ev.c, .int .i64 Y.ev.tick] 34).star (rrA p T (.slice (some ⟨gs, 0, none⟩) rs.length sc) (.slice (some ⟨gr, 0, none⟩) rs.length rc) (.slice (some ⟨gp, 0, none⟩) (rs.length + 1) cp) ss rs ps)) Z9) 16 #[.int .i64 0] (by kernel_rfl) rfl rfl (by rfl) (exec_lnum (.tmp 124) rfl rfl) ((lnum _ _).mono fun e w' ⟨e1, e2⟩ => ⟨e1, e2 ▸ hZW⟩) (fun X hX => hX) ?_
                    intro X5 hX5
                    simp only [Act.put, List.setIfInBounds_toArray, List.set_cons_zero, List.set_cons_succ]
                    refine held_take 6 rx6 (some 126) ?_ rfl rfl (by kernel_rfl) (by kernel_rfl) (by kernel_rfl) (fun _ _ _ h => h) (Or.inl ⟨by rfl, ?_⟩) hX5 ?_
                    rotate_left
                    · intro w0 hy0; obtain ⟨s0, s1, s2, s3, s4, s5, s6, s7, s8, s9, s10, s11, s12⟩ := HQ.out w0 hy0; (go_simp <;> with_reducible rfl)
                    simp only [Act.put, List.setIfInBounds_toArray, List.set_cons_zero, List.set_cons_succ]
                    refine held_take 7 rx7 (some 127) ?_ rfl rfl (by kernel_rfl) (by kernel_rfl) (by kernel_rfl) (fun _ _ _ h => h) (Or.inl ⟨by rfl, ?_⟩) hX5 ?_
                    rotate_left
                    · intro w0 hy0; obtain ⟨s0, s1, s2, s3, s4, s5, s6, s7, s8, s9, s10, s11, s12⟩ := HQ.out w0 hy0; (go_simp <;> with_reducible rfl)
                    simp only [Act.put, List.setIfInBounds_toArray, List.set_cons_zero, List.set_cons_succ]
                    refine held_take 8 rx8 (some 128) ?_ rfl rfl (by kernel_rfl) (by kernel_rfl) (by kernel_rfl) (fun _ _ _ h => h) (Or.inl ⟨by rfl, ?_⟩) hX5 ?_
                    rotate_left
                    · intro w0 hy0; obtain ⟨s0, s1, s2, s3, s4, s5, s6, s7, s8, s9, s10, s11, s12⟩ := HQ.out w0 hy0; (go_simp <;> with_reducible rfl)
                    simp only [Act.put, List.setIfInBounds_toArray, List.set_cons_zero, List.set_cons_succ]
                    refine held_take 9 rx9 (some 129) ?_ rfl rfl (by kernel_rfl) (by kernel_rfl) (by kernel_rfl) (fun _ _ _ h => h) (Or.inl ⟨by rfl, ?_⟩) hX5 ?_
                    rotate_left
                    · intro w0 hy0; obtain ⟨s0, s1, s2, s3, s4, s5, s6, s7, s8, s9, s10, s11, s12⟩ := HQ.out w0 hy0; (go_simp <;> with_reducible rfl)
                    simp only [Act.put, List.setIfInBounds_toArray, List.set_cons_zero, List.set_cons_succ]
                    refine held_take 10 rx10 (some 130) ?_ rfl rfl (by kernel_rfl) (by kernel_rfl) (by kernel_rfl) (fun _ _ _ h => h) (Or.inl ⟨by rfl, ?_⟩) hX5 ?_
                    rotate_left
                    · intro w0 hy0; obtain ⟨s0, s1, s2, s3, s4, s5, s6, s7, s8, s9, s10, s11, s12⟩ := HQ.out w0 hy0; (go_simp <;> with_reducible rfl)
                    simp only [Act.put, List.setIfInBounds_toArray, List.set_cons_zero, List.set_cons_succ]
                    refine held_take 11 rx11 (some 131) ?_ rfl rfl (by kernel_rfl) (by kernel_rfl) (by kernel_rfl) (fun _ _ _ h => h) (Or.inl ⟨by rfl, ?_⟩) hX5 ?_
                    rotate_left
                    · intro w0 hy0; obtain ⟨s0, s1, s2, s3, s4, s5, s6, s7, s8, s9, s10, s11, s12⟩ := HQ.out w0 hy0; (go_simp <;> with_reducible rfl)
                    simp only [Act.put, List.setIfInBounds_toArray, List.set_cons_zero, List.set_cons_succ]
                    refine held_take 12 rx12 (some 132) ?_ rfl rfl (by kernel_rfl) (by kernel_rfl) (by kernel_rfl) (fun _ _ _ h => h) (Or.inl ⟨by rfl, ?_⟩) hX5 ?_
                    rotate_left
                    · intro w0 hy0; obtain ⟨s0, s1, s2, s3, s4, s5, s6, s7, s8, s9, s10, s11, s12⟩ := HQ.out w0 hy0; (go_simp <;> with_reducible rfl)
                    simp only [Act.put, List.setIfInBounds_toArray, List.set_cons_zero, List.set_cons_succ]
                    refine held_take 13 rx13 (some 133) ?_ rfl rfl (by kernel_rfl) (by kernel_rfl) (by kernel_rfl) (fun _ _ _ h => h) (Or.inl ⟨by rfl, ?_⟩) hX5 ?_
                    rotate_left
                    · intro w0 hy0; obtain ⟨s0, s1, s2, s3, s4, s5, s6, s7, s8, s9, s10, s11, s12⟩ := HQ.out w0 hy0; (go_simp <;> with_reducible rfl)
                    simp only [Act.put, List.setIfInBounds_toArray, List.set_cons_zero, List.set_cons_succ]
                    refine held_take 14 rx14 (some 134) ?_ rfl rfl (by kernel_rfl) (by kernel_rfl) (by kernel_rfl) (fun _ _ _ h => h) (Or.inl ⟨by rfl, ?_⟩) hX5 ?_
                    rotate_left
                    · intro w0 hy0; obtain ⟨s0, s1, s2, s3, s4, s5, s6, s7, s8, s9, s10, s11, s12⟩ := HQ.out w0 hy0; (go_simp <;> with_reducible rfl)
                    simp only [Act.put, List.setIfInBounds_toArray, List.set_cons_zero, List.set_cons_succ]
                    refine held_take 15 rx15 (some 135) ?_ rfl rfl (by kernel_rfl) (by kernel_rfl) (by kernel_rfl) (fun _ _ _ h => h) (Or.inl ⟨by rfl, ?_⟩) hX5 ?_
                    rotate_left
                    · intro w0 hy0; obtain ⟨s0, s1, s2, s3, s4, s5, s6, s7, s8, s9, s10, s11, s12⟩ := HQ.out w0 hy0; (go_simp <;> with_reducible rfl)
                    simp only [Act.put, List.setIfInBounds_toArray, List.set_cons_zero, List.set_cons_succ]
                    refine held_take 16 rx16 (some 136) ?_ rfl rfl (by kernel_rfl) (by kernel_rfl) (by kernel_rfl) (fun _ _ _ h => h) (Or.inl ⟨by rfl, ?_⟩) hX5 ?_
                    rotate_left
                    · intro w0 hy0; obtain ⟨s0, s1, s2, s3, s4, s5, s6, s7, s8, s9, s10, s11, s12⟩ := HQ.out w0 hy0; (go_simp <;> with_reducible rfl)
                    simp only [Act.put, List.setIfInBounds_toArray, List.set_cons_zero, List.set_cons_succ]
                    refine held_take 17 rx17 (some 137) ?_ rfl rfl (by kernel_rfl) (by kernel_rfl) (by kernel_rfl) (fun _ _ _ h => h) (Or.inl ⟨by rfl, ?_⟩) hX5 ?_
                    rotate_left
                    · intro w0 hy0; obtain ⟨s0, s1, s2, s3, s4, s5, s6, s7, s8, s9, s10, s11, s12⟩ := HQ.out w0 hy0; (go_simp <;> with_reducible rfl)
                    simp only [Act.put, List.setIfInBounds_toArray, List.set_cons_zero, List.set_cons_succ]
                    refine held_take 18 rx18 (some 138) ?_ rfl rfl (by kernel_rfl) (by kernel_rfl) (by kernel_rfl) (fun _ _ _ h => h) (Or.inl ⟨by rfl, ?_⟩) hX5 ?_
                    rotate_left
                    · intro w0 hy0; obtain ⟨s0, s1, s2, s3, s4, s5, s6, s7, s8, s9, s10, s11, s12⟩ := HQ.out w0 hy0; (go_simp <;> with_reducible rfl)
                    simp only [Act.put, List.setIfInBounds_toArray, List.set_cons_zero, List.set_cons_succ]
                    refine held_take 19 rx19 (some 139) ?_ rfl rfl (by kernel_rfl) (by kernel_rfl) (by kernel_rfl) (fun _ _ _ h => h) (Or.inl ⟨by rfl, ?_⟩) hX5 ?_
                    rotate_left
                    · intro w0 hy0; obtain ⟨s0, s1, s2, s3, s4, s5, s6, s7, s8, s9, s10, s11, s12⟩ := HQ.out w0 hy0; (go_simp <;> with_reducible rfl)
                    simp only [Act.put, List.setIfInBounds_toArray, List.set_cons_zero, List.set_cons_succ]
                    refine held_take 20 rx20 (some 140) ?_ rfl rfl (by kernel_rfl) (by kernel_rfl) (by kernel_rfl) (fun _ _ _ h => h) (Or.inl ⟨by rfl, ?_⟩) hX5 ?_
                    rotate_left
                    · intro w0 hy0; obtain ⟨s0, s1, s2, s3, s4, s5, s6, s7, s8, s9, s10, s11, s12⟩ := HQ.out w0 hy0; (go_simp <;> with_reducible rfl)
                    simp only [Act.put, List.setIfInBounds_toArray, List.set_cons_zero, List.set_cons_succ]
                    refine held_take 21 rx21 (some 141) ?_ rfl rfl (by kernel_rfl) (by kernel_rfl) (by kernel_rfl) (fun _ _ _ h => h) (Or.inl ⟨by rfl, ?_⟩) hX5 ?_
                    rotate_left
                    · intro w0 hy0; obtain ⟨s0, s1, s2, s3, s4, s5, s6, s7, s8, s9, s10, s11, s12⟩ := HQ.out w0 hy0; (go_simp <;> with_reducible rfl)
                    simp only [Act.put, List.setIfInBounds_toArray, List.set_cons_zero, List.set_cons_succ]
                    refine held_take 22 rx22 (some 142) ?_ rfl rfl (by kernel_rfl) (by kernel_rfl) (by kernel_rfl) (fun _ _ _ h => h) (Or.inl ⟨by rfl, ?_⟩) hX5 ?_
                    rotate_left
                    · intro w0 hy0; obtain ⟨s0, s1, s2, s3, s4, s5, s6, s7, s8, s9, s10, s11, s12⟩ := HQ.out w0 hy0; (go_simp <;> with_reducible rfl)
                    simp only [Act.put, List.setIfInBounds_toArray, List.set_cons_zero, List.set_cons_succ]
                    refine held_take 23 rx23 (some 143) ?_ rfl rfl (by kernel_rfl) (by kernel_rfl) (by kernel_rfl) (fun _ _ _ h => h) (Or.inl ⟨by rfl, ?_⟩) hX5 ?_
                    rotate_left
                    · intro w0 hy0; obtain ⟨s0, s1, s2, s3, s4, s5, s6, s7, s8, s9, s10, s11, s12⟩ := HQ.out w0 hy0; (go_simp <;> with_reducible rfl)
                    simp only [Act.put, List.setIfInBounds_toArray, List.set_cons_zero, List.set_cons_succ]
                    refine held_take 24 rx24 (some 144) ?_ rfl rfl (by kernel_rfl) (by kernel_rfl) (by kernel_rfl) (fun _ _ _ h => h) (Or.inl ⟨by rfl, ?_⟩) hX5 ?_
                    rotate_left
                    · intro w0 hy0; obtain ⟨s0, s1, s2, s3, s4, s5, s6, s7, s8, s9, s10, s11, s12⟩ := HQ.out w0 hy0; (go_simp <;> with_reducible rfl)
                    simp only [Act.put, List.setIfInBounds_toArray, List.set_cons_zero, List.set_cons_succ]
                    refine held_take 25 rx25 (some 145) ?_ rfl rfl (by kernel_rfl) (by kernel_rfl) (by kernel_rfl) (fun _ _ _ h => h) (Or.inl ⟨by rfl, ?_⟩) hX5 ?_
                    rotate_left
                    · intro w0 hy0; obtain ⟨s0, s1, s2, s3, s4, s5, s6, s7, s8, s9, s10, s11, s12⟩ := HQ.out w0 hy0; (go_simp <;> with_reducible rfl)
                    simp only [Act.put, List.setIfInBounds_toArray, List.set_cons_zero, List.set_cons_succ]
                    refine held_take 26 rx26 (some 146) ?_ rfl rfl (by kernel_rfl) (by kernel_rfl) (by kernel_rfl) (fun _ _ _ h => h) (Or.inl ⟨by rfl, ?_⟩) hX5 ?_
                    rotate_left
                    · intro w0 hy0; obtain ⟨s0, s1, s2, s3, s4, s5, s6, s7, s8, s9, s10, s11, s12⟩ := HQ.out w0 hy0; (go_simp <;> with_reducible rfl)
                    simp only [Act.put, List.setIfInBounds_toArray, List.set_cons_zero, List.set_cons_succ]
                    refine held_take 27 rx27 (some 147) ?_ rfl rfl (by kernel_rfl) (by kernel_rfl) (by kernel_rfl) (fun _ _ _ h => h) (Or.inl ⟨by rfl, ?_⟩) hX5 ?_
                    rotate_left
                    · intro w0 hy0; obtain ⟨s0, s1, s2, s3, s4, s5, s6, s7, s8, s9, s10, s11, s12⟩ := HQ.out w0 hy0; (go_simp <;> with_reducible rfl)
                    simp only [Act.put, List.setIfInBounds_toArray, List.set_cons_zero, List.set_cons_succ]
                    refine held_take 28 rx28 (some 148) ?_ rfl rfl (by kernel_rfl) (by kernel_rfl) (by kernel_rfl) (fun _ _ _ h => h) (Or.inl ⟨by rfl, ?_⟩) hX5 ?_
                    rotate_left
                    · intro w0 hy0; obtain ⟨s0, s1, s2, s3, s4, s5, s6, s7, s8, s9, s10, s11, s12⟩ := HQ.out w0 hy0; (go_simp <;> with_reducible rfl)
                    simp only [Act.put, List.setIfInBounds_toArray, List.set_cons_zero, List.set_cons_succ]
                    refine held_take 29 rx29 (some 149) ?_ rfl rfl (by kernel_rfl) (by kernel_rfl) (by kernel_rfl) (fun _ _ _ h => h) (Or.inl ⟨by rfl, ?_⟩) hX5 ?_
                    rotate_left
                    · intro w0 hy0; obtain ⟨s0, s1, s2, s3, s4, s5, s6, s7, s8, s9, s10, s11, s12⟩ := HQ.out w0 hy0; (go_simp <;> with_reducible rfl)
                    simp only [Act.put, List.setIfInBounds_toArray, List.set_cons_zero, List.set_cons_succ]
                    refine held_skip 30 rx30 (some 150) rfl rfl (by kernel_rfl) (by kernel_rfl) (by kernel_rfl) (fun _ _ _ h => h) (by rfl) hX5 ?_
                    simp only [Act.put, List.setIfInBounds_toArray, List.set_cons_zero, List.set_cons_succ]
                    refine held_skip 31 rx31 (some 151) rfl rfl (by kernel_rfl) (by kernel_rfl) (by kernel_rfl) (fun _ _ _ h => h) (by rfl) hX5 ?_
                    simp only [Act.put, List.setIfInBounds_toArray, List.set_cons_zero, List.set_cons_succ]
                    refine held_skip 32 rx32 (some 152) rfl rfl (by kernel_rfl) (by kernel_rfl) (by kernel_rfl) (fun _ _ _ h => h) (by rfl) hX5 ?_
                    simp only [Act.put, List.setIfInBounds_toArray, List.set_cons_zero, List.set_cons_succ]
                    refine held_take 33 rx33 (some 153) ?_ rfl rfl (by kernel_rfl) (by kernel_rfl) (by kernel_rfl) (fun _ _ _ h => h) (Or.inl ⟨by rfl, ?_⟩) hX5 ?_
                    rotate_left
                    · intro w0 hy0; obtain ⟨s0, s1, s2, s3, s4, s5, s6, s7, s8, s9, s10, s11, s12⟩ := HQ.out w0 hy0; (go_simp <;> with_reducible rfl)
                    simp only [Act.put, List.setIfInBounds_toArray, List.set_cons_zero, List.set_cons_succ]
                    refine held_take 34 rx34 (some 154) ?_ rfl rfl (by kernel_rfl) (by kernel_rfl) (by kernel_rfl) (fun _ _ _ h => h) (Or.inl ⟨by rfl, ?_⟩) hX5 ?_
                    rotate_left
                    · intro w0 hy0; obtain ⟨s0, s1, s2, s3, s4, s5, s6, s7, s8, s9, s10, s11, s12⟩ := HQ.out w0 hy0; (go_simp <;> with_reducible rfl)
                    simp only [Act.put, List.setIfInBounds_toArray, List.set_cons_zero, List.set_cons_succ]
                    refine wpAnyH_done (by kernel_rfl) ?_ _
                    have hE := hX5.drop
                    clear HQ HF HGt
                    go_wp2
                    go_roundw
                    case rel => exact ⟨i + 1, by omega, by go_num, hE⟩
                    case measure => simp [intOf]; omega
                · obtain ⟨q1, q2, q3⟩ := gne hij
                  rw [q1, q2, q3] at hGt
                  replace hGt : DoesG Tryd.prog (bookA p 99 T) 17 #[.pointer (some ⟨p, 0, none⟩), .string (ss.getD i ⟨#[]⟩), .int .i64 ((j : Int) + 1), .int .i64 (ps.getD j 0)] (.returned (.tuple #[.agg #[.int .i64 0, .int .i64 0, .int .i64 0, .int .i64 0, .int .i64 0, .int .i64 0, .int .i64 0, .int .i64 0, .int .i64 0, .int .i64 0, .int .i64 0], .int .i64 0, .int .i64 901])) (bookA p 99 T) := hGt
                  generalize ss.getD i ⟨#[]⟩ = SI at hF0 hGt
                  generalize ps.getD j 0 = PJ at hF0 hGt
                  generalize ps.getD (i + 1) 0 = PI at hQ0
                  generalize rs.getD i Rc.zero = Y at hQ0
                  have HGt := Lib.hid hGt
                  have HF := Lib.hid hF0
                  have HQ0 := Lib.hid hQ0
                  have hn1 : ((i : Int) == (j : Int)) = false := by simp; omega
                  have hn2 : ((i : Int) != (j : Int)) = true := by simp; omega
                  clear geq gne q1 q2 q3 hGt hij hF0 hQ0 g64
                  have hX := hS.lay (rrA_good _ _ _ _ _ _ _ _) (bdrew _)
                  go_wp2
                  refine region_held (S := fun W => At w (rrA p T (.slice (some ⟨gs, 0, none⟩) rs.length sc) (.slice (some ⟨gr, 0, none⟩) rs.length rc) (.slice (some ⟨gp, 0, none⟩) (rs.length + 1) cp) ss rs ps) W) 20 [false, false, false, false, false, false, false, false, false, false, false, false, false, false, false, false, false, false, false, false] rfl rfl (by kernel_rfl) fun W hW => ?_
                  have hSW : At w (rrA p T (.slice (some ⟨gs, 0, none⟩) rs.length sc) (.slice (some ⟨gr, 0, none⟩) rs.length rc) (.slice (some ⟨gp, 0, none⟩) (rs.length + 1) cp) ss rs ps) W := by rw [hW]; exact hX
                  clear hX hW
                  refine held_take 0 rb0 (some 105) ?_ rfl rfl (by kernel_rfl) (by kernel_rfl) (by kernel_rfl) (fun _ _ _ h => h) (Or.inl ⟨by rfl, ?_⟩) hSW ?_
                  rotate_left
                  · intro w0 hy0; obtain ⟨y0, y1⟩ := HF.out w0 hy0; (go_simp <;> with_reducible rfl)
                  simp only [Act.put, List.setIfInBounds_toArray, List.set_cons_zero, List.set_cons_succ]
                  refine held_take 1 rb1 (some 106) ?_ rfl rfl (by kernel_rfl) (by kernel_rfl) (by kernel_rfl) (fun _ _ _ h => h) (Or.inl ⟨by rfl, ?_⟩) hSW ?_
                  rotate_left
                  · intro w0 hy0; obtain ⟨y0, y1⟩ := HF.out w0 hy0; (go_simp <;> with_reducible rfl)
                  simp only [Act.put, List.setIfInBounds_toArray, List.set_cons_zero, List.set_cons_succ]
                  refine held_take 2 rb2 (some 107) ?_ rfl rfl (by kernel_rfl) (by kernel_rfl) (by kernel_rfl) (fun _ _ _ h => h) (Or.inl ⟨by rfl, ?_⟩) hSW ?_
                  rotate_left
                  · intro w0 hy0; obtain ⟨y0, y1⟩ := HF.out w0 hy0; (go_simp <;> with_reducible rfl)
                  simp only [Act.put, List.setIfInBounds_toArray, List.set_cons_zero, List.set_cons_succ]
                  refine held_take 3 rb3 (some 108) ?_ rfl rfl (by kernel_rfl) (by kernel_rfl) (by kernel_rfl) (fun _ _ _ h => h) (Or.inl ⟨by rfl, ?_⟩) hSW ?_
                  rotate_left
                  · intro w0 hy0; obtain ⟨y0, y1⟩ := HF.out w0 hy0; (go_simp <;> with_reducible rfl)
                  simp only [Act.put, List.setIfInBounds_toArray, List.set_cons_zero, List.set_cons_succ]
                  refine held_take 4 rb4 (some 109) ?_ rfl rfl (by kernel_rfl) (by kernel_rfl) (by kernel_rfl) (fun _ _ _ h => h) (Or.inl ⟨by rfl, ?_⟩) hSW ?_
                  rotate_left
                  · intro w0 hy0; obtain ⟨y0, y1⟩ := HF.out w0 hy0; (go_simp <;> with_reducible rfl)
                  simp only [Act.put, List.setIfInBounds_toArray, List.set_cons_zero, List.set_cons_succ]
                  refine held_take 5 rb5 (some 110) ?_ rfl rfl (by kernel_rfl) (by kernel_rfl) (by kernel_rfl) (fun _ _ _ h => h) (Or.inl ⟨by rfl, ?_⟩) hSW ?_
                  rotate_left
                  · intro w0 hy0; obtain ⟨y0, y1⟩ := HF.out w0 hy0; (go_simp <;> with_reducible rfl)
                  simp only [Act.put, List.setIfInBounds_toArray, List.set_cons_zero, List.set_cons_succ]
                  refine held_take 6 rb6 (some 111) ?_ rfl rfl (by kernel_rfl) (by kernel_rfl) (by kernel_rfl) (fun _ _ _ h => h) (Or.inl ⟨by rfl, ?_⟩) hSW ?_
                  rotate_left
                  · intro w0 hy0; obtain ⟨y0, y1⟩ := HF.out w0 hy0; (go_simp <;> with_reducible rfl)
                  simp only [Act.put, List.setIfInBounds_toArray, List.set_cons_zero, List.set_cons_succ]
                  refine held_take 7 rb7 (some 112) ?_ rfl rfl (by kernel_rfl) (by kernel_rfl) (by kernel_rfl) (fun _ _ _ h => h) (Or.inl ⟨by rfl, ?_⟩) hSW ?_
                  rotate_left
                  · intro w0 hy0; obtain ⟨y0, y1⟩ := HF.out w0 hy0; (go_simp <;> with_reducible rfl)
                  simp only [Act.put, List.setIfInBounds_toArray, List.set_cons_zero, List.set_cons_succ]
                  refine held_take 8 rb8 (some 113) ?_ rfl rfl (by kernel_rfl) (by kernel_rfl) (by kernel_rfl) (fun _ _ _ h => h) (Or.inl ⟨by rfl, ?_⟩) hSW ?_
                  rotate_left
                  · intro w0 hy0; obtain ⟨y0, y1⟩ := HF.out w0 hy0; (go_simp <;> with_reducible rfl)
                  simp only [Act.put, List.setIfInBounds_toArray, List.set_cons_zero, List.set_cons_succ]
                  refine held_take 9 rb9 (some 114) ?_ rfl rfl (by kernel_rfl) (by kernel_rfl) (by kernel_rfl) (fun _ _ _ h => h) (Or.inl ⟨by rfl, ?_⟩) hSW ?_
                  rotate_left
                  · intro w0 hy0; obtain ⟨y0, y1⟩ := HF.out w0 hy0; (go_simp <;> with_reducible rfl)
                  simp only [Act.put, List.setIfInBounds_toArray, List.set_cons_zero, List.set_cons_succ]
                  refine held_take 10 rb10 (some 115) ?_ rfl rfl (by kernel_rfl) (by kernel_rfl) (by kernel_rfl) (fun _ _ _ h => h) (Or.inl ⟨by rfl, ?_⟩) hSW ?_
                  rotate_left
                  · intro w0 hy0; obtain ⟨y0, y1⟩ := HF.out w0 hy0; (go_simp <;> with_reducible rfl)
                  simp only [Act.put, List.setIfInBounds_toArray, List.set_cons_zero, List.set_cons_succ]
                  refine held_two 11 16 (by kernel_rfl) ?_ ?_
                  · refine op_call 11 rb11 (some 116) (.tuple #[.agg #[.int .i64 0, .int .i64 0, .int .i64 0, .int .i64 0, .int .i64 0, .int .i64 0, .int .i64 0, .int .i64 0, .int .i64 0, .int .i64 0, .int .i64 0], .int .i64 0, .int .i64 901]) (fun Z9 => At w (rrA p T (.slice (some ⟨gs, 0, none⟩) rs.length sc) (.slice (some ⟨gr, 0, none⟩) rs.length rc) (.slice (some ⟨gp, 0, none⟩) (rs.length + 1) cp) ss rs ps) Z9) 17 #[.pointer (some ⟨p, 0, none⟩), .string SI, .int .i64 ((j : Int) + 1), .int .i64 PJ] rfl rfl (by rfl) (exec_get (.tmp 105) (.tmp 109) (.tmp 111) (.tmp 115) rfl rfl rfl rfl rfl) (At.opG HGt.out (Ass.imp.up3 _ _ _ _ _) (Ass.imp.dn3 _ _ _ _ _) ((rowA_good _ _ _).star ((rowW_good _ _ _ _ _).star ((rowA_good _ _ _).star emp_good))) HG.out hSW) (fun X hX => hX) ?_
                    intro X hX
                    simp only [Act.put, List.setIfInBounds_toArray, List.set_cons_zero, List.set_cons_succ]
                    refine held_take 12 rb12 (some 104) ?_ rfl rfl (by kernel_rfl) (by kernel_rfl) (by kernel_rfl) (fun _ _ _ h => h) (Or.inl ⟨by rfl, ?_⟩) hX ?_
                    rotate_left
                    · intro w0 hy0; (go_simp <;> with_reducible rfl)
                    simp only [Act.put, List.setIfInBounds_toArray, List.set_cons_zero, List.set_cons_succ]
                    refine held_take 13 rb13 (some 117) ?_ rfl rfl (by kernel_rfl) (by kernel_rfl) (by kernel_rfl) (fun _ _ _ h => h) (Or.inl ⟨by rfl, ?_⟩) hX ?_
                    rotate_left
                    · intro w0 hy0; (go_simp <;> with_reducible rfl)
                    simp only [Act.put, List.setIfInBounds_toArray, List.set_cons_zero, List.set_cons_succ]
                    refine held_take 14 rb14 (some 118) ?_ rfl rfl (by kernel_rfl) (by kernel_rfl) (by kernel_rfl) (fun _ _ _ h => h) (Or.inl ⟨by rfl, ?_⟩) hX ?_
                    rotate_left
                    · intro w0 hy0; (go_simp <;> with_reducible rfl)
                    simp only [Act.put, List.setIfInBounds_toArray, List.set_cons_zero, List.set_cons_succ]
                    refine held_take 15 rb15 (some 119) ?_ rfl rfl (by kernel_rfl) (by kernel_rfl) (by kernel_rfl) (fun _ _ _ h => h) (Or.inl ⟨by rfl, ?_⟩) hX ?_
                    rotate_left
                    · intro w0 hy0; (go_simp <;> with_reducible rfl)
                    simp only [Act.put, List.setIfInBounds_toArray, List.set_cons_zero, List.set_cons_succ]
                    have hX1 := hX.lay1 (rrA_good _ _ _ _ _ _ _ _) (.cells Z11 34)
                    have hX2 := hX.lay1 (rrA_good _ _ _ _ _ _ _ _) (.cells #[.int .i64 0, .int .i64 0, .int .i64 0, .int .i64 0, .int .i64 0, .int .i64 0, .int .i64 0, .int .i64 0, .int .i64 0, .int .i64 0, .int .i64 0] 34)
                    have hZ := hX.hold (rrA_good _ _ _ _ _ _ _ _) #[.int .i64 0, .int .i64 0, .int .i64 0, .int .i64 0, .int .i64 0, .int .i64 0, .int .i64 0, .int .i64 0, .int .i64 0, .int .i64 0, .int .i64 0] 34
                    refine held_one 16 rb16 (some 18) (.pointer (some ⟨X.heap.size, 0, none⟩)) _ (by kernel_rfl) rfl rfl (by rfl) (exec_alloc_rc rfl) hX1 ?_
                    simp only [Act.put, List.setIfInBounds_toArray, List.set_cons_zero, List.set_cons_succ]
                    refine held_void 17 rb17 _ (by kernel_rfl) rfl (by rfl) (exec_store_rc (.tmp 18) (.tmp 117) rfl (0) (0) (0) (0) (0) (0) (0) (0) (0) (0) (0) rfl rfl) hX2 ?_
                    simp only [Act.put, List.setIfInBounds_toArray, List.set_cons_zero, List.set_cons_succ]
                    refine held_take 18 rb18 (some 19) ?_ rfl rfl (by kernel_rfl) (by kernel_rfl) (by kernel_rfl) (fun _ _ _ h => h) (Or.inl ⟨by rfl, ?_⟩) hX2 ?_
                    rotate_left
                    · intro w0 hy0; (go_simp <;> with_reducible rfl)
                    simp only [Act.put, List.setIfInBounds_toArray, List.set_cons_zero, List.set_cons_succ]
                    refine held_take 19 rb19 (some 20) ?_ rfl rfl (by kernel_rfl) (by kernel_rfl) (by kernel_rfl) (fun _ _ _ h => h) (Or.inl ⟨by rfl, ?_⟩) hX2 ?_
                    rotate_left
                    · intro w0 hy0; (go_simp <;> with_reducible rfl)
                    simp only [Act.put, List.setIfInBounds_toArray, List.set_cons_zero, List.set_cons_succ]
                    refine wpAnyH_done (by kernel_rfl) ?_ _
                    have HQ := Lib.hid (fun Z8 (h : At w ((ownA X.heap.size #[.int .i64 0, .int .i64 0, .int .i64 0, .int .i64 0, .int .i64 0, .int .i64 0, .int .i64 0, .int .i64 0, .int .i64 0, .int .i64 0, .int .i64 0] 34).star (rrA p T (.slice (some ⟨gs, 0, none⟩) rs.length sc) (.slice (some ⟨gr, 0, none⟩) rs.length rc) (.slice (some ⟨gp, 0, none⟩) (rs.length + 1) cp) ss rs ps)) Z8) => HQ0.out _ _ Z8 h)
                    go_wp2
                    refine region_held (S := fun Z8 => At w ((ownA X.heap.size #[.int .i64 0, .int .i64 0, .int .i64 0, .int .i64 0, .int .i64 0, .int .i64 0, .int .i64 0, .int .i64 0, .int .i64 0, .int .i64 0, .int .i64 0] 34).star (rrA p T (.slice (some ⟨gs, 0, none⟩) rs.length sc) (.slice (some ⟨gr, 0, none⟩) rs.length rc) (.slice (some ⟨gp, 0, none⟩) (rs.length + 1) cp) ss rs ps)) Z8) 35 [false, false, false, false, false, false, false, false, false, false, false, false, false, false, false, false, false, false, false, false, false, false, false, false, false, false, false, false, false, false, false, false, false, false, false] rfl rfl (by kernel_rfl) fun W2 hW2 => ?_
                    have hZW : At w ((ownA X.heap.size #[.int .i64 0, .int .i64 0, .int .i64 0, .int .i64 0, .int .i64 0, .int .i64 0, .int .i64 0, .int .i64 0, .int .i64 0, .int .i64 0, .int .i64 0] 34).star (rrA p T (.slice (some ⟨gs, 0, none⟩) rs.length sc) (.slice (some ⟨gr, 0, none⟩) rs.length rc) (.slice (some ⟨gp, 0, none⟩) (rs.length + 1) cp) ss rs ps)) W2 := by rw [hW2]; exact hZ.lay ((ownA_good _ _ _).star (rrA_good _ _ _ _ _ _ _ _)) (bdrew _)
                    clear hZ hW2
                    refine held_take 0 rx0 (some 120) ?_ rfl rfl (by kernel_rfl) (by kernel_rfl) (by kernel_rfl) (fun _ _ _ h => h) (Or.inl ⟨by rfl, ?_⟩) hZW ?_
                    rotate_left
                    · intro w0 hy0; obtain ⟨s0, s1, s2, s3, s4, s5, s6, s7, s8, s9, s10, s11, s12⟩ := HQ.out w0 hy0; (go_simp <;> with_reducible rfl)
                    simp only [Act.put, List.setIfInBounds_toArray, List.set_cons_zero, List.set_cons_succ]
                    refine held_take 1 rx1 (some 121) ?_ rfl rfl (by kernel_rfl) (by kernel_rfl) (by kernel_rfl) (fun _ _ _ h => h) (Or.inl ⟨by rfl, ?_⟩) hZW ?_
                    rotate_left
                    · intro w0 hy0; obtain ⟨s0, s1, s2, s3, s4, s5, s6, s7, s8, s9, s10, s11, s12⟩ := HQ.out w0 hy0; (go_simp <;> with_reducible rfl)
                    simp only [Act.put, List.setIfInBounds_toArray, List.set_cons_zero, List.set_cons_succ]
                    refine held_take 2 rx2 (some 122) ?_ rfl rfl (by kernel_rfl) (by kernel_rfl) (by kernel_rfl) (fun _ _ _ h => h) (Or.inl ⟨by rfl, ?_⟩) hZW ?_
                    rotate_left
                    · intro w0 hy0; obtain ⟨s0, s1, s2, s3, s4, s5, s6, s7, s8, s9, s10, s11, s12⟩ := HQ.out w0 hy0; (go_simp <;> with_reducible rfl)
                    simp only [Act.put, List.setIfInBounds_toArray, List.set_cons_zero, List.set_cons_succ]
                    refine held_take 3 rx3 (some 123) ?_ rfl rfl (by kernel_rfl) (by kernel_rfl) (by kernel_rfl) (fun _ _ _ h => h) (Or.inl ⟨by rfl, ?_⟩) hZW ?_
                    rotate_left
                    · intro w0 hy0; obtain ⟨s0, s1, s2, s3, s4, s5, s6, s7, s8, s9, s10, s11, s12⟩ := HQ.out w0 hy0; (go_simp <;> with_reducible rfl)
                    simp only [Act.put, List.setIfInBounds_toArray, List.set_cons_zero, List.set_cons_succ]
                    refine held_skip 4 rx4 (some 124) rfl rfl (by kernel_rfl) (by kernel_rfl) (by kernel_rfl) (fun _ _ _ h => h) (by rfl) hZW ?_
                    simp only [Act.put, List.setIfInBounds_toArray, List.set_cons_zero, List.set_cons_succ]
                    refine held_skip 5 rx5 (some 125) rfl rfl (by kernel_rfl) (by kernel_rfl) (by kernel_rfl) (fun _ _ _ h => h) (by rfl) hZW ?_
                    simp only [Act.put, List.setIfInBounds_toArray, List.set_cons_zero, List.set_cons_succ]
                    refine held_skip 6 rx6 (some 126) rfl rfl (by kernel_rfl) (by kernel_rfl) (by kernel_rfl) (fun _ _ _ h => h) (by rfl) hZW ?_
                    simp only [Act.put, List.setIfInBounds_toArray, List.set_cons_zero, List.set_cons_succ]
                    refine held_skip 7 rx7 (some 127) rfl rfl (by kernel_rfl) (by kernel_rfl) (by kernel_rfl) (fun _ _ _ h => h) (by rfl) hZW ?_
                    simp only [Act.put, List.setIfInBounds_toArray, List.set_cons_zero, List.set_cons_succ]
                    refine held_skip 8 rx8 (some 128) rfl rfl (by kernel_rfl) (by kernel_rfl) (by kernel_rfl) (fun _ _ _ h => h) (by rfl) hZW ?_
                    simp only [Act.put, List.setIfInBounds_toArray, List.set_cons_zero, List.set_cons_succ]
                    refine held_skip 9 rx9 (some 129) rfl rfl (by kernel_rfl) (by kernel_rfl) (by kernel_rfl) (fun _ _ _ h => h) (by rfl) hZW ?_
                    simp only [Act.put, List.setIfInBounds_toArray, List.set_cons_zero, List.set_cons_succ]
                    refine held_skip 10 rx10 (some 130) rfl rfl (by kernel_rfl) (by kernel_rfl) (by kernel_rfl) (fun _ _ _ h => h) (by rfl) hZW ?_
                    simp only [Act.put, List.setIfInBounds_toArray, List.set_cons_zero, List.set_cons_succ]
                    refine held_skip 11 rx11 (some 131) rfl rfl (by kernel_rfl) (by kernel_rfl) (by kernel_rfl) (fun _ _ _ h => h) (by rfl) hZW ?_
                    simp only [Act.put, List.setIfInBounds_toArray, List.set_cons_zero, List.set_cons_succ]
                    refine held_skip 12 rx12 (some 132) rfl rfl (by kernel_rfl) (by kernel_rfl) (by kernel_rfl) (fun _ _ _ h => h) (by rfl) hZW ?_
                    simp only [Act.put, List.setIfInBounds_toArray, List.set_cons_zero, List.set_cons_succ]
                    refine held_skip 13 rx13 (some 133) rfl rfl (by kernel_rfl) (by kernel_rfl) (by kernel_rfl) (fun _ _ _ h => h) (by rfl) hZW ?_
                    simp only [Act.put, List.setIfInBounds_toArray, List.set_cons_zero, List.set_cons_succ]
                    refine held_skip 14 rx14 (some 134) rfl rfl (by kernel_rfl) (by kernel_rfl) (by kernel_rfl) (fun _ _ _ h => h) (by rfl) hZW ?_
                    simp only [Act.put, List.setIfInBounds_toArray, List.set_cons_zero, List.set_cons_succ]
                    refine held_skip 15 rx15 (some 135) rfl rfl (by kernel_rfl) (by kernel_rfl) (by kernel_rfl) (fun _ _ _ h => h) (by rfl) hZW ?_
                    simp only [Act.put, List.setIfInBounds_toArray, List.set_cons_zero, List.set_cons_succ]
                    refine held_skip 16 rx16 (some 136) rfl rfl (by kernel_rfl) (by kernel_rfl) (by kernel_rfl) (fun _ _ _ h => h) (by rfl) hZW ?_
                    simp only [Act.put, List.setIfInBounds_toArray, List.set_cons_zero, List.set_cons_succ]
                    refine held_skip 17 rx17 (some 137) rfl rfl (by kernel_rfl) (by kernel_rfl) (by kernel_rfl) (fun _ _ _ h => h) (by rfl) hZW ?_
                    simp only [Act.put, List.setIfInBounds_toArray, List.set_cons_zero, List.set_cons_succ]
                    refine held_skip 18 rx18 (some 138) rfl rfl (by kernel_rfl) (by kernel_rfl) (by kernel_rfl) (fun _ _ _ h => h) (by rfl) hZW ?_
                    simp only [Act.put, List.setIfInBounds_toArray, List.set_cons_zero, List.set_cons_succ]
                    refine held_skip 19 rx19 (some 139) rfl rfl (by kernel_rfl) (by kernel_rfl) (by kernel_rfl) (fun _ _ _ h => h) (by rfl) hZW ?_
                    simp only [Act.put, List.setIfInBounds_toArray, List.set_cons_zero, List.set_cons_succ]
                    refine held_skip 20 rx20 (some 140) rfl rfl (by kernel_rfl) (by kernel_rfl) (by kernel_rfl) (fun _ _ _ h => h) (by rfl) hZW ?_
                    simp only [Act.put, List.setIfInBounds_toArray, List.set_cons_zero, List.set_cons_succ]
                    refine held_skip 21 rx21 (some 141) rfl rfl (by kernel_rfl) (by kernel_rfl) (by kernel_rfl) (fun _ _ _ h => h) (by rfl) hZW ?_
                    simp only [Act.put, List.setIfInBounds_toArray, List.set_cons_zero, List.set_cons_succ]
                    refine held_skip 22 rx22 (some 142) rfl rfl (by kernel_rfl) (by kernel_rfl) (by kernel_rfl) (fun _ _ _ h => h) (by rfl) hZW ?_
                    simp only [Act.put, List.setIfInBounds_toArray, List.set_cons_zero, List.set_cons_succ]
                    refine held_skip 23 rx23 (some 143) rfl rfl (by kernel_rfl) (by kernel_rfl) (by kernel_rfl) (fun _ _ _ h => h) (by rfl) hZW ?_
                    simp only [Act.put, List.setIfInBounds_toArray, List.set_cons_zero, List.set_cons_succ]
                    refine held_take 24 rx24 (some 144) ?_ rfl rfl (by kernel_rfl) (by kernel_rfl) (by kernel_rfl) (fun _ _ _ h => h) (Or.inl ⟨by rfl, ?_⟩) hZW ?_
                    rotate_left
                    · intro w0 hy0; obtain ⟨s0, s1, s2, s3, s4, s5, s6, s7, s8, s9, s10, s11, s12⟩ := HQ.out w0 hy0; (go_simp <;> with_reducible rfl)
                    simp only [Act.put, List.setIfInBounds_toArray, List.set_cons_zero, List.set_cons_succ]
                    refine held_take 25 rx25 (some 145) ?_ rfl rfl (by kernel_rfl) (by kernel_rfl) (by kernel_rfl) (fun _ _ _ h => h) (Or.inl ⟨by rfl, ?_⟩) hZW ?_
                    rotate_left
                    · intro w0 hy0; obtain ⟨s0, s1, s2, s3, s4, s5, s6, s7, s8, s9, s10, s11, s12⟩ := HQ.out w0 hy0; (go_simp <;> with_reducible rfl)
                    simp only [Act.put, List.setIfInBounds_toArray, List.set_cons_zero, List.set_cons_succ]
                    refine held_take 26 rx26 (some 146) ?_ rfl rfl (by kernel_rfl) (by kernel_rfl) (by kernel_rfl) (fun _ _ _ h => h) (Or.inl ⟨by rfl, ?_⟩) hZW ?_
                    rotate_left
                    · intro w0 hy0; obtain ⟨s0, s1, s2, s3, s4, s5, s6, s7, s8, s9, s10, s11, s12⟩ := HQ.out w0 hy0; (go_simp <;> with_reducible rfl)
                    simp only [Act.put, List.setIfInBounds_toArray, List.set_cons_zero, List.set_cons_succ]
                    refine held_take 27 rx27 (some 147) ?_ rfl rfl (by kernel_rfl) (by kernel_rfl) (by kernel_rfl) (fun _ _ _ h => h) (Or.inl ⟨by rfl, ?_⟩) hZW ?_
                    rotate_left
                    · intro w0 hy0; obtain ⟨s0, s1, s2, s3, s4, s5, s6, s7, s8, s9, s10, s11, s12⟩ := HQ.out w0 hy0; (go_simp <;> with_reducible rfl)
                    simp only [Act.put, List.setIfInBounds_toArray, List.set_cons_zero, List.set_cons_succ]
                    refine held_take 28 rx28 (some 148) ?_ rfl rfl (by kernel_rfl) (by kernel_rfl) (by kernel_rfl) (fun _ _ _ h => h) (Or.inl ⟨by rfl, ?_⟩) hZW ?_
                    rotate_left
                    · intro w0 hy0; obtain ⟨s0, s1, s2, s3, s4, s5, s6, s7, s8, s9, s10, s11, s12⟩ := HQ.out w0 hy0; (go_simp <;> with_reducible rfl)
                    simp only [Act.put, List.setIfInBounds_toArray, List.set_cons_zero, List.set_cons_succ]
                    refine held_take 29 rx29 (some 149) ?_ rfl rfl (by kernel_rfl) (by kernel_rfl) (by kernel_rfl) (fun _ _ _ h => h) (Or.inl ⟨by rfl, ?_⟩) hZW ?_
                    rotate_left
                    · intro w0 hy0; obtain ⟨s0, s1, s2, s3, s4, s5, s6, s7, s8, s9, s10, s11, s12⟩ := HQ.out w0 hy0; (go_simp <;> with_reducible rfl)
                    simp only [Act.put, List.setIfInBounds_toArray, List.set_cons_zero, List.set_cons_succ]
                    refine held_take 30 rx30 (some 150) ?_ rfl rfl (by kernel_rfl) (by kernel_rfl) (by kernel_rfl) (fun _ _ _ h => h) (Or.inl ⟨by rfl, ?_⟩) hZW ?_
                    rotate_left
                    · intro w0 hy0; obtain ⟨s0, s1, s2, s3, s4, s5, s6, s7, s8, s9, s10, s11, s12⟩ := HQ.out w0 hy0; (go_simp <;> with_reducible rfl)
                    simp only [Act.put, List.setIfInBounds_toArray, List.set_cons_zero, List.set_cons_succ]
                    refine held_call 31 rx31 (some 151) (.int .i64 901) (fun Z9 => At w ((ownA X.heap.size #[.int .i64 0, .int .i64 0, .int .i64 0, .int .i64 0, .int .i64 0, .int .i64 0, .int .i64 0, .int .i64 0, .int .i64 0, .int .i64 0, .int .i64 0] 34).star (rrA p T (.slice (some ⟨gs, 0, none⟩) rs.length sc) (.slice (some ⟨gr, 0, none⟩) rs.length rc) (.slice (some ⟨gp, 0, none⟩) (rs.length + 1) cp) ss rs ps)) Z9) 16 #[.int .i64 901] (by kernel_rfl) rfl rfl (by rfl) (exec_lnum (.tmp 150) rfl rfl) ((lnum _ _).mono fun e w' ⟨e1, e2⟩ => ⟨e1, e2 ▸ hZW⟩) (fun X hX => hX) ?_
                    intro X31 hX31
                    simp only [Act.put, List.setIfInBounds_toArray, List.set_cons_zero, List.set_cons_succ]
                    refine held_take 32 rx32 (some 152) ?_ rfl rfl (by kernel_rfl) (by kernel_rfl) (by kernel_rfl) (fun _ _ _ h => h) (Or.inl ⟨by rfl, ?_⟩) hX31 ?_
                    rotate_left
                    · intro w0 hy0; obtain ⟨s0, s1, s2, s3, s4, s5, s6, s7, s8, s9, s10, s11, s12⟩ := HQ.out w0 hy0; (go_simp <;> with_reducible rfl)
                    simp only [Act.put, List.setIfInBounds_toArray, List.set_cons_zero, List.set_cons_succ]
                    refine held_take 33 rx33 (some 153) ?_ rfl rfl (by kernel_rfl) (by kernel_rfl) (by kernel_rfl) (fun _ _ _ h => h) (Or.inl ⟨by rfl, ?_⟩) hX31 ?_
                    rotate_left
                    · intro w0 hy0; obtain ⟨s0, s1, s2, s3, s4, s5, s6, s7, s8, s9, s10, s11, s12⟩ := HQ.out w0 hy0; (go_simp <;> with_reducible rfl)
                    simp only [Act.put, List.setIfInBounds_toArray, List.set_cons_zero, List.set_cons_succ]
                    refine held_take 34 rx34 (some 154) ?_ rfl rfl (by kernel_rfl) (by kernel_rfl) (by kernel_rfl) (fun _ _ _ h => h) (Or.inl ⟨by rfl, ?_⟩) hX31 ?_
                    rotate_left
                    · intro w0 hy0; obtain ⟨s0, s1, s2, s3, s4, s5, s6, s7, s8, s9, s10, s11, s12⟩ := HQ.out w0 hy0; (go_simp <;> with_reducible rfl)
                    simp only [Act.put, List.setIfInBounds_toArray, List.set_cons_zero, List.set_cons_succ]
                    refine wpAnyH_done (by kernel_rfl) ?_ _
                    have hE := hX31.drop
                    clear HQ HF HGt
                    go_wp2
                    go_roundw
                    case rel => exact ⟨j + 1, by omega, by go_num, hE⟩
                    case measure => simp [intOf]; omega
                  · have hX1 := hSW.lay1 (rrA_good _ _ _ _ _ _ _ _) (.cells Z11 34)
                    have hX0 := hSW.hold (rrA_good _ _ _ _ _ _ _ _) Z11 34
                    refine op_one 16 rb16 (some 18) (.pointer (some ⟨W.heap.size, 0, none⟩)) _ rfl rfl (by rfl) (exec_alloc_rc rfl) hX1 ?_
                    simp only [Act.put, List.setIfInBounds_toArray, List.set_cons_zero, List.set_cons_succ]
                    refine held_call 11 rb11 (some 116) (.tuple #[.agg #[.int .i64 0, .int .i64 0, .int .i64 0, .int .i64 0, .int .i64 0, .int .i64 0, .int .i64 0, .int .i64 0, .int .i64 0, .int .i64 0, .int .i64 0], .int .i64 0, .int .i64 901]) (fun Z9 => At w ((ownA W.heap.size Z11 34).star (rrA p T (.slice (some ⟨gs, 0, none⟩) rs.length sc) (.slice (some ⟨gr, 0, none⟩) rs.length rc) (.slice (some ⟨gp, 0, none⟩) (rs.length + 1) cp) ss rs ps)) Z9) 17 #[.pointer (some ⟨p, 0, none⟩), .string SI, .int .i64 ((j : Int) + 1), .int .i64 PJ] (by kernel_rfl) rfl rfl (by rfl) (exec_get (.tmp 105) (.tmp 109) (.tmp 111) (.tmp 115) rfl rfl rfl rfl rfl) (At.opG HGt.out (Ass.imp.up4 _ _ _ _ _ _) (Ass.imp.dn4 _ _ _ _ _ _) ((ownA_good _ _ _).star ((rowA_good _ _ _).star ((rowW_good _ _ _ _ _).star ((rowA_good _ _ _).star emp_good)))) HG.out hX0) (fun X hX => hX.drop) ?_
                    intro X hX
                    simp only [Act.put, List.setIfInBounds_toArray, List.set_cons_zero, List.set_cons_succ]
                    refine held_take 12 rb12 (some 104) ?_ rfl rfl (by kernel_rfl) (by kernel_rfl) (by kernel_rfl) (fun _ _ _ h => h) (Or.inl ⟨by rfl, ?_⟩) hX.drop ?_
                    rotate_left
                    · intro w0 hy0; (go_simp <;> with_reducible rfl)
                    simp only [Act.put, List.setIfInBounds_toArray, List.set_cons_zero, List.set_cons_succ]
                    refine held_take 13 rb13 (some 117) ?_ rfl rfl (by kernel_rfl) (by kernel_rfl) (by kernel_rfl) (fun _ _ _ h => h) (Or.inl ⟨by rfl, ?_⟩) hX.drop ?_
                    rotate_left
                    · intro w0 hy0; (go_simp <;> with_reducible rfl)
                    simp only [Act.put, List.setIfInBounds_toArray, List.set_cons_zero, List.set_cons_succ]
                    refine held_take 14 rb14 (some 118) ?_ rfl rfl (by kernel_rfl) (by kernel_rfl) (by kernel_rfl) (fun _ _ _ h => h) (Or.inl ⟨by rfl, ?_⟩) hX.drop ?_
                    rotate_left
                    · intro w0 hy0; (go_simp <;> with_reducible rfl)
                    simp only [Act.put, List.setIfInBounds_toArray, List.set_cons_zero, List.set_cons_succ]
                    refine held_take 15 rb15 (some 119) ?_ rfl rfl (by kernel_rfl) (by kernel_rfl) (by kernel_rfl) (fun _ _ _ h => h) (Or.inl ⟨by rfl, ?_⟩) hX.drop ?_
                    rotate_left
                    · intro w0 hy0; (go_simp <;> with_reducible rfl)
                    simp only [Act.put, List.setIfInBounds_toArray, List.set_cons_zero, List.set_cons_succ]
                    have hZ := hX.poke_all (rrA_good _ _ _ _ _ _ _ _) (0) (0) (0) (0) (0) (0) (0) (0) (0) (0) (0)
                    obtain ⟨e1, f1, l1⟩ := hX.own
                    refine held_void 17 rb17 _ (by kernel_rfl) rfl (by rfl) (exec_store_own (.tmp 18) (.tmp 117) rfl W.heap.size e1 f1 l1 (0) (0) (0) (0) (0) (0) (0) (0) (0) (0) (0) rfl rfl) hZ.drop ?_
                    simp only [Act.put, List.setIfInBounds_toArray, List.set_cons_zero, List.set_cons_succ]
                    refine held_take 18 rb18 (some 19) ?_ rfl rfl (by kernel_rfl) (by kernel_rfl) (by kernel_rfl) (fun _ _ _ h => h) (Or.inl ⟨by rfl, ?_⟩) hZ.drop ?_
                    rotate_left
                    · intro w0 hy0; (go_simp <;> with_reducible rfl)
                    simp only [Act.put, List.setIfInBounds_toArray, List.set_cons_zero, List.set_cons_succ]
                    refine held_take 19 rb19 (some 20) ?_ rfl rfl (by kernel_rfl) (by kernel_rfl) (by kernel_rfl) (fun _ _ _ h => h) (Or.inl ⟨by rfl, ?_⟩) hZ.drop ?_
                    rotate_left
                    · intro w0 hy0; (go_simp <;> with_reducible rfl)
                    simp only [Act.put, List.setIfInBounds_toArray, List.set_cons_zero, List.set_cons_succ]
                    refine wpAnyH_done (by kernel_rfl) ?_ _
                    have HQ := Lib.hid (fun Z8 (h : At w ((ownA W.heap.size #[.int .i64 0, .int .i64 0, .int .i64 0, .int .i64 0, .int .i64 0, .int .i64 0, .int .i64 0, .int .i64 0, .int .i64 0, .int .i64 0, .int .i64 0] 34).star (rrA p T (.slice (some ⟨gs, 0, none⟩) rs.length sc) (.slice (some ⟨gr, 0, none⟩) rs.length rc) (.slice (some ⟨gp, 0, none⟩) (rs.length + 1) cp) ss rs ps)) Z8) => HQ0.out _ _ Z8 h)
                    go_wp2
                    refine region_held (S := fun Z8 => At w ((ownA W.heap.size #[.int .i64 0, .int .i64 0, .int .i64 0, .int .i64 0, .int .i64 0, .int .i64 0, .int .i64 0, .int .i64 0, .int .i64 0, .int .i64 0, .int .i64 0] 34).star (rrA p T (.slice (some ⟨gs, 0, none⟩) rs.length sc) (.slice (some ⟨gr, 0, none⟩) rs.length rc) (.slice (some ⟨gp, 0, none⟩) (rs.length + 1) cp) ss rs ps)) Z8) 35 [false, false, false, false, false, false, false, false, false, false, false, false, false, false, false, false, false, false, false, false, false, false, false, false, false, false, false, false, false, false, false, false, false, false, false] rfl rfl (by kernel_rfl) fun W2 hW2 => ?_
                    have hZW : At w ((ownA W.heap.size #[.int .i64 0, .int .i64 0, .int .i64 0, .int .i64 0, .int .i64 0, .int .i64 0, .int .i64 0, .int .i64 0, .int .i64 0, .int .i64 0, .int .i64 0] 34).star (rrA p T (.slice (some ⟨gs, 0, none⟩) rs.length sc) (.slice (some ⟨gr, 0, none⟩) rs.length rc) (.slice (some ⟨gp, 0, none⟩) (rs.length + 1) cp) ss rs ps)) W2 := by rw [hW2]; exact hZ.lay ((ownA_good _ _ _).star (rrA_good _ _ _ _ _ _ _ _)) (bdrew _)
                    clear hZ hW2
                    refine held_take 0 rx0 (some 120) ?_ rfl rfl (by kernel_rfl) (by kernel_rfl) (by kernel_rfl) (fun _ _ _ h => h) (Or.inl ⟨by rfl, ?_⟩) hZW ?_
                    rotate_left
                    · intro w0 hy0; obtain ⟨s0, s1, s2, s3, s4, s5, s6, s7, s8, s9, s10, s11, s12⟩ := HQ.out w0 hy0; (go_simp <;> with_reducible rfl)
                    simp only [Act.put, List.setIfInBounds_toArray, List.set_cons_zero, List.set_cons_succ]
                    refine held_take 1 rx1 (some 121) ?_ rfl rfl (by kernel_rfl) (by kernel_rfl) (by kernel_rfl) (fun _ _ _ h => h) (Or.inl ⟨by rfl, ?_⟩) hZW ?_
                    rotate_left
                    · intro w0 hy0; obtain ⟨s0, s1, s2, s3, s4, s5, s6, s7, s8, s9, s10, s11, s12⟩ := HQ.out w0 hy0; (go_simp <;> with_reducible rfl)
                    simp only [Act.put, List.setIfInBounds_toArray, List.set_cons_zero, List.set_cons_succ]
                    refine held_take 2 rx2 (some 122) ?_ rfl rfl (by kernel_rfl) (by kernel_rfl) (by kernel_rfl) (fun _ _ _ h => h) (Or.inl ⟨by rfl, ?_⟩) hZW ?_
                    rotate_left
                    · intro w0 hy0; obtain ⟨s0, s1, s2, s3, s4, s5, s6, s7, s8, s9, s10, s11, s12⟩ := HQ.out w0 hy0; (go_simp <;> with_reducible rfl)
                    simp only [Act.put, List.setIfInBounds_toArray, List.set_cons_zero, List.set_cons_succ]
                    refine held_take 3 rx3 (some 123) ?_ rfl rfl (by kernel_rfl) (by kernel_rfl) (by kernel_rfl) (fun _ _ _ h => h) (Or.inl ⟨by rfl, ?_⟩) hZW ?_
                    rotate_left
                    · intro w0 hy0; obtain ⟨s0, s1, s2, s3, s4, s5, s6, s7, s8, s9, s10, s11, s12⟩ := HQ.out w0 hy0; (go_simp <;> with_reducible rfl)
                    simp only [Act.put, List.setIfInBounds_toArray, List.set_cons_zero, List.set_cons_succ]
                    refine held_skip 4 rx4 (some 124) rfl rfl (by kernel_rfl) (by kernel_rfl) (by kernel_rfl) (fun _ _ _ h => h) (by rfl) hZW ?_
                    simp only [Act.put, List.setIfInBounds_toArray, List.set_cons_zero, List.set_cons_succ]
                    refine held_skip 5 rx5 (some 125) rfl rfl (by kernel_rfl) (by kernel_rfl) (by kernel_rfl) (fun _ _ _ h => h) (by rfl) hZW ?_
                    simp only [Act.put, List.setIfInBounds_toArray, List.set_cons_zero, List.set_cons_succ]
                    refine held_skip 6 rx6 (some 126) rfl rfl (by kernel_rfl) (by kernel_rfl) (by kernel_rfl) (fun _ _ _ h => h) (by rfl) hZW ?_
                    simp only [Act.put, List.setIfInBounds_toArray, List.set_cons_zero, List.set_cons_succ]
                    refine held_skip 7 rx7 (some 127) rfl rfl (by kernel_rfl) (by kernel_rfl) (by kernel_rfl) (fun _ _ _ h => h) (by rfl) hZW ?_
                    simp only [Act.put, List.setIfInBounds_toArray, List.set_cons_zero, List.set_cons_succ]
                    refine held_skip 8 rx8 (some 128) rfl rfl (by kernel_rfl) (by kernel_rfl) (by kernel_rfl) (fun _ _ _ h => h) (by rfl) hZW ?_
                    simp only [Act.put, List.setIfInBounds_toArray, List.set_cons_zero, List.set_cons_succ]
                    refine held_skip 9 rx9 (some 129) rfl rfl (by kernel_rfl) (by kernel_rfl) (by kernel_rfl) (fun _ _ _ h => h) (by rfl) hZW ?_
                    simp only [Act.put, List.setIfInBounds_toArray, List.set_cons_zero, List.set_cons_succ]
                    refine held_skip 10 rx10 (some 130) rfl rfl (by kernel_rfl) (by kernel_rfl) (by kernel_rfl) (fun _ _ _ h => h) (by rfl) hZW ?_
                    simp only [Act.put, List.setIfInBounds_toArray, List.set_cons_zero, List.set_cons_succ]
                    refine held_skip 11 rx11 (some 131) rfl rfl (by kernel_rfl) (by kernel_rfl) (by kernel_rfl) (fun _ _ _ h => h) (by rfl) hZW ?_
                    simp only [Act.put, List.setIfInBounds_toArray, List.set_cons_zero, List.set_cons_succ]
                    refine held_skip 12 rx12 (some 132) rfl rfl (by kernel_rfl) (by kernel_rfl) (by kernel_rfl) (fun _ _ _ h => h) (by rfl) hZW ?_
                    simp only [Act.put, List.setIfInBounds_toArray, List.set_cons_zero, List.set_cons_succ]
                    refine held_skip 13 rx13 (some 133) rfl rfl (by kernel_rfl) (by kernel_rfl) (by kernel_rfl) (fun _ _ _ h => h) (by rfl) hZW ?_
                    simp only [Act.put, List.setIfInBounds_toArray, List.set_cons_zero, List.set_cons_succ]
                    refine held_skip 14 rx14 (some 134) rfl rfl (by kernel_rfl) (by kernel_rfl) (by kernel_rfl) (fun _ _ _ h => h) (by rfl) hZW ?_
                    simp only [Act.put, List.setIfInBounds_toArray, List.set_cons_zero, List.set_cons_succ]
                    refine held_skip 15 rx15 (some 135) rfl rfl (by kernel_rfl) (by kernel_rfl) (by kernel_rfl) (fun _ _ _ h => h) (by rfl) hZW ?_
                    simp only [Act.put, List.setIfInBounds_toArray, List.set_cons_zero, List.set_cons_succ]
                    refine held_skip 16 rx16 (some 136) rfl rfl (by kernel_rfl) (by kernel_rfl) (by kernel_rfl) (fun _ _ _ h => h) (by rfl) hZW ?_
                    simp only [Act.put, List.setIfInBounds_toArray, List.set_cons_zero, List.set_cons_succ]
                    refine held_skip 17 rx17 (some 137) rfl rfl (by kernel_rfl) (by kernel_rfl) (by kernel_rfl) (fun _ _ _ h => h) (by rfl) hZW ?_
                    simp only [Act.put, List.setIfInBounds_toArray, List.set_cons_zero, List.set_cons_succ]
                    refine held_skip 18 rx18 (some 138) rfl rfl (by kernel_rfl) (by kernel_rfl) (by kernel_rfl) (fun _ _ _ h => h) (by rfl) hZW ?_
                    simp only [Act.put, List.setIfInBounds_toArray, List.set_cons_zero, List.set_cons_succ]
                    refine held_skip 19 rx19 (some 139) rfl rfl (by kernel_rfl) (by kernel_rfl) (by kernel_rfl) (fun _ _ _ h => h) (by rfl) hZW ?_
                    simp only [Act.put, List.setIfInBounds_toArray, List.set_cons_zero, List.set_cons_succ]
                    refine held_skip 20 rx20 (some 140) rfl rfl (by kernel_rfl) (by kernel_rfl) (by kernel_rfl) (fun _ _ _ h => h) (by rfl) hZW ?_
                    simp only [Act.put, List.setIfInBounds_toArray, List.set_cons_zero, List.set_cons_succ]
                    refine held_skip 21 rx21 (some 141) rfl rfl (by kernel_rfl) (by kernel_rfl) (by kernel_rfl) (fun _ _ _ h => h) (by rfl) hZW ?_
                    simp only [Act.put, List.setIfInBounds_toArray, List.set_cons_zero, List.set_cons_succ]
                    refine held_skip 22 rx22 (some 142) rfl rfl (by kernel_rfl) (by kernel_rfl) (by kernel_rfl) (fun _ _ _ h => h) (by rfl) hZW ?_
                    simp only [Act.put, List.setIfInBounds_toArray, List.set_cons_zero, List.set_cons_succ]
                    refine held_skip 23 rx23 (some 143) rfl rfl (by kernel_rfl) (by kernel_rfl) (by kernel_rfl) (fun _ _ _ h => h) (by rfl) hZW ?_
                    simp only [Act.put, List.setIfInBounds_toArray, List.set_cons_zero, List.set_cons_succ]
                    refine held_take 24 rx24 (some 144) ?_ rfl rfl (by kernel_rfl) (by kernel_rfl) (by kernel_rfl) (fun _ _ _ h => h) (Or.inl ⟨by rfl, ?_⟩) hZW ?_
                    rotate_left
                    · intro w0 hy0; obtain ⟨s0, s1, s2, s3, s4, s5, s6, s7, s8, s9, s10, s11, s12⟩ := HQ.out w0 hy0; (go_simp <;> with_reducible rfl)
                    simp only [Act.put, List.setIfInBounds_toArray, List.set_cons_zero, List.set_cons_succ]
                    refine held_take 25 rx25 (some 145) ?_ rfl rfl (by kernel_rfl) (by kernel_rfl) (by kernel_rfl) (fun _ _ _ h => h) (Or.inl ⟨by rfl, ?_⟩) hZW ?_
                    rotate_left
                    · intro w0 hy0; obtain ⟨s0, s1, s2, s3, s4, s5, s6, s7, s8, s9, s10, s11, s12⟩ := HQ.out w0 hy0; (go_simp <;> with_reducible rfl)
                    simp only [Act.put, List.setIfInBounds_toArray, List.set_cons_zero, List.set_cons_succ]
                    refine held_take 26 rx26 (some 146) ?_ rfl rfl (by kernel_rfl) (by kernel_rfl) (by kernel_rfl) (fun _ _ _ h => h) (Or.inl ⟨by rfl, ?_⟩) hZW ?_
                    rotate_left
                    · intro w0 hy0; obtain ⟨s0, s1, s2, s3, s4, s5, s6, s7, s8, s9, s10, s11, s12⟩ := HQ.out w0 hy0; (go_simp <;> with_reducible rfl)
                    simp only [Act.put, List.setIfInBounds_toArray, List.set_cons_zero, List.set_cons_succ]
                    refine held_take 27 rx27 (some 147) ?_ rfl rfl (by kernel_rfl) (by kernel_rfl) (by kernel_rfl) (fun _ _ _ h => h) (Or.inl ⟨by rfl, ?_⟩) hZW ?_
                    rotate_left
                    · intro w0 hy0; obtain ⟨s0, s1, s2, s3, s4, s5, s6, s7, s8, s9, s10, s11, s12⟩ := HQ.out w0 hy0; (go_simp <;> with_reducible rfl)
                    simp only [Act.put, List.setIfInBounds_toArray, List.set_cons_zero, List.set_cons_succ]
                    refine held_take 28 rx28 (some 148) ?_ rfl rfl (by kernel_rfl) (by kernel_rfl) (by kernel_rfl) (fun _ _ _ h => h) (Or.inl ⟨by rfl, ?_⟩) hZW ?_
                    rotate_left
                    · intro w0 hy0; obtain ⟨s0, s1, s2, s3, s4, s5, s6, s7, s8, s9, s10, s11, s12⟩ := HQ.out w0 hy0; (go_simp <;> with_reducible rfl)
                    simp only [Act.put, List.setIfInBounds_toArray, List.set_cons_zero, List.set_cons_succ]
                    refine held_take 29 rx29 (some 149) ?_ rfl rfl (by kernel_rfl) (by kernel_rfl) (by kernel_rfl) (fun _ _ _ h => h) (Or.inl ⟨by rfl, ?_⟩) hZW ?_
                    rotate_left
                    · intro w0 hy0; obtain ⟨s0, s1, s2, s3, s4, s5, s6, s7, s8, s9, s10, s11, s12⟩ := HQ.out w0 hy0; (go_simp <;> with_reducible rfl)
                    simp only [Act.put, List.setIfInBounds_toArray, List.set_cons_zero, List.set_cons_succ]
                    refine held_take 30 rx30 (some 150) ?_ rfl rfl (by kernel_rfl) (by kernel_rfl) (by kernel_rfl) (fun _ _ _ h => h) (Or.inl ⟨by rfl, ?_⟩) hZW ?_
                    rotate_left
                    · intro w0 hy0; obtain ⟨s0, s1, s2, s3, s4, s5, s6, s7, s8, s9, s10, s11, s12⟩ := HQ.out w0 hy0; (go_simp <;> with_reducible rfl)
                    simp only [Act.put, List.setIfInBounds_toArray, List.set_cons_zero, List.set_cons_succ]
                    refine held_call 31 rx31 (some 151) (.int .i64 901) (fun Z9 => At w ((ownA W.heap.size #[.int .i64 0, .int .i64 0, .int .i64 0, .int .i64 0, .int .i64 0, .int .i64 0, .int .i64 0, .int .i64 0, .int .i64 0, .int .i64 0, .int .i64 0] 34).star (rrA p T (.slice (some ⟨gs, 0, none⟩) rs.length sc) (.slice (some ⟨gr, 0, none⟩) rs.length rc) (.slice (some ⟨gp, 0, none⟩) (rs.length + 1) cp) ss rs ps)) Z9) 16 #[.int .i64 901] (by kernel_rfl) rfl rfl (by rfl) (exec_lnum (.tmp 150) rfl rfl) ((lnum _ _).mono fun e w' ⟨e1, e2⟩ => ⟨e1, e2 ▸ hZW⟩) (fun X hX => hX) ?_
                    intro X31 hX31
                    simp only [Act.put, List.setIfInBounds_toArray, List.set_cons_zero, List.set_cons_succ]
                    refine held_take 32 rx32 (some 152) ?_ rfl rfl (by kernel_rfl) (by kernel_rfl) (by kernel_rfl) (fun _ _ _ h => h) (Or.inl ⟨by rfl, ?_⟩) hX31 ?_
                    rotate_left
                    · intro w0 hy0; obtain ⟨s0, s1, s2, s3, s4, s5, s6, s7, s8, s9, s10, s11, s12⟩ := HQ.out w0 hy0; (go_simp <;> with_reducible rfl)
                    simp only [Act.put, List.setIfInBounds_toArray, List.set_cons_zero, List.set_cons_succ]
                    refine held_take 33 rx33 (some 153) ?_ rfl rfl (by kernel_rfl) (by kernel_rfl) (by kernel_rfl) (fun _ _ _ h => h) (Or.inl ⟨by rfl, ?_⟩) hX31 ?_
                    rotate_left
                    · intro w0 hy0; obtain ⟨s0, s1, s2, s3, s4, s5, s6, s7, s8, s9, s10, s11, s12⟩ := HQ.out w0 hy0; (go_simp <;> with_reducible rfl)
                    simp only [Act.put, List.setIfInBounds_toArray, List.set_cons_zero, List.set_cons_succ]
                    refine held_take 34 rx34 (some 154) ?_ rfl rfl (by kernel_rfl) (by kernel_rfl) (by kernel_rfl) (fun _ _ _ h => h) (Or.inl ⟨by rfl, ?_⟩) hX31 ?_
                    rotate_left
                    · intro w0 hy0; obtain ⟨s0, s1, s2, s3, s4, s5, s6, s7, s8, s9, s10, s11, s12⟩ := HQ.out w0 hy0; (go_simp <;> with_reducible rfl)
                    simp only [Act.put, List.setIfInBounds_toArray, List.set_cons_zero, List.set_cons_succ]
                    refine wpAnyH_done (by kernel_rfl) ?_ _
                    have hE := hX31.drop
                    clear HQ HF HGt
                    go_wp2
                    go_roundw
                    case rel => exact ⟨j + 1, by omega, by go_num, hE⟩
                    case measure => simp [intOf]; omega
              · obtain rfl : j = rs.length := by omega
                go_wp2
                go_roundw
                case rel => exact ⟨i + 1, by omega, by go_num, hS⟩
                case measure => simp [intOf]; omega
          · obtain rfl : i = rs.length := by omega
            go_wp2
            go_ret
            exact ⟨rfl, hS.bel⟩
end Go.Proofs.YtiebpjkppjollaaDoor
