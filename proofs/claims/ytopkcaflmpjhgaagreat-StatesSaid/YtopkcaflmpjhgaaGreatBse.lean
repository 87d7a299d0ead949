
/- Put together: Serow, Serow2. Conditions: each theorem's own. -/
import Derived.Test.YtopkcaflmpjhgaaGreatBpl
import Derived.Test.YtopkcaflmpjhgaaGreatBsp
import Derived.Test.YtopkcaflmpjhgaaGreatProg
import Derived.WalkSpells
import Derived.WalkLawsBesides
import Derived.Lib.Hide
import Derived.Maps.AppendAt
import Derived.Great.Walk
import Derived.OwnWalk
import Derived.IntWalk
import Derived.Deep.QuietTactic
import Derived.Laws.OwnMore
import Derived.Deep.MidRow
namespace Go.Proofs.YtopkcaflmpjhgaaGreat
open Go Go.RowKit

abbrev TSe : TypeId := 66
theorem se_info : (Tryz.prog.info? TSe).map (fun i => (i.zero, i.size, i.bytes)) = some (some (.agg #[.int .i64 0, .int .i64 0, .int .i64 0, .int .i64 0]), 4, 32) := by kernel_rfl
def Se.cs (e : Se) : List Value := [.int .i64 e.s, .int .i64 e.u, .int .i64 e.a, .int .i64 e.t]
theorem Se.cs_len (e : Se) : e.cs.length = 4 := rfl
/-- The cells of a row. -/
def seCells : List Se → List Value
  | [] => []
  | e :: es => e.cs ++ seCells es
theorem seCells_len (es : List Se) : (seCells es).length = es.length * 4 := by
  induction es with
  | nil => rfl
  | cons e es ih => rw [seCells, List.length_append, ih, Se.cs_len, List.length_cons]; omega
theorem seCells_app (es fs : List Se) : seCells (es ++ fs) = seCells es ++ seCells fs := by
  induction es with
  | nil => rfl
  | cons e es ih => rw [List.cons_append, seCells, ih, seCells, List.append_assoc]
theorem seCells_at (es : List Se) {j : Nat} (hj : j < es.length) {i : Nat} (hi : i < 4) : (seCells es)[j * 4 + i]? = (es.getD j Se.none).cs[i]? := by
  induction es generalizing j with
  | nil => cases hj
  | cons e es ih =>
    rw [seCells]
    cases j with
    | zero => rw [Nat.zero_mul, Nat.zero_add, List.getElem?_append_left (by rw [Se.cs_len]; exact hi)]; rfl
    | succ j =>
      rw [List.getElem?_append_right (by rw [Se.cs_len]; omega), Se.cs_len, show (j + 1) * 4 + i - 4 = j * 4 + i by omega, ih (by simpa using hj)]
      rfl
theorem seCells_one (es : List Se) : ∀ u ∈ seCells es, u.oneCell' = true := by
  induction es with
  | nil => intro u hu; cases hu
  | cons e es ih =>
    intro u hu
    rw [seCells] at hu
    rcases List.mem_append.1 hu with h | h
    · simp [Se.cs] at h; rcases h with rfl | rfl | rfl | rfl <;> rfl
    · exact ih u h
/-- A row that somebody has, at off of block b. -/
def SeAt (w : World) (b off : Nat) (es : List Se) : Prop := ∀ i u, (seCells es)[i]? = some u → w.cell? ⟨b, off + i, none⟩ = some u
theorem SeAt.elem {w : World} {b off : Nat} {es : List Se} (h : SeAt w b off es) {j : Nat} (hj : j < es.length) : w.cell? ⟨b, off + j * 4, none⟩ = some (.int .i64 (es.getD j Se.none).s) ∧ w.cell? ⟨b, off + j * 4 + 1, none⟩ = some (.int .i64 (es.getD j Se.none).u) ∧ w.cell? ⟨b, off + j * 4 + 2, none⟩ = some (.int .i64 (es.getD j Se.none).a) ∧ w.cell? ⟨b, off + j * 4 + 3, none⟩ = some (.int .i64 (es.getD j Se.none).t) := by
  have key : ∀ i, i < 4 → w.cell? ⟨b, off + j * 4 + i, none⟩ = (es.getD j Se.none).cs[i]? := fun i hi => by
    have hx : ∃ u, (es.getD j Se.none).cs[i]? = some u := ⟨_, List.getElem?_eq_getElem (by rw [Se.cs_len]; exact hi)⟩
    obtain ⟨u, hu⟩ := hx
    rw [hu, Nat.add_assoc]
    exact h _ u (by rw [seCells_at es hj hi]; exact hu)
  exact ⟨key 0 (by decide), key 1 (by decide), key 2 (by decide), key 3 (by decide)⟩
theorem SeAt.same {w w' : World} {b off : Nat} {es : List Se} (h : SeAt w b off es) (hb : w'.heap[b]? = w.heap[b]?) : SeAt w' b off es := fun i u hu => (World.cell?_of_block (a := ⟨b, off + i, none⟩) hb).trans (h i u hu)
/-- A row that a call is given: none, or in a block that is not among F. -/
structure SeIn (F : List Nat) (w : World) (ao : Option Addr) (n : Nat) (es : List Se) : Prop where
  len : n = es.length
  row : n = 0 ∨ ∃ b off, ao = some ⟨b, off, none⟩ ∧ SeAt w b off es ∧ b ∉ F ∧ b < w.heap.size
  few : n ≤ 140737488355328
theorem SeIn.tn {F : List Nat} {w W : World} {ao : Option Addr} {n : Nat} {es : List Se} (h : SeIn F w ao n es) (ht : Tn F w W) : SeIn F W ao n es := by
  refine ⟨h.len, ?_, h.few⟩
  rcases h.row with c | ⟨b, off, e, h1, h2, h3⟩
  · exact .inl c
  · exact .inr ⟨b, off, e, h1.same (ht.block b h3 h2), h2, Nat.lt_of_lt_of_le h3 ht.size⟩
theorem se_exapp {P : Program} {a : Act} {w w' : World} {op : Oper} (x y : Operand) (t : TypeId) (ho : op.op = .call { callee := .builtin .append, args := #[x, y], argTypes := #[t, t] }) {v u v' : Value} (hx : a.eval x = v) (hy : a.eval y = u) (hr : (Builtin.append_ #[t, t] op.type #[v, u]).run P w = .ok v' w') :
    (execOp a.eval op).run P w = .ok (.value v') w' := by
  unfold execOp
  simp only [ho, resolve, invoke, builtin, Sem.run_bind, Sem.run_pure, Result.andThen_ok, List.map_toArray, List.map_cons, List.map_nil, hx, hy, hr]
theorem se_made {A : Ass} {w w' : World} (h : At w A w') : Becomes [] A w w' := by
  obtain ⟨F, h1, h2, h3⟩ := h
  exact ⟨F, h1, Tn.ofBelow h3 [], fun k hk => .inr (h2 k hk)⟩
theorem se_app {W w' : World} {ops : Array Oper} {rest : List Oper} {o : Oper} {a : Act} {Q : Exit → Act → World → Prop} {v u v' : Value} (hgd : o.guard = Option.none) (s x : Operand)
    (ho : o.op = .call { callee := .builtin .append, args := #[s, x], argTypes := #[25, 25] }) (hs : a.eval s = v) (hx : a.eval x = u) (hr : (Builtin.append_ #[25, 25] o.type #[v, u]).run Tryz.prog W = .ok v' w') (h : wpList Tryz.prog ops Q rest (a.put o.dst v') w') :
    wpList Tryz.prog ops Q (o :: rest) a W := Great.wpList_runTo hgd o.dst rfl _ _ (se_exapp s x 25 ho hs hx hr) h
abbrev sese0 : Oper := { dst := some 17, op := Op.move (Operand.tmp 0), type := 25, pos := "memory.go:189", after := #[], guard := none }
abbrev sese1 : Oper := { dst := some 18, op := Op.move (Operand.tmp 5), type := 3, pos := "memory.go:189", after := #[], guard := none }
abbrev sese2 : Oper := { dst := some 19, op := Op.indexAddr 25 (Operand.tmp 17) (Operand.tmp 18), type := 0, pos := "memory.go:189", after := #[{ on := 0, ground := Ground.data }, { on := 1, ground := Ground.data }], guard := none }
abbrev sese3 : Oper := { dst := some 20, op := Op.load 66 (Operand.tmp 19), type := 66, pos := "memory.go:189", after := #[{ on := 2, ground := Ground.data }], guard := none }
abbrev sese4 : Oper := { dst := some 21, op := Op.move (Operand.tmp 1), type := 25, pos := "memory.go:189", after := #[], guard := none }
abbrev sese5 : Oper := { dst := some 22, op := Op.move (Operand.tmp 5), type := 3, pos := "memory.go:189", after := #[], guard := none }
abbrev sese6 : Oper := { dst := some 23, op := Op.indexAddr 25 (Operand.tmp 21) (Operand.tmp 22), type := 0, pos := "memory.go:189", after := #[{ on := 4, ground := Ground.data }, { on := 5, ground := Ground.data }], guard := none }
abbrev sese7 : Oper := { dst := some 24, op := Op.load 66 (Operand.tmp 23), type := 66, pos := "memory.go:189", after := #[{ on := 6, ground := Ground.data }], guard := none }
abbrev sese8 : Oper := { dst := some 25, op := Op.binOp BinOp.neq 66 (Operand.tmp 20) (Operand.tmp 24) 66, type := 4, pos := "memory.go:189", after := #[{ on := 3, ground := Ground.data }, { on := 7, ground := Ground.data }], guard := none }
theorem se_neq {a : Act} {w : World} {op : Oper} (p q : Operand) (ho : op.op = .binOp .neq 66 p q 66) (x y : Se) (hp : a.eval p = .agg #[.int .i64 x.s, .int .i64 x.u, .int .i64 x.a, .int .i64 x.t]) (hq : a.eval q = .agg #[.int .i64 y.s, .int .i64 y.u, .int .i64 y.a, .int .i64 y.t]) : (execOp a.eval op).run Tryz.prog w = .ok (.value (.bool (!decide (x = y)))) w := by
  unfold execOp
  simp only [ho, hp, hq, Sem.run_bind]
  by_cases h : x = y
  · subst h
    go_simp
  · have hd : decide (x = y) = false := decide_eq_false h
    rw [hd]
    by_cases q0 : x.s = y.s
    · by_cases q1 : x.u = y.u
      · by_cases q2 : x.a = y.a
        · by_cases q3 : x.t = y.t
          · exact absurd (show x = y from by obtain ⟨_, _, _, _⟩ := x; obtain ⟨_, _, _, _⟩ := y; simp only [Se.mk.injEq]; exact ⟨q0, q1, q2, q3⟩) h
          · go_simp
        · go_simp
      · go_simp
    · go_simp
/-- Two rows. -/
def seSame (n : Nat) (es fs : List Se) : Prop := ∀ i, i < n → es.getD i Se.none = fs.getD i Se.none
theorem seSame_eq {es fs : List Se} (h1 : es.length = fs.length) (h : seSame es.length es fs) : es = fs := by
  apply List.ext_getElem h1
  intro i a b
  have := h i a
  simpa [List.getD, a, b] using this
theorem se_bel {w W W' : World} (hb : Below w.heap.size w W) (h : Below W.heap.size W W') : Below w.heap.size w W' := hb.trans (h.mono hb.size)
theorem se_drew (w : World) : Below w.heap.size w w.drew := ⟨rfl, rfl, rfl, Nat.le_refl _, fun _ _ => rfl⟩
set_option maxRecDepth 100000 in
set_option maxHeartbeats 4000000 in
/-- Same. -/
theorem se_same {w : World} {ao bo : Option Addr} {n m c1 c2 : Nat} {es fs : List Se} (h1 : SeIn [] w ao n es) (h2 : SeIn [] w bo m fs) :
    Calls Tryz.prog 22 #[.slice ao n c1, .slice bo m c2] w fun e w' => e = .returned (.bool (decide (es = fs))) ∧ Below w.heap.size w w' := by
  obtain ⟨l1, r1, f1⟩ := h1
  obtain ⟨l2, r2, f2⟩ := h2
  by_cases hl : n = m
  · subst hl
    have HL := Lib.hid (And.intro l1 l2)
    have HR1 := Lib.hid r1
    have HR2 := Lib.hid r2
    clear l1 l2 r1 r2
    have hb0 := Below.refl w.heap.size w
    go_enter Tryz.func22, Tryz.ntmps22
    go_wp2
    go_loopw [5] (fun x wr => ∃ k : Nat, k ≤ n ∧ x = .int .i64 (k : Int) ∧ seSame k es fs ∧ Below w.heap.size w wr) (fun x _ => n - (intOf x).toNat)
    case atStart => exact ⟨0, Nat.zero_le _, rfl, (fun i hi => by omega), hb0⟩
    case round =>
      clear hb0
      obtain ⟨k, hkn, rfl, hp, hbl⟩ := hrel
      by_cases hlt : k < n
      · obtain ⟨b1, o1, rfl, e1, _, g1⟩ : ∃ b off, ao = some ⟨b, off, none⟩ ∧ SeAt w b off es ∧ b ∉ ([] : List Nat) ∧ b < w.heap.size := by
          rcases HR1.out with c | c
          · omega
          · exact c
        obtain ⟨b2, o2, rfl, e2, _, g2⟩ : ∃ b off, bo = some ⟨b, off, none⟩ ∧ SeAt w b off fs ∧ b ∉ ([] : List Nat) ∧ b < w.heap.size := by
          rcases HR2.out with c | c
          · omega
          · exact c
        have H1 := Lib.hid (fun W (hb : Below w.heap.size w W) => (e1.same (hb.block b1 g1)).elem (j := k) (by rw [← HL.out.1]; exact hlt))
        have H2 := Lib.hid (fun W (hb : Below w.heap.size w W) => (e2.same (hb.block b2 g2)).elem (j := k) (by rw [← HL.out.2]; exact hlt))
        obtain ⟨x, hx⟩ : ∃ x, es.getD k Se.none = x := ⟨_, rfl⟩
        obtain ⟨y, hy⟩ : ∃ y, fs.getD k Se.none = y := ⟨_, rfl⟩
        have HX := Lib.hid (And.intro hx hy)
        rw [hx] at H1
        rw [hy] at H2
        have HP := Lib.hid hp
        clear hx hy hp e1 e2
        go_wp2
        refine region_held (S := fun Z8 => Below w.heap.size w Z8) 9 [false, false, false, false, false, false, false, false, false] rfl rfl (by kernel_rfl) fun V0 hW => ?_
        have hV : Below w.heap.size w V0 := by rw [hW]; exact se_bel hbl (se_drew wr)
        clear hW hbl
        refine run_go [(0, sese0, (some 17)), (1, sese1, (some 18)), (2, sese2, (some 19)), (3, sese3, (some 20)), (4, sese4, (some 21)), (5, sese5, (some 22)), (6, sese6, (some 23)), (7, sese7, (some 24))] (by kernel_rfl) ?_
        iterate 8 (refine run_take ?_ rfl rfl (fun _ _ _ h => h) (Or.inl ⟨by rfl, ?_⟩) hV ?_; rotate_left; (· (intro w0 hy0; obtain ⟨a0, a1, a2, a3⟩ := H1.out _ hy0; obtain ⟨z0, z1, z2, z3⟩ := H2.out _ hy0; (go_simp <;> with_reducible rfl))); simp only [Act.put, List.setIfInBounds_toArray, List.set_cons_zero, List.set_cons_succ])
        refine run_end ?_
        refine held_take 8 sese8 (some 25) (.bool (!decide (x = y))) rfl rfl (by kernel_rfl) (by kernel_rfl) (by kernel_rfl) (fun _ _ _ h => h) (Or.inl ⟨by rfl, fun w0 hy0 => se_neq (.tmp 20) (.tmp 24) rfl x y rfl rfl⟩) hV ?_
        simp only [Act.put, List.setIfInBounds_toArray, List.set_cons_zero, List.set_cons_succ]
        refine wpAnyH_done (by kernel_rfl) ?_ _
        by_cases hxy : x = y
        · have hd : (!decide (x = y)) = false := by simp [hxy]
          rw [hd]
          have HXY := Lib.hid hxy
          clear hxy hd
          go_wp2
          go_round
          case rel =>
            refine ⟨k + 1, by omega, by go_num, fun i hi => ?_, hV⟩
            by_cases c : i < k
            · exact HP.out i c
            · obtain rfl : i = k := by omega
              rw [HX.out.1, HX.out.2]; exact HXY.out
          case measure => simp [intOf]; omega
        · have hd : (!decide (x = y)) = true := by simp [hxy]
          rw [hd]
          have HXY := Lib.hid hxy
          clear hxy hd
          go_wp2
          go_ret
          have hne : decide (es = fs) = false := decide_eq_false fun c => HXY.out (by rw [← HX.out.1, ← HX.out.2, c])
          rw [hne]
          exact ⟨rfl, hV⟩
      · have HQ := Lib.hid (show es = fs from by
          obtain ⟨q1, q2⟩ := HL.out
          have hk : k = n := by omega
          refine seSame_eq (by omega) ?_
          rw [← q1, ← hk]
          exact hp)
        clear hp
        go_wp2
        go_ret
        have he : decide (es = fs) = true := decide_eq_true HQ.out
        rw [he]
        exact ⟨rfl, hbl⟩
  · have hne : decide (es = fs) = false := decide_eq_false fun c => hl (by rw [l1, l2, c])
    rw [hne]
    have hd : ((n : Int) != (m : Int)) = true := by simp; omega
    clear l1 l2 r1 r2 hne
    go_enter Tryz.func22, Tryz.ntmps22
    go_wp2
    go_ret
    exact ⟨rfl, Below.refl _ _⟩
/-- The mark behind what is lent. -/
abbrev seMk : Se := ⟨0, 0, 0, 77777⟩
abbrev seMks : List Se := [seMk, seMk]
theorem se_runApp {w : World} {v : Value} {es : List Se} (ty : TypeId) (all : List Se) (hown : w.ownsRow 0 TSe 4 v all.length (seCells all)) (ao : Option Addr) (k c : Nat) (hk : k = es.length) (hf : all.length + k ≤ 4398046511104) (hc : (ao = none ∧ k = 0 ∧ c = 0) ∨ ∃ b off, ao = some ⟨b, off, none⟩ ∧ SeAt w b off es) :
    ∃ v' w', (Builtin.append_ #[25, 25] ty #[v, .slice ao k c]).run Tryz.prog w = .ok v' w' ∧ w'.ownsRow 0 TSe 4 v' (all.length + k) (seCells all ++ seCells es) ∧ w.grownBy w' v.ownBlock ∧ (v' = .slice none 0 0 ↔ v = .slice none 0 0 ∧ k = 0) ∧ (v'.ownBlock = v.ownBlock ∨ v'.ownBlock = some w.heap.size) := by
  obtain ⟨i, hi, hz0, hz1, hz2⟩ := info_parts se_info
  rcases hc with ⟨rfl, rfl, rfl⟩ | ⟨b, off, rfl, he⟩
  · have hes : es = [] := List.length_eq_zero_iff.1 hk.symm
    subst hes
    refine ⟨v, w, run_append_owned_none (P := Tryz.prog) (w := w) 0 25 ty TSe i 4 Tryz.underlying25 hi v _ _ hown, ?_, World.grownBy.refl _ _, by simp, .inl rfl⟩
    simpa [seCells] using hown
  · exact run_append_own_at (P := Tryz.prog) w 0 25 ty TSe i _ 4 32 Tryz.underlying25 hi hz0 hz1 hz2 rfl (by decide) v all.length (seCells all) hown ⟨b, off, none⟩ k c (seCells es) (by rw [seCells_len, hk]) (fun j u hj => by rw [Addr.add_lit]; exact he j u hj) (seCells_one es) (by unfold maxLen; omega) (by omega) (Nat.zero_le _)
theorem seAt_lit (W : World) (fs : List Se) : SeAt (W.alloc (.cells (seCells fs).toArray TSe)) W.heap.size 0 fs := fun i u hu => by
  rw [Nat.zero_add, cell_of_row _ W.heap.size i _ _ _ (heap_alloc_new W _), List.getElem?_toArray]
  exact hu
section
variable {w0 w W : World} {C : Ass}
/-- A literal row laid behind a row. -/
theorem se_appLit {ops : Array Oper} {rest : List Oper} {o : Oper} {a : Act} {Q : Exit → Act → World → Prop} (hC : C.Good) (hgd : o.guard = Option.none) (s x : Operand)
    (ho : o.op = .call { callee := .builtin .append, args := #[s, x], argTypes := #[25, 25] }) (ao : Option Addr) (n cap : Nat) (es fs : List Se) (k : Nat) (hs : a.eval s = .slice ao n cap) (hx : a.eval x = .slice (some ⟨W.heap.size, 0, Option.none⟩) k k) (hk : k = fs.length) {cs : Array Value} (hcs : cs = (seCells fs).toArray)
    (hS : At w0 ((rowE TSe 4 (.slice ao n cap) es.length (seCells es)).star C) W) (hn : es.length + k ≤ 4398046511104) (h : ∀ a2 c2 w', At w0 ((rowE TSe 4 (.slice a2 (n + k) c2) (es ++ fs).length (seCells (es ++ fs))).star C) w' → wpList Tryz.prog ops Q rest (a.put o.dst (.slice a2 (n + k) c2)) w') :
    wpList Tryz.prog ops Q (o :: rest) a (W.alloc (.cells cs 66)) := by
  subst hcs
  obtain ⟨v', w2, hrun, hrow, hgr, hnil, hlo⟩ := se_runApp (es := fs) o.type es (hS.erow.alloc (.cells (seCells fs).toArray TSe)) (some ⟨W.heap.size, 0, none⟩) k k hk hn (.inr ⟨_, _, rfl, seAt_lit W fs⟩)
  have hlen : n = es.length := by
    obtain ⟨a3, c3, e3⟩ := rowE_shape hS.erow
    simp at e3
    exact e3.2.1
  obtain ⟨a2, c2, rfl⟩ := rowE_shape hrow
  rw [← hlen] at hrun hrow hlo
  refine se_app hgd s x ho hs hx hrun (h a2 c2 w2 ?_)
  have hg := (World.grownBy_alloc W (.cells (seCells fs).toArray TSe) _).trans hgr
  refine hS.appendedE hC hg ?_ ?_
  · rw [seCells_app, List.length_append, ← hlen, ← hk]
    exact hrow
  · rcases hlo with c | c
    · exact .inl c
    · exact .inr ⟨_, by simp, c⟩
theorem se_big {ao : Option Addr} {k cap : Nat} {es : List Se} (h : At w0 ((rowE TSe 4 (.slice ao k cap) es.length (seCells es)).star C) w) (hk : 1 ≤ es.length) : ∃ g, ao = some ⟨g, 0, none⟩ ∧ k = es.length ∧ k ≤ cap := by
  obtain ⟨_, ⟨F1, F2, rfl, ⟨h1, rfl⟩, _, _⟩, _⟩ := h
  rcases h1.2 with ⟨e, h0⟩ | ⟨g, c, cur, e, _, hg, hle, _⟩
  · omega
  · obtain ⟨rfl, rfl, rfl⟩ : ao = some ⟨g, 0, none⟩ ∧ k = es.length ∧ cap = c := by simpa using e
    exact ⟨g, rfl, rfl, hle⟩
end
section
variable {w0 w : World} {C : Ass}
theorem seAt_row {g cap : Nat} {es : List Se} {n : Nat} (h : At w0 ((rowE TSe 4 (.slice (some ⟨g, 0, none⟩) n cap) es.length (seCells es)).star C) w) : SeAt w g 0 es ∧ g < w.heap.size := by
  have hr := h.erow
  refine ⟨fun i u hu => ?_, (hr.lt g (by simp [Value.ownBlock])).2⟩
  have := hr.cells (g := g) rfl i u hu
  rw [Addr.add_lit] at this
  exact this
theorem se_mkAt (es : List Se) : (es ++ seMks).getD es.length Se.none = seMk ∧ (es ++ seMks).getD (es.length + 1) Se.none = seMk := by
  constructor <;> simp [List.getD]
/-- A row's block, known whole. -/
theorem At.seWhole {g cap n : Nat} {es : List Se} (h : At w0 ((rowE TSe 4 (.slice (some ⟨g, 0, Option.none⟩) n cap) es.length (seCells es)).star C) w) : ∃ cur : Array Value, (∀ j, j < es.length → ∃ z, cur[j * 4 + 3]? = some (.int .i64 z)) ∧ At w0 ((ownA g cur TSe).star C) w := by
  obtain ⟨F, ⟨F1, F2, rfl, ⟨h1, rfl⟩, g2, g3⟩, hB, hb⟩ := h
  rcases h1.2 with ⟨e, _⟩ | ⟨g', c, cur, e, _, hg, hle, _, hsz, htk⟩
  · simp at e
  · obtain ⟨rfl, rfl, rfl⟩ : g = g' ∧ n = es.length ∧ cap = c := by simpa using e
    refine ⟨cur, fun j hj => ?_, [g] ++ F2, ⟨[g], F2, rfl, ⟨hg, rfl⟩, g2, fun k hk => g3 k (by simpa [Value.ownBlock] using hk)⟩, fun k hk => hB k (by simpa [Value.ownBlock] using hk), hb⟩
    have hc := seCells_at es hj (i := 3) (by decide)
    rw [← htk, List.getElem?_take_of_lt (by omega)] at hc
    exact ⟨_, by rw [← Array.getElem?_toList]; exact hc⟩
set_option maxHeartbeats 4000000 in
/-- SpoilSessions. -/
theorem se_spoil (hC : C.Good) {ao : Option Addr} {n cap : Nat} {es : List Se} (h : At w0 ((rowE TSe 4 (.slice ao n cap) es.length (seCells es)).star C) w) (hn : es.length ≤ 4398046511104) :
    Calls Tryz.prog 35 #[.slice ao n cap] w fun e w' => e = .returned (.tuple #[]) ∧ At w0 C w' := by
  obtain ⟨a3, c3, e3⟩ := rowE_shape h.erow
  obtain ⟨rfl, rfl, rfl⟩ : ao = a3 ∧ n = es.length ∧ cap = c3 := by simpa using e3
  clear e3
  by_cases h0 : es.length = 0
  · have hS := h.drop
    rw [h0]
    clear h
    go_enter Tryz.func35, Tryz.ntmps35
    go_wp2
    go_loopw [2] (fun x wr => x = .int .i64 0 ∧ At w0 C wr) (fun _ _ => 0)
    case atStart => exact ⟨rfl, hS⟩
    case round =>
      clear hS
      obtain ⟨rfl, hS⟩ := hrel
      go_wp2
      refine Great.bodyPost_end0 rfl rfl ?_
      exact ⟨rfl, hS⟩
  · obtain ⟨g, rfl, -, -⟩ := se_big h (by omega)
    obtain ⟨cur, hcur, hS⟩ := h.seWhole
    clear h
    generalize es.length = m at *
    go_enter Tryz.func35, Tryz.ntmps35
    go_wp2
    go_loopw [2] (fun x wr => ∃ (k : Nat) (cur : Array Value), k ≤ m ∧ x = .int .i64 (k : Int) ∧ (∀ j, j < m → ∃ z, cur[j * 4 + 3]? = some (.int .i64 z)) ∧ At w0 ((ownA g cur TSe).star C) wr) (fun x _ => m - (intOf x).toNat)
    case atStart => exact ⟨0, cur, Nat.zero_le _, rfl, hcur, hS⟩
    case round =>
      clear hS hcur
      obtain ⟨k, cur, hkm, rfl, hcur, hS⟩ := hrel
      by_cases hlt : k < m
      · have hltI : (k : Int) < (m : Int) := by omega
        obtain ⟨z, hz⟩ := hcur k hlt
        obtain ⟨o1, o2, o3⟩ := hS.own
        have c7 : wr.cell? ⟨g, k * 4 + 3, none⟩ = some (.int .i64 z) := (o1 _).trans hz
        have f7 := o2 (k * 4 + 3)
        obtain ⟨y, hy⟩ : ∃ y, bits .xor .i64 z 90 = y := ⟨_, rfl⟩
        have hP := hS.poke hC (k * 4 + 3) (.int .i64 y)
        have HP := Lib.hid hP
        have HN := Lib.hid (show ∀ j, j < m → ∃ z, (cur.setIfInBounds (k * 4 + 3) (.int .i64 y))[j * 4 + 3]? = some (.int .i64 z) from fun j hj => by
          by_cases c : j = k
          · subst c
            have hlt2 : j * 4 + 3 < cur.size := (Array.getElem?_eq_some_iff.1 hz).1
            exact ⟨y, by rw [Array.getElem?_setIfInBounds, if_pos rfl, if_pos hlt2]⟩
          · rw [Array.getElem?_setIfInBounds, if_neg (by omega)]
            exact hcur j hj)
        clear hP hS o1 o2 o3 hcur hz
        go_wp2
        go_round
        case rel => exact ⟨k + 1, _, by omega, by go_num, HN.out, HP.out⟩
        case measure => simp [intOf]; omega
      · obtain rfl : k = m := by omega
        have hltI : ¬ (k : Int) < (k : Int) := by omega
        have hD := hS.drop
        clear hS hcur
        go_wp2
        refine Great.bodyPost_end0 rfl rfl ?_
        exact ⟨rfl, hD⟩
end
end Go.Proofs.YtopkcaflmpjhgaaGreat

namespace Go.Proofs.YtopkcaflmpjhgaaGreat
open Go Go.RowKit

theorem se_on {w W : World} {ao : Option Addr} {n : Nat} {es : List Se} (h : SeIn [] w ao n es) (hb : Below w.heap.size w W) : SeIn [] W ao n es := h.tn (Tn.ofBelow hb [])
theorem se_none {w : World} {ao : Option Addr} : SeIn [] w ao 0 [] := ⟨rfl, .inl rfl, by decide⟩
theorem At.seI {w0 w : World} {C : Ass} {ao : Option Addr} {n m cap : Nat} {es : List Se} (h : At w0 ((rowE TSe 4 (.slice ao n cap) m (seCells es)).star C) w) (hn : n = es.length) (hm : m = es.length) (hf : es.length ≤ 4398046511104) : SeIn [] w ao n es := by
  subst hn hm
  refine ⟨rfl, ?_, by omega⟩
  by_cases h0 : es.length = 0
  · exact .inl h0
  · obtain ⟨g, rfl, _, _⟩ := se_big h (by omega)
    obtain ⟨h1, h2⟩ := seAt_row h
    exact .inr ⟨g, 0, rfl, h1, by simp, h2⟩
theorem At.seCap {w0 w : World} {C : Ass} {ao : Option Addr} {n m cap : Nat} {xs : List Value} (h : At w0 ((rowE TSe 4 (.slice ao n cap) m xs).star C) w) : ao = Option.none → cap = 0 := by
  intro e
  subst e
  obtain ⟨_, ⟨F1, F2, rfl, ⟨h1, rfl⟩, _, _⟩, _⟩ := h
  rcases h1.2 with ⟨e, _⟩ | ⟨g, c, cur, e, _⟩
  · simpa using congrArg (fun v => match v with | .slice _ _ c => c | _ => 0) e
  · simp at e
theorem se_el {w : World} {ao : Option Addr} {n : Nat} {es : List Se} (h : SeIn [] w ao n es) {k : Nat} (hk : k < n) : ∃ b off a, ao = some ⟨b, off, none⟩ ∧ es.getD k Se.none = a ∧ ∀ W, Below w.heap.size w W → W.cell? ⟨b, off + k * 4, none⟩ = some (.int .i64 a.s) ∧ W.cell? ⟨b, off + k * 4 + 1, none⟩ = some (.int .i64 a.u) ∧ W.cell? ⟨b, off + k * 4 + 2, none⟩ = some (.int .i64 a.a) ∧ W.cell? ⟨b, off + k * 4 + 3, none⟩ = some (.int .i64 a.t) := by
  obtain ⟨hlen, hrow, _⟩ := h
  rcases hrow with c | ⟨b, off, rfl, hat, _, hlb⟩
  · omega
  · exact ⟨b, off, _, rfl, rfl, fun W hW => (hat.same (hW.block b hlb)).elem (by rw [← hlen]; exact hk)⟩
/-- The first k of a row. -/
theorem seAt_take {w : World} {b off : Nat} {es : List Se} (h : SeAt w b off es) (k : Nat) : SeAt w b off (es.take k) := fun i u hu => h i u (by
  have e : seCells es = seCells (es.take k) ++ seCells (es.drop k) := by rw [← seCells_app, List.take_append_drop]
  rw [e]
  have hl : i < (seCells (es.take k)).length := by
    rcases Nat.lt_or_ge i (seCells (es.take k)).length with c | c
    · exact c
    · rw [List.getElem?_eq_none c] at hu; cases hu
  rw [List.getElem?_append_left hl]
  exact hu)
/-- Those behind the first k. -/
theorem seAt_drop {w : World} {b off : Nat} {es : List Se} (h : SeAt w b off es) {k : Nat} (hk : k ≤ es.length) : SeAt w b (off + k * 4) (es.drop k) := fun i u hu => by
  have e : seCells es = seCells (es.take k) ++ seCells (es.drop k) := by rw [← seCells_app, List.take_append_drop]
  have hl : (seCells (es.take k)).length = k * 4 := by rw [seCells_len, List.length_take, Nat.min_eq_left hk]
  rw [Nat.add_assoc]
  refine h (k * 4 + i) u ?_
  rw [e, List.getElem?_append_right (by omega), hl, show k * 4 + i - k * 4 = i by omega]
  exact hu
/-- A row laid behind a row of one's own. -/
theorem se_grow {w0 W : World} {C : Ass} (hC : C.Good) {ao : Option Addr} {n cap : Nat} {es fs : List Se} {b off k c : Nat} (hS : At w0 ((rowE TSe 4 (.slice ao n cap) es.length (seCells es)).star C) W) (hat : SeAt W b off fs) (hk : k = fs.length) (hn : es.length + k ≤ 4398046511104) (ty : TypeId) :
    ∃ a2 c2 w2, (Builtin.append_ #[25, 25] ty #[.slice ao n cap, .slice (some ⟨b, off, none⟩) k c]).run Tryz.prog W = .ok (.slice a2 (n + k) c2) w2 ∧ At w0 ((rowE TSe 4 (.slice a2 (n + k) c2) (es ++ fs).length (seCells (es ++ fs))).star C) w2 := by
  obtain ⟨v', w2, hrun, hrow, hgr, hnil, hlo⟩ := se_runApp (es := fs) ty es hS.erow (some ⟨b, off, none⟩) k c hk hn (.inr ⟨_, _, rfl, hat⟩)
  have hlen : n = es.length := by
    obtain ⟨a3, c3, e3⟩ := rowE_shape hS.erow
    simp at e3
    exact e3.2.1
  obtain ⟨a2, c2, rfl⟩ := rowE_shape hrow
  rw [← hlen] at hrun hrow hlo
  refine ⟨a2, c2, w2, hrun, ?_⟩
  refine hS.appendedE hC hgr ?_ ?_
  · rw [seCells_app, List.length_append, ← hlen, ← hk]
    exact hrow
  · rcases hlo with e | e
    · exact .inl e
    · exact .inr ⟨_, Nat.le_refl _, e⟩
theorem At.seEmpty {w0 w : World} {C : Ass} (hC : C.Good) (h : At w0 C w) : At w0 ((rowE TSe 4 (.slice (some ⟨w.heap.size, 0, Option.none⟩) 0 0) ([] : List Se).length (seCells [])).star C) (w.alloc (.cells #[] TSe)) := by
  refine At.add hC h ⟨[w.heap.size], ⟨⟨rfl, .inr ⟨w.heap.size, 0, #[], rfl, Nat.zero_le _, heap_alloc_new w _, Nat.le_refl _, by decide, rfl, rfl⟩⟩, rfl⟩, (Tn.refl _ _).alloc _, fun k hk => .inr (by simp at hk; omega)⟩
/-- A copy of a row: append([]T{}, row...). -/
theorem se_dup {w0 w : World} {C : Ass} (hC : C.Good) (hS : At w0 C w) {ao : Option Addr} {n cap : Nat} {es : List Se} (hes : SeIn [] w ao n es) (hc : ao = none → cap = 0) (hn : n ≤ 4398046511099) (ty : TypeId) :
    ∃ a2 c2 w2, (Builtin.append_ #[25, 25] ty #[.slice (some ⟨w.heap.size, 0, none⟩) 0 0, .slice ao n cap]).run Tryz.prog (w.alloc (.cells #[] TSe)) = .ok (.slice a2 n c2) w2 ∧ At w0 ((rowE TSe 4 (.slice a2 n c2) es.length (seCells es)).star C) w2 := by
  have hE := At.seEmpty hC hS
  have hes2 := hes.tn ((Tn.refl [] w).alloc (.cells #[] TSe))
  have hlen := hes.len
  by_cases h0 : n = 0
  · subst h0
    have he : es = [] := List.length_eq_zero_iff.1 hlen.symm
    subst he
    have hown := hE.erow
    cases ao with
    | none =>
      obtain ⟨v', w2, k1, k2, k3, k4, k5⟩ := se_runApp (es := []) ty [] hown none 0 cap rfl (by simp) (.inl ⟨rfl, rfl, hc rfl⟩)
      obtain ⟨a2, c2, rfl⟩ := rowE_shape k2
      refine ⟨a2, c2, w2, by simpa using k1, hE.appendedE hC k3 (by simpa [seCells] using k2) ?_⟩
      rcases k5 with e | e
      · exact .inl e
      · exact .inr ⟨_, Nat.le_refl _, e⟩
    | some a =>
      obtain ⟨i, hi, hz0, hz1, hz2⟩ := info_parts se_info
      obtain ⟨v', w2, k1, k2, k3, k4, k5⟩ := run_append_own_at (P := Tryz.prog) (w.alloc (.cells #[] TSe)) 0 25 ty TSe i _ 4 32 Tryz.underlying25 hi hz0 hz1 hz2 rfl (by decide) (.slice (some ⟨w.heap.size, 0, none⟩) 0 0) _ (seCells []) hown a 0 cap [] rfl (fun j u hj => by simp at hj) (fun u hu => by cases hu) (by unfold maxLen; simp) (by simp) (Nat.zero_le _)
      obtain ⟨a2, c2, rfl⟩ := rowE_shape k2
      refine ⟨a2, c2, w2, by simpa using k1, hE.appendedE hC k3 (by simpa [seCells] using k2) ?_⟩
      rcases k5 with e | e
      · exact .inl e
      · exact .inr ⟨_, Nat.le_refl _, e⟩
  · rcases hes2.row with c | ⟨b, off, rfl, h1, _⟩
    · exact absurd c h0
    · obtain ⟨a2, c2, w2, k1, k2⟩ := se_grow (c := cap) hC hE h1 hlen (by simp; omega) ty
      rw [Nat.zero_add] at k1 k2
      rw [List.nil_append] at k2
      exact ⟨a2, c2, w2, k1, k2⟩
/-- The same, in a walk. -/
theorem se_dupC {w0 W : World} {C : Ass} {ops : Array Oper} {rest : List Oper} {o : Oper} {a : Act} {Q : Exit → Act → World → Prop} (hC : C.Good) (hgd : o.guard = Option.none) (s x : Operand)
    (ho : o.op = .call { callee := .builtin .append, args := #[s, x], argTypes := #[25, 25] }) (ao : Option Addr) (n cap : Nat) (es : List Se) {p : Nat} (hs : a.eval s = .slice (some ⟨p, 0, Option.none⟩) 0 0) (hp : p = W.heap.size) (hx : a.eval x = .slice ao n cap)
    (hS : At w0 C W) (hes : SeIn [] W ao n es) (hc : ao = Option.none → cap = 0) (hn : n ≤ 4398046511099) (h : ∀ a2 c2 w2, At w0 ((rowE TSe 4 (.slice a2 n c2) es.length (seCells es)).star C) w2 → wpList Tryz.prog ops Q rest (a.put o.dst (.slice a2 n c2)) w2) :
    wpList Tryz.prog ops Q (o :: rest) a (W.alloc (.cells #[] TSe)) := by
  subst hp
  obtain ⟨a2, c2, w2, hr, hS2⟩ := se_dup hC hS hes hc hn o.type
  exact se_app hgd s x ho hs hx hr (h a2 c2 w2 hS2)
/-- A literal row laid behind a row of one's own, its place told. -/
theorem se_appLit2 {w0 W : World} {C : Ass} {ops : Array Oper} {rest : List Oper} {o : Oper} {a : Act} {Q : Exit → Act → World → Prop} (hC : C.Good) (hgd : o.guard = Option.none) (s x : Operand)
    (ho : o.op = .call { callee := .builtin .append, args := #[s, x], argTypes := #[25, 25] }) (ao : Option Addr) (n cap : Nat) (es fs : List Se) (k : Nat) {p : Nat} (hs : a.eval s = .slice ao n cap) (hx : a.eval x = .slice (some ⟨p, 0, Option.none⟩) k k) (hp : p = W.heap.size) (hk : k = fs.length) {cs : Array Value} (hcs : cs = (seCells fs).toArray)
    (hS : At w0 ((rowE TSe 4 (.slice ao n cap) es.length (seCells es)).star C) W) (hn : es.length + k ≤ 4398046511104) (h : ∀ a2 c2 w', At w0 ((rowE TSe 4 (.slice a2 (n + k) c2) (es ++ fs).length (seCells (es ++ fs))).star C) w' → wpList Tryz.prog ops Q rest (a.put o.dst (.slice a2 (n + k) c2)) w') :
    wpList Tryz.prog ops Q (o :: rest) a (W.alloc (.cells cs 66)) := by
  subst hp
  exact se_appLit hC hgd s x ho ao n cap es fs k hs hx hk hcs hS hn h
theorem seCells_set2 {es : List Se} {k : Nat} (hk : k < es.length) (x : Se) : seCells (es.set k x) = ((((seCells es).set (k * 4) (.int .i64 x.s)).set (k * 4 + 1) (.int .i64 x.u)).set (k * 4 + 2) (.int .i64 x.a)).set (k * 4 + 3) (.int .i64 x.t) := by
  apply List.ext_getElem?
  intro i
  by_cases hi : i < es.length * 4
  · obtain ⟨j, r, rfl, hr⟩ : ∃ j r, i = j * 4 + r ∧ r < 4 := ⟨i / 4, i % 4, by have := Nat.div_add_mod i 4; omega, Nat.mod_lt _ (by decide)⟩
    have hj : j < es.length := by omega
    rw [seCells_at (es.set k x) (by rw [List.length_set]; exact hj) hr]
    have hlen := seCells_len es
    by_cases e : j = k
    · subst e
      have hg : (es.set j x).getD j Se.none = x := by simp [List.getD, hj]
      rw [hg]
      rcases (show r = 0 ∨ r = 1 ∨ r = 2 ∨ r = 3 by omega) with rfl | rfl | rfl | rfl
      · rw [show j * 4 + 0 = j * 4 from rfl, List.getElem?_set_ne (by omega), List.getElem?_set_ne (by omega), List.getElem?_set_ne (by omega), List.getElem?_set_self (by (try simp only [List.length_set]); omega)]; rfl
      · rw [List.getElem?_set_ne (by omega), List.getElem?_set_ne (by omega), List.getElem?_set_self (by (try simp only [List.length_set]); omega)]; rfl
      · rw [List.getElem?_set_ne (by omega), List.getElem?_set_self (by (try simp only [List.length_set]); omega)]; rfl
      · rw [List.getElem?_set_self (by (try simp only [List.length_set]); omega)]; rfl
    · have hg : (es.set k x).getD j Se.none = es.getD j Se.none := by simp only [List.getD]; rw [List.getElem?_set_ne (fun c => e c.symm)]
      rw [hg, ← seCells_at es hj hr]
      rw [List.getElem?_set_ne (by omega)]; rw [List.getElem?_set_ne (by omega)]; rw [List.getElem?_set_ne (by omega)]; rw [List.getElem?_set_ne (by omega)]
  · rw [List.getElem?_eq_none (by rw [seCells_len, List.length_set]; omega), List.getElem?_eq_none (by simp [seCells_len]; omega)]
/-- An element is stored. -/
theorem At.seSet2 {w0 w : World} {C : Ass} (hC : C.Good) {g n cap : Nat} {es : List Se} (h : At w0 ((rowE TSe 4 (.slice (some ⟨g, 0, Option.none⟩) n cap) es.length (seCells es)).star C) w) {k : Nat} (hk : k < es.length) (x : Se) :
    At w0 ((rowE TSe 4 (.slice (some ⟨g, 0, Option.none⟩) n cap) (es.set k x).length (seCells (es.set k x))).star C) ((((w.setCell ⟨g, k * 4, Option.none⟩ (.int .i64 x.s)).setCell ⟨g, k * 4 + 1, Option.none⟩ (.int .i64 x.u)).setCell ⟨g, k * 4 + 2, Option.none⟩ (.int .i64 x.a)).setCell ⟨g, k * 4 + 3, Option.none⟩ (.int .i64 x.t)) := by
  have hlen : n = es.length := by
    obtain ⟨a3, c3, e3⟩ := rowE_shape h.erow
    simp at e3
    exact e3.2.1
  subst hlen
  have s0 := h.appendedE hC (h.erow.stored (k * 4) (.int .i64 x.s)).2 (h.erow.stored (k * 4) (.int .i64 x.s)).1 (.inl rfl)
  have s1 := s0.appendedE hC (s0.erow.stored (k * 4 + 1) (.int .i64 x.u)).2 (s0.erow.stored (k * 4 + 1) (.int .i64 x.u)).1 (.inl rfl)
  have s2 := s1.appendedE hC (s1.erow.stored (k * 4 + 2) (.int .i64 x.a)).2 (s1.erow.stored (k * 4 + 2) (.int .i64 x.a)).1 (.inl rfl)
  have s3 := s2.appendedE hC (s2.erow.stored (k * 4 + 3) (.int .i64 x.t)).2 (s2.erow.stored (k * 4 + 3) (.int .i64 x.t)).1 (.inl rfl)
  rw [seCells_set2 hk, List.length_set]
  exact s3
/-- The same, in a walk. -/
theorem se_storeC {w0 W : World} {C : Ass} {ops : Array Oper} {rest : List Oper} {o : Oper} {a : Act} {Q : Exit → Act → World → Prop} (hC : C.Good) (hgd : o.guard = Option.none) (x y : Operand) (ho : o.op = .store TSe x y) (hd : o.dst = Option.none) {g n cap k : Nat} {es : List Se} (hx : a.eval x = .pointer (some ⟨g, k * 4, Option.none⟩)) (v : Se) (hy : a.eval y = .agg #[.int .i64 v.s, .int .i64 v.u, .int .i64 v.a, .int .i64 v.t])
    (hS : At w0 ((rowE TSe 4 (.slice (some ⟨g, 0, Option.none⟩) n cap) es.length (seCells es)).star C) W) (hk : k < es.length) (h : ∀ W', At w0 ((rowE TSe 4 (.slice (some ⟨g, 0, Option.none⟩) n cap) (es.set k v).length (seCells (es.set k v))).star C) W' → wpList Tryz.prog ops Q rest a W') : wpList Tryz.prog ops Q (o :: rest) a W := by
  have hT := At.seSet2 hC hS hk v
  have hr := hS.erow
  obtain ⟨h1, _⟩ := seAt_row hS
  refine wpList_store_mid hgd TSe x y ho g (k * 4) #[.int .i64 v.s, .int .i64 v.u, .int .i64 v.a, .int .i64 v.t] hx hy ?_ (by kernel_rfl) (by kernel_rfl) ?_
  · intro j hj
    have hlen : n = es.length := by
      obtain ⟨a3, c3, e3⟩ := rowE_shape hr
      simp at e3
      exact e3.2.1
    subst hlen
    have hj2 : j < 4 := hj
    refine ⟨?_, hr.frozenAt _⟩
    have hc : (k * 4 + j) < (seCells es).length := by rw [seCells_len]; omega
    have h3 := h1 (k * 4 + j) _ (List.getElem?_eq_getElem hc)
    rw [Nat.zero_add] at h3
    rw [h3]
    rfl
  · rw [hd]
    exact h _ hT
end Go.Proofs.YtopkcaflmpjhgaaGreat

