/- Put together: Lnum, Inrow, Inrow2. Conditions: each theorem's own. -/
import Derived.Test.YtopkcaflmpjhgaaGreatProg
import Derived.WalkKit
import Derived.Test.YtopkcaflmpjhgaaGreatBsp
import Derived.WalkSpells
import Derived.WalkLawsBesides
import Derived.Lib.Hide
import Derived.Maps.AppendAt
import Derived.Great.Walk
import Derived.OwnWalk
import Derived.IntWalk
import Derived.Deep.QuietTactic
import Derived.Laws.OwnMore
import Derived.Deep.MidRow
namespace Go.Proofs.YtopkcaflmpjhgaaGreat
open Go Go.RowKit

theorem lnum (n : Int) (w : World) : Calls Tryz.prog 10 #[.int .i64 n] w fun e w' => e = .returned (.int .i64 n) ∧ w = w' := by
  go_enter Tryz.func10, Tryz.ntmps10
  go_wp2
  go_ret
  exact ⟨rfl, rfl⟩
end Go.Proofs.YtopkcaflmpjhgaaGreat

namespace Go.Proofs.YtopkcaflmpjhgaaGreat
open Go Go.RowKit

abbrev TIn : TypeId := 3
theorem in_info : (Tryz.prog.info? TIn).map (fun i => (i.zero, i.size, i.bytes)) = some (some (.int .i64 0), 1, 8) := by kernel_rfl
/-- The cells of a row. -/
def inCells (l : List Int) : List Value := l.map (Value.int .i64)
theorem inCells_len (es : List Int) : (inCells es).length = es.length * 1 := by simp [inCells]
theorem inCells_app (es fs : List Int) : inCells (es ++ fs) = inCells es ++ inCells fs := by simp [inCells]
theorem inCells_at (es : List Int) {j : Nat} (hj : j < es.length) : (inCells es)[j]? = some (.int .i64 (es.getD j 0)) := by simp [inCells, List.getD, hj]
theorem inCells_one (es : List Int) : ∀ u ∈ inCells es, u.oneCell' = true := by
  intro u hu
  obtain ⟨x, _, rfl⟩ := List.mem_map.1 hu
  rfl
/-- A row that somebody has, at off of block b. -/
def InAt (w : World) (b off : Nat) (es : List Int) : Prop := ∀ i u, (inCells es)[i]? = some u → w.cell? ⟨b, off + i, none⟩ = some u
theorem InAt.elem {w : World} {b off : Nat} {es : List Int} (h : InAt w b off es) {j : Nat} (hj : j < es.length) : w.cell? ⟨b, off + j, none⟩ = some (.int .i64 (es.getD j 0)) := h j _ (inCells_at es hj)
theorem InAt.same {w w' : World} {b off : Nat} {es : List Int} (h : InAt w b off es) (hb : w'.heap[b]? = w.heap[b]?) : InAt w' b off es := fun i u hu => (World.cell?_of_block (a := ⟨b, off + i, none⟩) hb).trans (h i u hu)
/-- A row that a call is given: none, or in a block that is not among F. -/
structure InIn (F : List Nat) (w : World) (ao : Option Addr) (n : Nat) (es : List Int) : Prop where
  len : n = es.length
  row : n = 0 ∨ ∃ b off, ao = some ⟨b, off, none⟩ ∧ InAt w b off es ∧ b ∉ F ∧ b < w.heap.size
  few : n ≤ 140737488355328
theorem InIn.tn {F : List Nat} {w W : World} {ao : Option Addr} {n : Nat} {es : List Int} (h : InIn F w ao n es) (ht : Tn F w W) : InIn F W ao n es := by
  refine ⟨h.len, ?_, h.few⟩
  rcases h.row with c | ⟨b, off, e, h1, h2, h3⟩
  · exact .inl c
  · exact .inr ⟨b, off, e, h1.same (ht.block b h3 h2), h2, Nat.lt_of_lt_of_le h3 ht.size⟩
theorem in_exapp {P : Program} {a : Act} {w w' : World} {op : Oper} (x y : Operand) (t : TypeId) (ho : op.op = .call { callee := .builtin .append, args := #[x, y], argTypes := #[t, t] }) {v u v' : Value} (hx : a.eval x = v) (hy : a.eval y = u) (hr : (Builtin.append_ #[t, t] op.type #[v, u]).run P w = .ok v' w') :
    (execOp a.eval op).run P w = .ok (.value v') w' := by
  unfold execOp
  simp only [ho, resolve, invoke, builtin, Sem.run_bind, Sem.run_pure, Result.andThen_ok, List.map_toArray, List.map_cons, List.map_nil, hx, hy, hr]
theorem in_made {A : Ass} {w w' : World} (h : At w A w') : Becomes [] A w w' := by
  obtain ⟨F, h1, h2, h3⟩ := h
  exact ⟨F, h1, Tn.ofBelow h3 [], fun k hk => .inr (h2 k hk)⟩
theorem in_app {W w' : World} {ops : Array Oper} {rest : List Oper} {o : Oper} {a : Act} {Q : Exit → Act → World → Prop} {v u v' : Value} (hgd : o.guard = Option.none) (s x : Operand)
    (ho : o.op = .call { callee := .builtin .append, args := #[s, x], argTypes := #[27, 27] }) (hs : a.eval s = v) (hx : a.eval x = u) (hr : (Builtin.append_ #[27, 27] o.type #[v, u]).run Tryz.prog W = .ok v' w') (h : wpList Tryz.prog ops Q rest (a.put o.dst v') w') :
    wpList Tryz.prog ops Q (o :: rest) a W := Great.wpList_runTo hgd o.dst rfl _ _ (in_exapp s x 27 ho hs hx hr) h
abbrev inse0 : Oper := { dst := some 17, op := Op.move (Operand.tmp 0), type := 27, pos := "plain.go:43", after := #[], guard := none }
abbrev inse1 : Oper := { dst := some 18, op := Op.move (Operand.tmp 5), type := 3, pos := "plain.go:43", after := #[], guard := none }
abbrev inse2 : Oper := { dst := some 19, op := Op.indexAddr 27 (Operand.tmp 17) (Operand.tmp 18), type := 0, pos := "plain.go:43", after := #[{ on := 0, ground := Ground.data }, { on := 1, ground := Ground.data }], guard := none }
abbrev inse3 : Oper := { dst := some 20, op := Op.load 3 (Operand.tmp 19), type := 3, pos := "plain.go:43", after := #[{ on := 2, ground := Ground.data }], guard := none }
abbrev inse4 : Oper := { dst := some 21, op := Op.move (Operand.tmp 1), type := 27, pos := "plain.go:43", after := #[], guard := none }
abbrev inse5 : Oper := { dst := some 22, op := Op.move (Operand.tmp 5), type := 3, pos := "plain.go:43", after := #[], guard := none }
abbrev inse6 : Oper := { dst := some 23, op := Op.indexAddr 27 (Operand.tmp 21) (Operand.tmp 22), type := 0, pos := "plain.go:43", after := #[{ on := 4, ground := Ground.data }, { on := 5, ground := Ground.data }], guard := none }
abbrev inse7 : Oper := { dst := some 24, op := Op.load 3 (Operand.tmp 23), type := 3, pos := "plain.go:43", after := #[{ on := 6, ground := Ground.data }], guard := none }
abbrev inse8 : Oper := { dst := some 25, op := Op.binOp BinOp.neq 3 (Operand.tmp 20) (Operand.tmp 24) 3, type := 4, pos := "plain.go:43", after := #[{ on := 3, ground := Ground.data }, { on := 7, ground := Ground.data }], guard := none }
theorem in_neq {a : Act} {w : World} {op : Oper} (ho : op.op = .binOp .neq 3 (.tmp 20) (.tmp 24) 3) (x y : Int) (hp : a.eval (.tmp 20) = .int .i64 x) (hq : a.eval (.tmp 24) = .int .i64 y) : (execOp a.eval op).run Tryz.prog w = .ok (.value (.bool (!decide (x = y)))) w := by
  unfold execOp
  simp only [ho, hp, hq, Sem.run_bind]
  by_cases h : x = y
  · subst h
    go_simp
  · have hd : decide (x = y) = false := decide_eq_false h
    rw [hd]
    go_simp
/-- Two rows. -/
def inSame (n : Nat) (es fs : List Int) : Prop := ∀ i, i < n → es.getD i 0 = fs.getD i 0
theorem inSame_eq {es fs : List Int} (h1 : es.length = fs.length) (h : inSame es.length es fs) : es = fs := by
  apply List.ext_getElem h1
  intro i a b
  have := h i a
  simpa [List.getD, a, b] using this
theorem in_bel {w W W' : World} (hb : Below w.heap.size w W) (h : Below W.heap.size W W') : Below w.heap.size w W' := hb.trans (h.mono hb.size)
theorem in_drew (w : World) : Below w.heap.size w w.drew := ⟨rfl, rfl, rfl, Nat.le_refl _, fun _ _ => rfl⟩
set_option maxRecDepth 100000 in
set_option maxHeartbeats 4000000 in
/-- Same. -/
theorem in_same {w : World} {ao bo : Option Addr} {n m c1 c2 : Nat} {es fs : List Int} (h1 : InIn [] w ao n es) (h2 : InIn [] w bo m fs) :
    Calls Tryz.prog 24 #[.slice ao n c1, .slice bo m c2] w fun e w' => e = .returned (.bool (decide (es = fs))) ∧ Below w.heap.size w w' := by
  obtain ⟨l1, r1, f1⟩ := h1
  obtain ⟨l2, r2, f2⟩ := h2
  by_cases hl : n = m
  · subst hl
    have HL := Lib.hid (And.intro l1 l2)
    have HR1 := Lib.hid r1
    have HR2 := Lib.hid r2
    clear l1 l2 r1 r2
    have hb0 := Below.refl w.heap.size w
    go_enter Tryz.func24, Tryz.ntmps24
    go_wp2
    go_loopw [5] (fun x wr => ∃ k : Nat, k ≤ n ∧ x = .int .i64 (k : Int) ∧ inSame k es fs ∧ Below w.heap.size w wr) (fun x _ => n - (intOf x).toNat)
    case atStart => exact ⟨0, Nat.zero_le _, rfl, (fun i hi => by omega), hb0⟩
    case round =>
      clear hb0
      obtain ⟨k, hkn, rfl, hp, hbl⟩ := hrel
      by_cases hlt : k < n
      · obtain ⟨b1, o1, rfl, e1, _, g1⟩ : ∃ b off, ao = some ⟨b, off, none⟩ ∧ InAt w b off es ∧ b ∉ ([] : List Nat) ∧ b < w.heap.size := by
          rcases HR1.out with c | c
          · omega
          · exact c
        obtain ⟨b2, o2, rfl, e2, _, g2⟩ : ∃ b off, bo = some ⟨b, off, none⟩ ∧ InAt w b off fs ∧ b ∉ ([] : List Nat) ∧ b < w.heap.size := by
          rcases HR2.out with c | c
          · omega
          · exact c
        have H1 := Lib.hid (fun W (hb : Below w.heap.size w W) => (e1.same (hb.block b1 g1)).elem (j := k) (by rw [← HL.out.1]; exact hlt))
        have H2 := Lib.hid (fun W (hb : Below w.heap.size w W) => (e2.same (hb.block b2 g2)).elem (j := k) (by rw [← HL.out.2]; exact hlt))
        obtain ⟨x, hx⟩ : ∃ x, es.getD k 0 = x := ⟨_, rfl⟩
        obtain ⟨y, hy⟩ : ∃ y, fs.getD k 0 = y := ⟨_, rfl⟩
        have HX := Lib.hid (And.intro hx hy)
        rw [hx] at H1
        rw [hy] at H2
        have HP := Lib.hid hp
        clear hx hy hp e1 e2
        go_wp2
        refine region_held (S := fun Z8 => Below w.heap.size w Z8) 9 [false, false, false, false, false, false, false, false, false] rfl rfl (by kernel_rfl) fun V0 hW => ?_
        have hV : Below w.heap.size w V0 := by rw [hW]; exact in_bel hbl (in_drew wr)
        clear hW hbl
        refine run_go [(0, inse0, (some 17)), (1, inse1, (some 18)), (2, inse2, (some 19)), (3, inse3, (some 20)), (4, inse4, (some 21)), (5, inse5, (some 22)), (6, inse6, (some 23)), (7, inse7, (some 24))] (by kernel_rfl) ?_
        iterate 8 (refine run_take ?_ rfl rfl (fun _ _ _ h => h) (Or.inl ⟨by rfl, ?_⟩) hV ?_; rotate_left; (· (intro w0 hy0; have a0 := H1.out _ hy0; have z0 := H2.out _ hy0; (go_simp <;> with_reducible rfl))); simp only [Act.put, List.setIfInBounds_toArray, List.set_cons_zero, List.set_cons_succ])
        refine run_end ?_
        refine held_take 8 inse8 (some 25) (.bool (!decide (x = y))) rfl rfl (by kernel_rfl) (by kernel_rfl) (by kernel_rfl) (fun _ _ _ h => h) (Or.inl ⟨by rfl, fun w0 hy0 => in_neq rfl x y rfl rfl⟩) hV ?_
        simp only [Act.put, List.setIfInBounds_toArray, List.set_cons_zero, List.set_cons_succ]
        refine wpAnyH_done (by kernel_rfl) ?_ _
        by_cases hxy : x = y
        · have hd : (!decide (x = y)) = false := by simp [hxy]
          rw [hd]
          have HXY := Lib.hid hxy
          clear hxy hd
          go_wp2
          go_round
          case rel =>
            refine ⟨k + 1, by omega, by go_num, fun i hi => ?_, hV⟩
            by_cases c : i < k
            · exact HP.out i c
            · obtain rfl : i = k := by omega
              rw [HX.out.1, HX.out.2]; exact HXY.out
          case measure => simp [intOf]; omega
        · have hd : (!decide (x = y)) = true := by simp [hxy]
          rw [hd]
          have HXY := Lib.hid hxy
          clear hxy hd
          go_wp2
          go_ret
          have hne : decide (es = fs) = false := decide_eq_false fun c => HXY.out (by rw [← HX.out.1, ← HX.out.2, c])
          rw [hne]
          exact ⟨rfl, hV⟩
      · have HQ := Lib.hid (show es = fs from by
          obtain ⟨q1, q2⟩ := HL.out
          have hk : k = n := by omega
          refine inSame_eq (by omega) ?_
          rw [← q1, ← hk]
          exact hp)
        clear hp
        go_wp2
        go_ret
        have he : decide (es = fs) = true := decide_eq_true HQ.out
        rw [he]
        exact ⟨rfl, hbl⟩
  · have hne : decide (es = fs) = false := decide_eq_false fun c => hl (by rw [l1, l2, c])
    rw [hne]
    have hd : ((n : Int) != (m : Int)) = true := by simp; omega
    clear l1 l2 r1 r2 hne
    go_enter Tryz.func24, Tryz.ntmps24
    go_wp2
    go_ret
    exact ⟨rfl, Below.refl _ _⟩
theorem in_runApp {w : World} {v : Value} {es : List Int} (ty : TypeId) (all : List Int) (hown : w.ownsRow 0 TIn 1 v all.length (inCells all)) (ao : Option Addr) (k c : Nat) (hk : k = es.length) (hf : all.length + k ≤ 17592186044416) (hc : (ao = none ∧ k = 0 ∧ c = 0) ∨ ∃ b off, ao = some ⟨b, off, none⟩ ∧ InAt w b off es) :
    ∃ v' w', (Builtin.append_ #[27, 27] ty #[v, .slice ao k c]).run Tryz.prog w = .ok v' w' ∧ w'.ownsRow 0 TIn 1 v' (all.length + k) (inCells all ++ inCells es) ∧ w.grownBy w' v.ownBlock ∧ (v' = .slice none 0 0 ↔ v = .slice none 0 0 ∧ k = 0) ∧ (v'.ownBlock = v.ownBlock ∨ v'.ownBlock = some w.heap.size) := by
  obtain ⟨i, hi, hz0, hz1, hz2⟩ := info_parts in_info
  rcases hc with ⟨rfl, rfl, rfl⟩ | ⟨b, off, rfl, he⟩
  · have hes : es = [] := List.length_eq_zero_iff.1 hk.symm
    subst hes
    refine ⟨v, w, run_append_owned_none (P := Tryz.prog) (w := w) 0 27 ty TIn i 1 Tryz.underlying27 hi v _ _ hown, ?_, World.grownBy.refl _ _, by simp, .inl rfl⟩
    simpa [inCells] using hown
  · exact run_append_own_at (P := Tryz.prog) w 0 27 ty TIn i _ 1 8 Tryz.underlying27 hi hz0 hz1 hz2 rfl (by decide) v all.length (inCells all) hown ⟨b, off, none⟩ k c (inCells es) (by rw [inCells_len, hk]) (fun j u hj => by rw [Addr.add_lit]; exact he j u hj) (inCells_one es) (by unfold maxLen; omega) (by omega) (Nat.zero_le _)
theorem inAt_lit (W : World) (fs : List Int) : InAt (W.alloc (.cells (inCells fs).toArray TIn)) W.heap.size 0 fs := fun i u hu => by
  rw [Nat.zero_add, cell_of_row _ W.heap.size i _ _ _ (heap_alloc_new W _), List.getElem?_toArray]
  exact hu
section
variable {w0 w W : World} {C : Ass}
/-- A literal row laid behind a row. -/
theorem in_appLit {ops : Array Oper} {rest : List Oper} {o : Oper} {a : Act} {Q : Exit → Act → World → Prop} (hC : C.Good) (hgd : o.guard = Option.none) (s x : Operand)
    (ho : o.op = .call { callee := .builtin .append, args := #[s, x], argTypes := #[27, 27] }) (ao : Option Addr) (n cap : Nat) (es fs : List Int) (k : Nat) (hs : a.eval s = .slice ao n cap) (hx : a.eval x = .slice (some ⟨W.heap.size, 0, Option.none⟩) k k) (hk : k = fs.length) {cs : Array Value} (hcs : cs = (inCells fs).toArray)
    (hS : At w0 ((rowE TIn 1 (.slice ao n cap) es.length (inCells es)).star C) W) (hn : es.length + k ≤ 17592186044416) (h : ∀ a2 c2 w', At w0 ((rowE TIn 1 (.slice a2 (n + k) c2) (es ++ fs).length (inCells (es ++ fs))).star C) w' → wpList Tryz.prog ops Q rest (a.put o.dst (.slice a2 (n + k) c2)) w') :
    wpList Tryz.prog ops Q (o :: rest) a (W.alloc (.cells cs 3)) := by
  subst hcs
  obtain ⟨v', w2, hrun, hrow, hgr, hnil, hlo⟩ := in_runApp (es := fs) o.type es (hS.erow.alloc (.cells (inCells fs).toArray TIn)) (some ⟨W.heap.size, 0, none⟩) k k hk hn (.inr ⟨_, _, rfl, inAt_lit W fs⟩)
  have hlen : n = es.length := by
    obtain ⟨a3, c3, e3⟩ := rowE_shape hS.erow
    simp at e3
    exact e3.2.1
  obtain ⟨a2, c2, rfl⟩ := rowE_shape hrow
  rw [← hlen] at hrun hrow hlo
  refine in_app hgd s x ho hs hx hrun (h a2 c2 w2 ?_)
  have hg := (World.grownBy_alloc W (.cells (inCells fs).toArray TIn) _).trans hgr
  refine hS.appendedE hC hg ?_ ?_
  · rw [inCells_app, List.length_append, ← hlen, ← hk]
    exact hrow
  · rcases hlo with c | c
    · exact .inl c
    · exact .inr ⟨_, by simp, c⟩
theorem in_big {ao : Option Addr} {k cap : Nat} {es : List Int} (h : At w0 ((rowE TIn 1 (.slice ao k cap) es.length (inCells es)).star C) w) (hk : 1 ≤ es.length) : ∃ g, ao = some ⟨g, 0, none⟩ ∧ k = es.length ∧ k ≤ cap := by
  obtain ⟨_, ⟨F1, F2, rfl, ⟨h1, rfl⟩, _, _⟩, _⟩ := h
  rcases h1.2 with ⟨e, h0⟩ | ⟨g, c, cur, e, _, hg, hle, _⟩
  · omega
  · obtain ⟨rfl, rfl, rfl⟩ : ao = some ⟨g, 0, none⟩ ∧ k = es.length ∧ cap = c := by simpa using e
    exact ⟨g, rfl, rfl, hle⟩
end
section
variable {w0 w : World} {C : Ass}
theorem inAt_row {g cap : Nat} {es : List Int} {n : Nat} (h : At w0 ((rowE TIn 1 (.slice (some ⟨g, 0, none⟩) n cap) es.length (inCells es)).star C) w) : InAt w g 0 es ∧ g < w.heap.size := by
  have hr := h.erow
  refine ⟨fun i u hu => ?_, (hr.lt g (by simp [Value.ownBlock])).2⟩
  have := hr.cells (g := g) rfl i u hu
  rw [Addr.add_lit] at this
  exact this
/-- A row's block, known whole. -/
theorem At.inWhole {g cap n : Nat} {es : List Int} (h : At w0 ((rowE TIn 1 (.slice (some ⟨g, 0, Option.none⟩) n cap) es.length (inCells es)).star C) w) : ∃ cur : Array Value, (∀ j, j < es.length → ∃ z, cur[j]? = some (.int .i64 z)) ∧ At w0 ((ownA g cur TIn).star C) w := by
  obtain ⟨F, ⟨F1, F2, rfl, ⟨h1, rfl⟩, g2, g3⟩, hB, hb⟩ := h
  rcases h1.2 with ⟨e, _⟩ | ⟨g', c, cur, e, _, hg, hle, _, hsz, htk⟩
  · simp at e
  · obtain ⟨rfl, rfl, rfl⟩ : g = g' ∧ n = es.length ∧ cap = c := by simpa using e
    refine ⟨cur, fun j hj => ?_, [g] ++ F2, ⟨[g], F2, rfl, ⟨hg, rfl⟩, g2, fun k hk => g3 k (by simpa [Value.ownBlock] using hk)⟩, fun k hk => hB k (by simpa [Value.ownBlock] using hk), hb⟩
    have hc := inCells_at es hj
    rw [← htk, List.getElem?_take_of_lt (by omega)] at hc
    exact ⟨_, by rw [← Array.getElem?_toList]; exact hc⟩
set_option maxHeartbeats 4000000 in
/-- SpoilInts. -/
theorem in_spoil (hC : C.Good) {ao : Option Addr} {n cap : Nat} {es : List Int} (h : At w0 ((rowE TIn 1 (.slice ao n cap) es.length (inCells es)).star C) w) (hn : es.length ≤ 17592186044416) :
    Calls Tryz.prog 37 #[.slice ao n cap] w fun e w' => e = .returned (.tuple #[]) ∧ At w0 C w' := by
  obtain ⟨a3, c3, e3⟩ := rowE_shape h.erow
  obtain ⟨rfl, rfl, rfl⟩ : ao = a3 ∧ n = es.length ∧ cap = c3 := by simpa using e3
  clear e3
  by_cases h0 : es.length = 0
  · have hS := h.drop
    rw [h0]
    clear h
    go_enter Tryz.func37, Tryz.ntmps37
    go_wp2
    go_loopw [2] (fun x wr => x = .int .i64 0 ∧ At w0 C wr) (fun _ _ => 0)
    case atStart => exact ⟨rfl, hS⟩
    case round =>
      clear hS
      obtain ⟨rfl, hS⟩ := hrel
      go_wp2
      refine Great.bodyPost_end0 rfl rfl ?_
      exact ⟨rfl, hS⟩
  · obtain ⟨g, rfl, -, -⟩ := in_big h (by omega)
    obtain ⟨cur, hcur, hS⟩ := h.inWhole
    clear h
    generalize es.length = m at *
    go_enter Tryz.func37, Tryz.ntmps37
    go_wp2
    go_loopw [2] (fun x wr => ∃ (k : Nat) (cur : Array Value), k ≤ m ∧ x = .int .i64 (k : Int) ∧ (∀ j, j < m → ∃ z, cur[j]? = some (.int .i64 z)) ∧ At w0 ((ownA g cur TIn).star C) wr) (fun x _ => m - (intOf x).toNat)
    case atStart => exact ⟨0, cur, Nat.zero_le _, rfl, hcur, hS⟩
    case round =>
      clear hS hcur
      obtain ⟨k, cur, hkm, rfl, hcur, hS⟩ := hrel
      by_cases hlt : k < m
      · have hltI : (k : Int) < (m : Int) := by omega
        obtain ⟨z, hz⟩ := hcur k hlt
        obtain ⟨o1, o2, o3⟩ := hS.own
        have c7 : wr.cell? ⟨g, k, none⟩ = some (.int .i64 z) := (o1 _).trans hz
        have f7 := o2 k
        obtain ⟨y, hy⟩ : ∃ y, wrap64 (-9 - z) = y := ⟨_, rfl⟩
        have hP := hS.poke hC k (.int .i64 y)
        have HP := Lib.hid hP
        have HN := Lib.hid (show ∀ j, j < m → ∃ z, (cur.setIfInBounds k (.int .i64 y))[j]? = some (.int .i64 z) from fun j hj => by
          by_cases c : j = k
          · subst c
            have hlt2 : j < cur.size := (Array.getElem?_eq_some_iff.1 hz).1
            exact ⟨y, by rw [Array.getElem?_setIfInBounds, if_pos rfl, if_pos hlt2]⟩
          · rw [Array.getElem?_setIfInBounds, if_neg (by omega)]
            exact hcur j hj)
        clear hP hS o1 o2 o3 hcur hz
        go_wp2
        go_round
        case rel => exact ⟨k + 1, _, by omega, by go_num, HN.out, HP.out⟩
        case measure => simp [intOf]; omega
      · obtain rfl : k = m := by omega
        have hltI : ¬ (k : Int) < (k : Int) := by omega
        have hD := hS.drop
        clear hS hcur
        go_wp2
        refine Great.bodyPost_end0 rfl rfl ?_
        exact ⟨rfl, hD⟩
end
end Go.Proofs.YtopkcaflmpjhgaaGreat

namespace Go.Proofs.YtopkcaflmpjhgaaGreat
open Go Go.RowKit

theorem in_on {w W : World} {ao : Option Addr} {n : Nat} {es : List Int} (h : InIn [] w ao n es) (hb : Below w.heap.size w W) : InIn [] W ao n es := h.tn (Tn.ofBelow hb [])
theorem in_none {w : World} {ao : Option Addr} : InIn [] w ao 0 [] := ⟨rfl, .inl rfl, by decide⟩
theorem At.inI {w0 w : World} {C : Ass} {ao : Option Addr} {n m cap : Nat} {es : List Int} (h : At w0 ((rowE TIn 1 (.slice ao n cap) m (inCells es)).star C) w) (hn : n = es.length) (hm : m = es.length) (hf : es.length ≤ 17592186044416) : InIn [] w ao n es := by
  subst hn hm
  refine ⟨rfl, ?_, by omega⟩
  by_cases h0 : es.length = 0
  · exact .inl h0
  · obtain ⟨g, rfl, _, _⟩ := in_big h (by omega)
    obtain ⟨h1, h2⟩ := inAt_row h
    exact .inr ⟨g, 0, rfl, h1, by simp, h2⟩
theorem At.inCap {w0 w : World} {C : Ass} {ao : Option Addr} {n m cap : Nat} {xs : List Value} (h : At w0 ((rowE TIn 1 (.slice ao n cap) m xs).star C) w) : ao = Option.none → cap = 0 := by
  intro e
  subst e
  obtain ⟨_, ⟨F1, F2, rfl, ⟨h1, rfl⟩, _, _⟩, _⟩ := h
  rcases h1.2 with ⟨e, _⟩ | ⟨g, c, cur, e, _⟩
  · simpa using congrArg (fun v => match v with | .slice _ _ c => c | _ => 0) e
  · simp at e
theorem in_el {w : World} {ao : Option Addr} {n : Nat} {es : List Int} (h : InIn [] w ao n es) {k : Nat} (hk : k < n) : ∃ b off a, ao = some ⟨b, off, none⟩ ∧ es.getD k (0 : Int) = a ∧ ∀ W, Below w.heap.size w W → W.cell? ⟨b, off + k, none⟩ = some (.int .i64 a) := by
  obtain ⟨hlen, hrow, _⟩ := h
  rcases hrow with c | ⟨b, off, rfl, hat, _, hlb⟩
  · omega
  · exact ⟨b, off, _, rfl, rfl, fun W hW => (hat.same (hW.block b hlb)).elem (by rw [← hlen]; exact hk)⟩
/-- The first k of a row. -/
theorem inAt_take {w : World} {b off : Nat} {es : List Int} (h : InAt w b off es) (k : Nat) : InAt w b off (es.take k) := fun i u hu => h i u (by
  have e : inCells es = inCells (es.take k) ++ inCells (es.drop k) := by rw [← inCells_app, List.take_append_drop]
  rw [e]
  have hl : i < (inCells (es.take k)).length := by
    rcases Nat.lt_or_ge i (inCells (es.take k)).length with c | c
    · exact c
    · rw [List.getElem?_eq_none c] at hu; cases hu
  rw [List.getElem?_append_left hl]
  exact hu)
/-- Those behind the first k. -/
theorem inAt_drop {w : World} {b off : Nat} {es : List Int} (h : InAt w b off es) {k : Nat} (hk : k ≤ es.length) : InAt w b (off + k * 1) (es.drop k) := fun i u hu => by
  have e : inCells es = inCells (es.take k) ++ inCells (es.drop k) := by rw [← inCells_app, List.take_append_drop]
  have hl : (inCells (es.take k)).length = k * 1 := by rw [inCells_len, List.length_take, Nat.min_eq_left hk]
  rw [Nat.add_assoc]
  refine h (k * 1 + i) u ?_
  rw [e, List.getElem?_append_right (by omega), hl, show k * 1 + i - k * 1 = i by omega]
  exact hu
/-- A row laid behind a row of one's own. -/
theorem in_grow {w0 W : World} {C : Ass} (hC : C.Good) {ao : Option Addr} {n cap : Nat} {es fs : List Int} {b off k c : Nat} (hS : At w0 ((rowE TIn 1 (.slice ao n cap) es.length (inCells es)).star C) W) (hat : InAt W b off fs) (hk : k = fs.length) (hn : es.length + k ≤ 17592186044416) (ty : TypeId) :
    ∃ a2 c2 w2, (Builtin.append_ #[27, 27] ty #[.slice ao n cap, .slice (some ⟨b, off, none⟩) k c]).run Tryz.prog W = .ok (.slice a2 (n + k) c2) w2 ∧ At w0 ((rowE TIn 1 (.slice a2 (n + k) c2) (es ++ fs).length (inCells (es ++ fs))).star C) w2 := by
  obtain ⟨v', w2, hrun, hrow, hgr, hnil, hlo⟩ := in_runApp (es := fs) ty es hS.erow (some ⟨b, off, none⟩) k c hk hn (.inr ⟨_, _, rfl, hat⟩)
  have hlen : n = es.length := by
    obtain ⟨a3, c3, e3⟩ := rowE_shape hS.erow
    simp at e3
    exact e3.2.1
  obtain ⟨a2, c2, rfl⟩ := rowE_shape hrow
  rw [← hlen] at hrun hrow hlo
  refine ⟨a2, c2, w2, hrun, ?_⟩
  refine hS.appendedE hC hgr ?_ ?_
  · rw [inCells_app, List.length_append, ← hlen, ← hk]
    exact hrow
  · rcases hlo with e | e
    · exact .inl e
    · exact .inr ⟨_, Nat.le_refl _, e⟩
theorem At.inEmpty {w0 w : World} {C : Ass} (hC : C.Good) (h : At w0 C w) : At w0 ((rowE TIn 1 (.slice (some ⟨w.heap.size, 0, Option.none⟩) 0 0) ([] : List Int).length (inCells [])).star C) (w.alloc (.cells #[] TIn)) := by
  refine At.add hC h ⟨[w.heap.size], ⟨⟨rfl, .inr ⟨w.heap.size, 0, #[], rfl, Nat.zero_le _, heap_alloc_new w _, Nat.le_refl _, by decide, rfl, rfl⟩⟩, rfl⟩, (Tn.refl _ _).alloc _, fun k hk => .inr (by simp at hk; omega)⟩
/-- A copy of a row: append([]T{}, row...). -/
theorem in_dup {w0 w : World} {C : Ass} (hC : C.Good) (hS : At w0 C w) {ao : Option Addr} {n cap : Nat} {es : List Int} (hes : InIn [] w ao n es) (hc : ao = none → cap = 0) (hn : n ≤ 17592186044411) (ty : TypeId) :
    ∃ a2 c2 w2, (Builtin.append_ #[27, 27] ty #[.slice (some ⟨w.heap.size, 0, none⟩) 0 0, .slice ao n cap]).run Tryz.prog (w.alloc (.cells #[] TIn)) = .ok (.slice a2 n c2) w2 ∧ At w0 ((rowE TIn 1 (.slice a2 n c2) es.length (inCells es)).star C) w2 := by
  have hE := At.inEmpty hC hS
  have hes2 := hes.tn ((Tn.refl [] w).alloc (.cells #[] TIn))
  have hlen := hes.len
  by_cases h0 : n = 0
  · subst h0
    have he : es = [] := List.length_eq_zero_iff.1 hlen.symm
    subst he
    have hown := hE.erow
    cases ao with
    | none =>
      obtain ⟨v', w2, k1, k2, k3, k4, k5⟩ := in_runApp (es := []) ty [] hown none 0 cap rfl (by simp) (.inl ⟨rfl, rfl, hc rfl⟩)
      obtain ⟨a2, c2, rfl⟩ := rowE_shape k2
      refine ⟨a2, c2, w2, by simpa using k1, hE.appendedE hC k3 (by simpa [inCells] using k2) ?_⟩
      rcases k5 with e | e
      · exact .inl e
      · exact .inr ⟨_, Nat.le_refl _, e⟩
    | some a =>
      obtain ⟨i, hi, hz0, hz1, hz2⟩ := info_parts in_info
      obtain ⟨v', w2, k1, k2, k3, k4, k5⟩ := run_append_own_at (P := Tryz.prog) (w.alloc (.cells #[] TIn)) 0 27 ty TIn i _ 1 8 Tryz.underlying27 hi hz0 hz1 hz2 rfl (by decide) (.slice (some ⟨w.heap.size, 0, none⟩) 0 0) _ (inCells []) hown a 0 cap [] rfl (fun j u hj => by simp at hj) (fun u hu => by cases hu) (by unfold maxLen; simp) (by simp) (Nat.zero_le _)
      obtain ⟨a2, c2, rfl⟩ := rowE_shape k2
      refine ⟨a2, c2, w2, by simpa using k1, hE.appendedE hC k3 (by simpa [inCells] using k2) ?_⟩
      rcases k5 with e | e
      · exact .inl e
      · exact .inr ⟨_, Nat.le_refl _, e⟩
  · rcases hes2.row with c | ⟨b, off, rfl, h1, _⟩
    · exact absurd c h0
    · obtain ⟨a2, c2, w2, k1, k2⟩ := in_grow (c := cap) hC hE h1 hlen (by simp; omega) ty
      rw [Nat.zero_add] at k1 k2
      rw [List.nil_append] at k2
      exact ⟨a2, c2, w2, k1, k2⟩
/-- The same, in a walk. -/
theorem in_dupC {w0 W : World} {C : Ass} {ops : Array Oper} {rest : List Oper} {o : Oper} {a : Act} {Q : Exit → Act → World → Prop} (hC : C.Good) (hgd : o.guard = Option.none) (s x : Operand)
    (ho : o.op = .call { callee := .builtin .append, args := #[s, x], argTypes := #[27, 27] }) (ao : Option Addr) (n cap : Nat) (es : List Int) {p : Nat} (hs : a.eval s = .slice (some ⟨p, 0, Option.none⟩) 0 0) (hp : p = W.heap.size) (hx : a.eval x = .slice ao n cap)
    (hS : At w0 C W) (hes : InIn [] W ao n es) (hc : ao = Option.none → cap = 0) (hn : n ≤ 17592186044411) (h : ∀ a2 c2 w2, At w0 ((rowE TIn 1 (.slice a2 n c2) es.length (inCells es)).star C) w2 → wpList Tryz.prog ops Q rest (a.put o.dst (.slice a2 n c2)) w2) :
    wpList Tryz.prog ops Q (o :: rest) a (W.alloc (.cells #[] TIn)) := by
  subst hp
  obtain ⟨a2, c2, w2, hr, hS2⟩ := in_dup hC hS hes hc hn o.type
  exact in_app hgd s x ho hs hx hr (h a2 c2 w2 hS2)
/-- A literal row laid behind a row of one's own, its place told. -/
theorem in_appLit2 {w0 W : World} {C : Ass} {ops : Array Oper} {rest : List Oper} {o : Oper} {a : Act} {Q : Exit → Act → World → Prop} (hC : C.Good) (hgd : o.guard = Option.none) (s x : Operand)
    (ho : o.op = .call { callee := .builtin .append, args := #[s, x], argTypes := #[27, 27] }) (ao : Option Addr) (n cap : Nat) (es fs : List Int) (k : Nat) {p : Nat} (hs : a.eval s = .slice ao n cap) (hx : a.eval x = .slice (some ⟨p, 0, Option.none⟩) k k) (hp : p = W.heap.size) (hk : k = fs.length) {cs : Array Value} (hcs : cs = (inCells fs).toArray)
    (hS : At w0 ((rowE TIn 1 (.slice ao n cap) es.length (inCells es)).star C) W) (hn : es.length + k ≤ 17592186044416) (h : ∀ a2 c2 w', At w0 ((rowE TIn 1 (.slice a2 (n + k) c2) (es ++ fs).length (inCells (es ++ fs))).star C) w' → wpList Tryz.prog ops Q rest (a.put o.dst (.slice a2 (n + k) c2)) w') :
    wpList Tryz.prog ops Q (o :: rest) a (W.alloc (.cells cs 3)) := by
  subst hp
  exact in_appLit hC hgd s x ho ao n cap es fs k hs hx hk hcs hS hn h
theorem inCells_set2 {es : List Int} {k : Nat} (_hk : k < es.length) (x : Int) : inCells (es.set k x) = (inCells es).set (k) (.int .i64 x) := by
  apply List.ext_getElem?
  intro i
  simp [inCells, List.map_set]
/-- An element is stored. -/
theorem At.inSet2 {w0 w : World} {C : Ass} (hC : C.Good) {g n cap : Nat} {es : List Int} (h : At w0 ((rowE TIn 1 (.slice (some ⟨g, 0, Option.none⟩) n cap) es.length (inCells es)).star C) w) {k : Nat} (hk : k < es.length) (x : Int) :
    At w0 ((rowE TIn 1 (.slice (some ⟨g, 0, Option.none⟩) n cap) (es.set k x).length (inCells (es.set k x))).star C) (w.setCell ⟨g, k, Option.none⟩ (.int .i64 x)) := by
  have hlen : n = es.length := by
    obtain ⟨a3, c3, e3⟩ := rowE_shape h.erow
    simp at e3
    exact e3.2.1
  subst hlen
  have s0 := h.appendedE hC (h.erow.stored (k) (.int .i64 x)).2 (h.erow.stored (k) (.int .i64 x)).1 (.inl rfl)
  rw [inCells_set2 hk, List.length_set]
  exact s0
end Go.Proofs.YtopkcaflmpjhgaaGreat

