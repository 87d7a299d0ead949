
/- Put together: Parow, Parow2. Conditions: each theorem's own. -/
import Derived.Test.YtopkcaflmpjhgaaGreatBpl
import Derived.Test.YtopkcaflmpjhgaaGreatBsp
import Derived.Test.YtopkcaflmpjhgaaGreatProg
import Derived.WalkSpells
import Derived.WalkLawsBesides
import Derived.Lib.Hide
import Derived.Maps.AppendAt
import Derived.Great.Walk
import Derived.OwnWalk
import Derived.IntWalk
import Derived.Deep.QuietTactic
import Derived.Laws.OwnMore
import Derived.Deep.MidRow
namespace Go.Proofs.YtopkcaflmpjhgaaGreat
open Go Go.RowKit

abbrev TPa : TypeId := 69
theorem pa_info : (Tryz.prog.info? TPa).map (fun i => (i.zero, i.size, i.bytes)) = some (some (.agg #[.bool false, .int .i64 0, .int .i64 0]), 3, 24) := by kernel_rfl
def Pa.cs (e : Pa) : List Value := [.bool e.b, .int .i64 e.l, .int .i64 e.u]
theorem Pa.cs_len (e : Pa) : e.cs.length = 3 := rfl
/-- The cells of a row. -/
def paCells : List Pa → List Value
  | [] => []
  | e :: es => e.cs ++ paCells es
theorem paCells_len (es : List Pa) : (paCells es).length = es.length * 3 := by
  induction es with
  | nil => rfl
  | cons e es ih => rw [paCells, List.length_append, ih, Pa.cs_len, List.length_cons]; omega
theorem paCells_app (es fs : List Pa) : paCells (es ++ fs) = paCells es ++ paCells fs := by
  induction es with
  | nil => rfl
  | cons e es ih => rw [List.cons_append, paCells, ih, paCells, List.append_assoc]
theorem paCells_at (es : List Pa) {j : Nat} (hj : j < es.length) {i : Nat} (hi : i < 3) : (paCells es)[j * 3 + i]? = (es.getD j Pa.none).cs[i]? := by
  induction es generalizing j with
  | nil => cases hj
  | cons e es ih =>
    rw [paCells]
    cases j with
    | zero => rw [Nat.zero_mul, Nat.zero_add, List.getElem?_append_left (by rw [Pa.cs_len]; exact hi)]; rfl
    | succ j =>
      rw [List.getElem?_append_right (by rw [Pa.cs_len]; omega), Pa.cs_len, show (j + 1) * 3 + i - 3 = j * 3 + i by omega, ih (by simpa using hj)]
      rfl
theorem paCells_one (es : List Pa) : ∀ u ∈ paCells es, u.oneCell' = true := by
  induction es with
  | nil => intro u hu; cases hu
  | cons e es ih =>
    intro u hu
    rw [paCells] at hu
    rcases List.mem_append.1 hu with h | h
    · simp [Pa.cs] at h; rcases h with rfl | rfl | rfl <;> rfl
    · exact ih u h
/-- A row that somebody has, at off of block b. -/
def PaAt (w : World) (b off : Nat) (es : List Pa) : Prop := ∀ i u, (paCells es)[i]? = some u → w.cell? ⟨b, off + i, none⟩ = some u
theorem PaAt.elem {w : World} {b off : Nat} {es : List Pa} (h : PaAt w b off es) {j : Nat} (hj : j < es.length) : w.cell? ⟨b, off + j * 3, none⟩ = some (.bool (es.getD j Pa.none).b) ∧ w.cell? ⟨b, off + j * 3 + 1, none⟩ = some (.int .i64 (es.getD j Pa.none).l) ∧ w.cell? ⟨b, off + j * 3 + 2, none⟩ = some (.int .i64 (es.getD j Pa.none).u) := by
  have key : ∀ i, i < 3 → w.cell? ⟨b, off + j * 3 + i, none⟩ = (es.getD j Pa.none).cs[i]? := fun i hi => by
    have hx : ∃ u, (es.getD j Pa.none).cs[i]? = some u := ⟨_, List.getElem?_eq_getElem (by rw [Pa.cs_len]; exact hi)⟩
    obtain ⟨u, hu⟩ := hx
    rw [hu, Nat.add_assoc]
    exact h _ u (by rw [paCells_at es hj hi]; exact hu)
  exact ⟨key 0 (by decide), key 1 (by decide), key 2 (by decide)⟩
theorem PaAt.same {w w' : World} {b off : Nat} {es : List Pa} (h : PaAt w b off es) (hb : w'.heap[b]? = w.heap[b]?) : PaAt w' b off es := fun i u hu => (World.cell?_of_block (a := ⟨b, off + i, none⟩) hb).trans (h i u hu)
/-- A row that a call is given: none, or in a block that is not among F. -/
structure PaIn (F : List Nat) (w : World) (ao : Option Addr) (n : Nat) (es : List Pa) : Prop where
  len : n = es.length
  row : n = 0 ∨ ∃ b off, ao = some ⟨b, off, none⟩ ∧ PaAt w b off es ∧ b ∉ F ∧ b < w.heap.size
  few : n ≤ 140737488355328
theorem PaIn.tn {F : List Nat} {w W : World} {ao : Option Addr} {n : Nat} {es : List Pa} (h : PaIn F w ao n es) (ht : Tn F w W) : PaIn F W ao n es := by
  refine ⟨h.len, ?_, h.few⟩
  rcases h.row with c | ⟨b, off, e, h1, h2, h3⟩
  · exact .inl c
  · exact .inr ⟨b, off, e, h1.same (ht.block b h3 h2), h2, Nat.lt_of_lt_of_le h3 ht.size⟩
theorem pa_exapp {P : Program} {a : Act} {w w' : World} {op : Oper} (x y : Operand) (t : TypeId) (ho : op.op = .call { callee := .builtin .append, args := #[x, y], argTypes := #[t, t] }) {v u v' : Value} (hx : a.eval x = v) (hy : a.eval y = u) (hr : (Builtin.append_ #[t, t] op.type #[v, u]).run P w = .ok v' w') :
    (execOp a.eval op).run P w = .ok (.value v') w' := by
  unfold execOp
  simp only [ho, resolve, invoke, builtin, Sem.run_bind, Sem.run_pure, Result.andThen_ok, List.map_toArray, List.map_cons, List.map_nil, hx, hy, hr]
theorem pa_made {A : Ass} {w w' : World} (h : At w A w') : Becomes [] A w w' := by
  obtain ⟨F, h1, h2, h3⟩ := h
  exact ⟨F, h1, Tn.ofBelow h3 [], fun k hk => .inr (h2 k hk)⟩
theorem pa_app {W w' : World} {ops : Array Oper} {rest : List Oper} {o : Oper} {a : Act} {Q : Exit → Act → World → Prop} {v u v' : Value} (hgd : o.guard = Option.none) (s x : Operand)
    (ho : o.op = .call { callee := .builtin .append, args := #[s, x], argTypes := #[26, 26] }) (hs : a.eval s = v) (hx : a.eval x = u) (hr : (Builtin.append_ #[26, 26] o.type #[v, u]).run Tryz.prog W = .ok v' w') (h : wpList Tryz.prog ops Q rest (a.put o.dst v') w') :
    wpList Tryz.prog ops Q (o :: rest) a W := Great.wpList_runTo hgd o.dst rfl _ _ (pa_exapp s x 26 ho hs hx hr) h
abbrev pase0 : Oper := { dst := some 17, op := Op.move (Operand.tmp 0), type := 26, pos := "memory.go:84", after := #[], guard := none }
abbrev pase1 : Oper := { dst := some 18, op := Op.move (Operand.tmp 5), type := 3, pos := "memory.go:84", after := #[], guard := none }
abbrev pase2 : Oper := { dst := some 19, op := Op.indexAddr 26 (Operand.tmp 17) (Operand.tmp 18), type := 0, pos := "memory.go:84", after := #[{ on := 0, ground := Ground.data }, { on := 1, ground := Ground.data }], guard := none }
abbrev pase3 : Oper := { dst := some 20, op := Op.load 69 (Operand.tmp 19), type := 69, pos := "memory.go:84", after := #[{ on := 2, ground := Ground.data }], guard := none }
abbrev pase4 : Oper := { dst := some 21, op := Op.move (Operand.tmp 1), type := 26, pos := "memory.go:84", after := #[], guard := none }
abbrev pase5 : Oper := { dst := some 22, op := Op.move (Operand.tmp 5), type := 3, pos := "memory.go:84", after := #[], guard := none }
abbrev pase6 : Oper := { dst := some 23, op := Op.indexAddr 26 (Operand.tmp 21) (Operand.tmp 22), type := 0, pos := "memory.go:84", after := #[{ on := 4, ground := Ground.data }, { on := 5, ground := Ground.data }], guard := none }
abbrev pase7 : Oper := { dst := some 24, op := Op.load 69 (Operand.tmp 23), type := 69, pos := "memory.go:84", after := #[{ on := 6, ground := Ground.data }], guard := none }
abbrev pase8 : Oper := { dst := some 25, op := Op.binOp BinOp.neq 69 (Operand.tmp 20) (Operand.tmp 24) 69, type := 4, pos := "memory.go:84", after := #[{ on := 3, ground := Ground.data }, { on := 7, ground := Ground.data }], guard := none }
theorem pa_neq {a : Act} {w : World} {op : Oper} (p q : Operand) (ho : op.op = .binOp .neq 69 p q 69) (x y : Pa) (hp : a.eval p = .agg #[.bool x.b, .int .i64 x.l, .int .i64 x.u]) (hq : a.eval q = .agg #[.bool y.b, .int .i64 y.l, .int .i64 y.u]) : (execOp a.eval op).run Tryz.prog w = .ok (.value (.bool (!decide (x = y)))) w := by
  unfold execOp
  simp only [ho, hp, hq, Sem.run_bind]
  by_cases h : x = y
  · subst h
    go_simp
  · have hd : decide (x = y) = false := decide_eq_false h
    rw [hd]
    by_cases q0 : x.b = y.b
    · by_cases q1 : x.l = y.l
      · by_cases q2 : x.u = y.u
        · exact absurd (show x = y from by obtain ⟨_, _, _⟩ := x; obtain ⟨_, _, _⟩ := y; simp only [Pa.mk.injEq]; exact ⟨q0, q1, q2⟩) h
        · go_simp
      · go_simp
    · go_simp
/-- Two rows. -/
def paSame (n : Nat) (es fs : List Pa) : Prop := ∀ i, i < n → es.getD i Pa.none = fs.getD i Pa.none
theorem paSame_eq {es fs : List Pa} (h1 : es.length = fs.length) (h : paSame es.length es fs) : es = fs := by
  apply List.ext_getElem h1
  intro i a b
  have := h i a
  simpa [List.getD, a, b] using this
theorem pa_bel {w W W' : World} (hb : Below w.heap.size w W) (h : Below W.heap.size W W') : Below w.heap.size w W' := hb.trans (h.mono hb.size)
theorem pa_drew (w : World) : Below w.heap.size w w.drew := ⟨rfl, rfl, rfl, Nat.le_refl _, fun _ _ => rfl⟩
set_option maxRecDepth 100000 in
set_option maxHeartbeats 4000000 in
/-- Same. -/
theorem pa_same {w : World} {ao bo : Option Addr} {n m c1 c2 : Nat} {es fs : List Pa} (h1 : PaIn [] w ao n es) (h2 : PaIn [] w bo m fs) :
    Calls Tryz.prog 23 #[.slice ao n c1, .slice bo m c2] w fun e w' => e = .returned (.bool (decide (es = fs))) ∧ Below w.heap.size w w' := by
  obtain ⟨l1, r1, f1⟩ := h1
  obtain ⟨l2, r2, f2⟩ := h2
  by_cases hl : n = m
  · subst hl
    have HL := Lib.hid (And.intro l1 l2)
    have HR1 := Lib.hid r1
    have HR2 := Lib.hid r2
    clear l1 l2 r1 r2
    have hb0 := Below.refl w.heap.size w
    go_enter Tryz.func23, Tryz.ntmps23
    go_wp2
    go_loopw [5] (fun x wr => ∃ k : Nat, k ≤ n ∧ x = .int .i64 (k : Int) ∧ paSame k es fs ∧ Below w.heap.size w wr) (fun x _ => n - (intOf x).toNat)
    case atStart => exact ⟨0, Nat.zero_le _, rfl, (fun i hi => by omega), hb0⟩
    case round =>
      clear hb0
      obtain ⟨k, hkn, rfl, hp, hbl⟩ := hrel
      by_cases hlt : k < n
      · obtain ⟨b1, o1, rfl, e1, _, g1⟩ : ∃ b off, ao = some ⟨b, off, none⟩ ∧ PaAt w b off es ∧ b ∉ ([] : List Nat) ∧ b < w.heap.size := by
          rcases HR1.out with c | c
          · omega
          · exact c
        obtain ⟨b2, o2, rfl, e2, _, g2⟩ : ∃ b off, bo = some ⟨b, off, none⟩ ∧ PaAt w b off fs ∧ b ∉ ([] : List Nat) ∧ b < w.heap.size := by
          rcases HR2.out with c | c
          · omega
          · exact c
        have H1 := Lib.hid (fun W (hb : Below w.heap.size w W) => (e1.same (hb.block b1 g1)).elem (j := k) (by rw [← HL.out.1]; exact hlt))
        have H2 := Lib.hid (fun W (hb : Below w.heap.size w W) => (e2.same (hb.block b2 g2)).elem (j := k) (by rw [← HL.out.2]; exact hlt))
        obtain ⟨x, hx⟩ : ∃ x, es.getD k Pa.none = x := ⟨_, rfl⟩
        obtain ⟨y, hy⟩ : ∃ y, fs.getD k Pa.none = y := ⟨_, rfl⟩
        have HX := Lib.hid (And.intro hx hy)
        rw [hx] at H1
        rw [hy] at H2
        have HP := Lib.hid hp
        clear hx hy hp e1 e2
        go_wp2
        refine region_held (S := fun Z8 => Below w.heap.size w Z8) 9 [false, false, false, false, false, false, false, false, false] rfl rfl (by kernel_rfl) fun V0 hW => ?_
        have hV : Below w.heap.size w V0 := by rw [hW]; exact pa_bel hbl (pa_drew wr)
        clear hW hbl
        refine run_go [(0, pase0, (some 17)), (1, pase1, (some 18)), (2, pase2, (some 19)), (3, pase3, (some 20)), (4, pase4, (some 21)), (5, pase5, (some 22)), (6, pase6, (some 23)), (7, pase7, (some 24))] (by kernel_rfl) ?_
        iterate 8 (refine run_take ?_ rfl rfl (fun _ _ _ h => h) (Or.inl ⟨by rfl, ?_⟩) hV ?_; rotate_left; (· (intro w0 hy0; obtain ⟨a0, a1, a2⟩ := H1.out _ hy0; obtain ⟨z0, z1, z2⟩ := H2.out _ hy0; (go_simp <;> with_reducible rfl))); simp only [Act.put, List.setIfInBounds_toArray, List.set_cons_zero, List.set_cons_succ])
        refine run_end ?_
        refine held_take 8 pase8 (some 25) (.bool (!decide (x = y))) rfl rfl (by kernel_rfl) (by kernel_rfl) (by kernel_rfl) (fun _ _ _ h => h) (Or.inl ⟨by rfl, fun w0 hy0 => pa_neq (.tmp 20) (.tmp 24) rfl x y rfl rfl⟩) hV ?_
        simp only [Act.put, List.setIfInBounds_toArray, List.set_cons_zero, List.set_cons_succ]
        refine wpAnyH_done (by kernel_rfl) ?_ _
        by_cases hxy : x = y
        · have hd : (!decide (x = y)) = false := by simp [hxy]
          rw [hd]
          have HXY := Lib.hid hxy
          clear hxy hd
          go_wp2
          go_round
          case rel =>
            refine ⟨k + 1, by omega, by go_num, fun i hi => ?_, hV⟩
            by_cases c : i < k
            · exact HP.out i c
            · obtain rfl : i = k := by omega
              rw [HX.out.1, HX.out.2]; exact HXY.out
          case measure => simp [intOf]; omega
        · have hd : (!decide (x = y)) = true := by simp [hxy]
          rw [hd]
          have HXY := Lib.hid hxy
          clear hxy hd
          go_wp2
          go_ret
          have hne : decide (es = fs) = false := decide_eq_false fun c => HXY.out (by rw [← HX.out.1, ← HX.out.2, c])
          rw [hne]
          exact ⟨rfl, hV⟩
      · have HQ := Lib.hid (show es = fs from by
          obtain ⟨q1, q2⟩ := HL.out
          have hk : k = n := by omega
          refine paSame_eq (by omega) ?_
          rw [← q1, ← hk]
          exact hp)
        clear hp
        go_wp2
        go_ret
        have he : decide (es = fs) = true := decide_eq_true HQ.out
        rw [he]
        exact ⟨rfl, hbl⟩
  · have hne : decide (es = fs) = false := decide_eq_false fun c => hl (by rw [l1, l2, c])
    rw [hne]
    have hd : ((n : Int) != (m : Int)) = true := by simp; omega
    clear l1 l2 r1 r2 hne
    go_enter Tryz.func23, Tryz.ntmps23
    go_wp2
    go_ret
    exact ⟨rfl, Below.refl _ _⟩
/-- The mark behind what is lent. -/
abbrev paMk : Pa := ⟨false, 0, 77777⟩
abbrev paMks : List Pa := [paMk, paMk]
theorem pa_runApp {w : World} {v : Value} {es : List Pa} (ty : TypeId) (all : List Pa) (hown : w.ownsRow 0 TPa 3 v all.length (paCells all)) (ao : Option Addr) (k c : Nat) (hk : k = es.length) (hf : all.length + k ≤ 5864062014805) (hc : (ao = none ∧ k = 0 ∧ c = 0) ∨ ∃ b off, ao = some ⟨b, off, none⟩ ∧ PaAt w b off es) :
    ∃ v' w', (Builtin.append_ #[26, 26] ty #[v, .slice ao k c]).run Tryz.prog w = .ok v' w' ∧ w'.ownsRow 0 TPa 3 v' (all.length + k) (paCells all ++ paCells es) ∧ w.grownBy w' v.ownBlock ∧ (v' = .slice none 0 0 ↔ v = .slice none 0 0 ∧ k = 0) ∧ (v'.ownBlock = v.ownBlock ∨ v'.ownBlock = some w.heap.size) := by
  obtain ⟨i, hi, hz0, hz1, hz2⟩ := info_parts pa_info
  rcases hc with ⟨rfl, rfl, rfl⟩ | ⟨b, off, rfl, he⟩
  · have hes : es = [] := List.length_eq_zero_iff.1 hk.symm
    subst hes
    refine ⟨v, w, run_append_owned_none (P := Tryz.prog) (w := w) 0 26 ty TPa i 3 Tryz.underlying26 hi v _ _ hown, ?_, World.grownBy.refl _ _, by simp, .inl rfl⟩
    simpa [paCells] using hown
  · exact run_append_own_at (P := Tryz.prog) w 0 26 ty TPa i _ 3 24 Tryz.underlying26 hi hz0 hz1 hz2 rfl (by decide) v all.length (paCells all) hown ⟨b, off, none⟩ k c (paCells es) (by rw [paCells_len, hk]) (fun j u hj => by rw [Addr.add_lit]; exact he j u hj) (paCells_one es) (by unfold maxLen; omega) (by omega) (Nat.zero_le _)
theorem paAt_lit (W : World) (fs : List Pa) : PaAt (W.alloc (.cells (paCells fs).toArray TPa)) W.heap.size 0 fs := fun i u hu => by
  rw [Nat.zero_add, cell_of_row _ W.heap.size i _ _ _ (heap_alloc_new W _), List.getElem?_toArray]
  exact hu
section
variable {w0 w W : World} {C : Ass}
/-- A literal row laid behind a row. -/
theorem pa_appLit {ops : Array Oper} {rest : List Oper} {o : Oper} {a : Act} {Q : Exit → Act → World → Prop} (hC : C.Good) (hgd : o.guard = Option.none) (s x : Operand)
    (ho : o.op = .call { callee := .builtin .append, args := #[s, x], argTypes := #[26, 26] }) (ao : Option Addr) (n cap : Nat) (es fs : List Pa) (k : Nat) (hs : a.eval s = .slice ao n cap) (hx : a.eval x = .slice (some ⟨W.heap.size, 0, Option.none⟩) k k) (hk : k = fs.length) {cs : Array Value} (hcs : cs = (paCells fs).toArray)
    (hS : At w0 ((rowE TPa 3 (.slice ao n cap) es.length (paCells es)).star C) W) (hn : es.length + k ≤ 5864062014805) (h : ∀ a2 c2 w', At w0 ((rowE TPa 3 (.slice a2 (n + k) c2) (es ++ fs).length (paCells (es ++ fs))).star C) w' → wpList Tryz.prog ops Q rest (a.put o.dst (.slice a2 (n + k) c2)) w') :
    wpList Tryz.prog ops Q (o :: rest) a (W.alloc (.cells cs 69)) := by
  subst hcs
  obtain ⟨v', w2, hrun, hrow, hgr, hnil, hlo⟩ := pa_runApp (es := fs) o.type es (hS.erow.alloc (.cells (paCells fs).toArray TPa)) (some ⟨W.heap.size, 0, none⟩) k k hk hn (.inr ⟨_, _, rfl, paAt_lit W fs⟩)
  have hlen : n = es.length := by
    obtain ⟨a3, c3, e3⟩ := rowE_shape hS.erow
    simp at e3
    exact e3.2.1
  obtain ⟨a2, c2, rfl⟩ := rowE_shape hrow
  rw [← hlen] at hrun hrow hlo
  refine pa_app hgd s x ho hs hx hrun (h a2 c2 w2 ?_)
  have hg := (World.grownBy_alloc W (.cells (paCells fs).toArray TPa) _).trans hgr
  refine hS.appendedE hC hg ?_ ?_
  · rw [paCells_app, List.length_append, ← hlen, ← hk]
    exact hrow
  · rcases hlo with c | c
    · exact .inl c
    · exact .inr ⟨_, by simp, c⟩
theorem pa_big {ao : Option Addr} {k cap : Nat} {es : List Pa} (h : At w0 ((rowE TPa 3 (.slice ao k cap) es.length (paCells es)).star C) w) (hk : 1 ≤ es.length) : ∃ g, ao = some ⟨g, 0, none⟩ ∧ k = es.length ∧ k ≤ cap := by
  obtain ⟨_, ⟨F1, F2, rfl, ⟨h1, rfl⟩, _, _⟩, _⟩ := h
  rcases h1.2 with ⟨e, h0⟩ | ⟨g, c, cur, e, _, hg, hle, _⟩
  · omega
  · obtain ⟨rfl, rfl, rfl⟩ : ao = some ⟨g, 0, none⟩ ∧ k = es.length ∧ cap = c := by simpa using e
    exact ⟨g, rfl, rfl, hle⟩
end
section
variable {w0 w : World} {C : Ass}
theorem paAt_row {g cap : Nat} {es : List Pa} {n : Nat} (h : At w0 ((rowE TPa 3 (.slice (some ⟨g, 0, none⟩) n cap) es.length (paCells es)).star C) w) : PaAt w g 0 es ∧ g < w.heap.size := by
  have hr := h.erow
  refine ⟨fun i u hu => ?_, (hr.lt g (by simp [Value.ownBlock])).2⟩
  have := hr.cells (g := g) rfl i u hu
  rw [Addr.add_lit] at this
  exact this
theorem pa_mkAt (es : List Pa) : (es ++ paMks).getD es.length Pa.none = paMk ∧ (es ++ paMks).getD (es.length + 1) Pa.none = paMk := by
  constructor <;> simp [List.getD]
/-- A row's block, known whole. -/
theorem At.paWhole {g cap n : Nat} {es : List Pa} (h : At w0 ((rowE TPa 3 (.slice (some ⟨g, 0, Option.none⟩) n cap) es.length (paCells es)).star C) w) : ∃ cur : Array Value, (∀ j, j < es.length → ∃ z, cur[j * 3 + 2]? = some (.int .i64 z)) ∧ At w0 ((ownA g cur TPa).star C) w := by
  obtain ⟨F, ⟨F1, F2, rfl, ⟨h1, rfl⟩, g2, g3⟩, hB, hb⟩ := h
  rcases h1.2 with ⟨e, _⟩ | ⟨g', c, cur, e, _, hg, hle, _, hsz, htk⟩
  · simp at e
  · obtain ⟨rfl, rfl, rfl⟩ : g = g' ∧ n = es.length ∧ cap = c := by simpa using e
    refine ⟨cur, fun j hj => ?_, [g] ++ F2, ⟨[g], F2, rfl, ⟨hg, rfl⟩, g2, fun k hk => g3 k (by simpa [Value.ownBlock] using hk)⟩, fun k hk => hB k (by simpa [Value.ownBlock] using hk), hb⟩
    have hc := paCells_at es hj (i := 2) (by decide)
    rw [← htk, List.getElem?_take_of_lt (by omega)] at hc
    exact ⟨_, by rw [← Array.getElem?_toList]; exact hc⟩
set_option maxHeartbeats 4000000 in
/-- SpoilAddresses. -/
theorem pa_spoil (hC : C.Good) {ao : Option Addr} {n cap : Nat} {es : List Pa} (h : At w0 ((rowE TPa 3 (.slice ao n cap) es.length (paCells es)).star C) w) (hn : es.length ≤ 1000) :
    Calls Tryz.prog 36 #[.slice ao n cap] w fun e w' => e = .returned (.tuple #[]) ∧ At w0 C w' := by
  obtain ⟨a3, c3, e3⟩ := rowE_shape h.erow
  obtain ⟨rfl, rfl, rfl⟩ : ao = a3 ∧ n = es.length ∧ cap = c3 := by simpa using e3
  clear e3
  by_cases h0 : es.length = 0
  · have hS := h.drop
    rw [h0]
    clear h
    go_enter Tryz.func36, Tryz.ntmps36
    go_wp2
    go_loopw [2] (fun x wr => x = .int .i64 0 ∧ At w0 C wr) (fun _ _ => 0)
    case atStart => exact ⟨rfl, hS⟩
    case round =>
      clear hS
      obtain ⟨rfl, hS⟩ := hrel
      go_wp2
      refine Great.bodyPost_end0 rfl rfl ?_
      exact ⟨rfl, hS⟩
  · obtain ⟨g, rfl, -, -⟩ := pa_big h (by omega)
    obtain ⟨cur, hcur, hS⟩ := h.paWhole
    clear h
    generalize es.length = m at *
    go_enter Tryz.func36, Tryz.ntmps36
    go_wp2
    go_loopw [2] (fun x wr => ∃ (k : Nat) (cur : Array Value), k ≤ m ∧ x = .int .i64 (k : Int) ∧ (∀ j, j < m → ∃ z, cur[j * 3 + 2]? = some (.int .i64 z)) ∧ At w0 ((ownA g cur TPa).star C) wr) (fun x _ => m - (intOf x).toNat)
    case atStart => exact ⟨0, cur, Nat.zero_le _, rfl, hcur, hS⟩
    case round =>
      clear hS hcur
      obtain ⟨k, cur, hkm, rfl, hcur, hS⟩ := hrel
      by_cases hlt : k < m
      · have hltI : (k : Int) < (m : Int) := by omega
        obtain ⟨z, hz⟩ := hcur k hlt
        obtain ⟨o1, o2, o3⟩ := hS.own
        have c7 : wr.cell? ⟨g, k * 3 + 2, none⟩ = some (.int .i64 z) := (o1 _).trans hz
        have f7 := o2 (k * 3 + 2)
        obtain ⟨y, hy⟩ : ∃ y, bits .xor .i64 z 90 = y := ⟨_, rfl⟩
        have hP := hS.poke hC (k * 3 + 2) (.int .i64 y)
        have HP := Lib.hid hP
        have HN := Lib.hid (show ∀ j, j < m → ∃ z, (cur.setIfInBounds (k * 3 + 2) (.int .i64 y))[j * 3 + 2]? = some (.int .i64 z) from fun j hj => by
          by_cases c : j = k
          · subst c
            have hlt2 : j * 3 + 2 < cur.size := (Array.getElem?_eq_some_iff.1 hz).1
            exact ⟨y, by rw [Array.getElem?_setIfInBounds, if_pos rfl, if_pos hlt2]⟩
          · rw [Array.getElem?_setIfInBounds, if_neg (by omega)]
            exact hcur j hj)
        clear hP hS o1 o2 o3 hcur hz
        go_wp2
        go_round
        case rel => exact ⟨k + 1, _, by omega, by go_num, HN.out, HP.out⟩
        case measure => simp [intOf]; omega
      · obtain rfl : k = m := by omega
        have hltI : ¬ (k : Int) < (k : Int) := by omega
        have hD := hS.drop
        clear hS hcur
        go_wp2
        refine Great.bodyPost_end0 rfl rfl ?_
        exact ⟨rfl, hD⟩
end
end Go.Proofs.YtopkcaflmpjhgaaGreat

namespace Go.Proofs.YtopkcaflmpjhgaaGreat
open Go Go.RowKit

theorem pa_on {w W : World} {ao : Option Addr} {n : Nat} {es : List Pa} (h : PaIn [] w ao n es) (hb : Below w.heap.size w W) : PaIn [] W ao n es := h.tn (Tn.ofBelow hb [])
theorem pa_none {w : World} {ao : Option Addr} : PaIn [] w ao 0 [] := ⟨rfl, .inl rfl, by decide⟩
theorem At.paI {w0 w : World} {C : Ass} {ao : Option Addr} {n m cap : Nat} {es : List Pa} (h : At w0 ((rowE TPa 3 (.slice ao n cap) m (paCells es)).star C) w) (hn : n = es.length) (hm : m = es.length) (hf : es.length ≤ 5864062014805) : PaIn [] w ao n es := by
  subst hn hm
  refine ⟨rfl, ?_, by omega⟩
  by_cases h0 : es.length = 0
  · exact .inl h0
  · obtain ⟨g, rfl, _, _⟩ := pa_big h (by omega)
    obtain ⟨h1, h2⟩ := paAt_row h
    exact .inr ⟨g, 0, rfl, h1, by simp, h2⟩
theorem At.paCap {w0 w : World} {C : Ass} {ao : Option Addr} {n m cap : Nat} {xs : List Value} (h : At w0 ((rowE TPa 3 (.slice ao n cap) m xs).star C) w) : ao = Option.none → cap = 0 := by
  intro e
  subst e
  obtain ⟨_, ⟨F1, F2, rfl, ⟨h1, rfl⟩, _, _⟩, _⟩ := h
  rcases h1.2 with ⟨e, _⟩ | ⟨g, c, cur, e, _⟩
  · simpa using congrArg (fun v => match v with | .slice _ _ c => c | _ => 0) e
  · simp at e
theorem pa_el {w : World} {ao : Option Addr} {n : Nat} {es : List Pa} (h : PaIn [] w ao n es) {k : Nat} (hk : k < n) : ∃ b off a, ao = some ⟨b, off, none⟩ ∧ es.getD k Pa.none = a ∧ ∀ W, Below w.heap.size w W → W.cell? ⟨b, off + k * 3, none⟩ = some (.bool a.b) ∧ W.cell? ⟨b, off + k * 3 + 1, none⟩ = some (.int .i64 a.l) ∧ W.cell? ⟨b, off + k * 3 + 2, none⟩ = some (.int .i64 a.u) := by
  obtain ⟨hlen, hrow, _⟩ := h
  rcases hrow with c | ⟨b, off, rfl, hat, _, hlb⟩
  · omega
  · exact ⟨b, off, _, rfl, rfl, fun W hW => (hat.same (hW.block b hlb)).elem (by rw [← hlen]; exact hk)⟩
/-- The first k of a row. -/
theorem paAt_take {w : World} {b off : Nat} {es : List Pa} (h : PaAt w b off es) (k : Nat) : PaAt w b off (es.take k) := fun i u hu => h i u (by
  have e : paCells es = paCells (es.take k) ++ paCells (es.drop k) := by rw [← paCells_app, List.take_append_drop]
  rw [e]
  have hl : i < (paCells (es.take k)).length := by
    rcases Nat.lt_or_ge i (paCells (es.take k)).length with c | c
    · exact c
    · rw [List.getElem?_eq_none c] at hu; cases hu
  rw [List.getElem?_append_left hl]
  exact hu)
/-- Those behind the first k. -/
theorem paAt_drop {w : World} {b off : Nat} {es : List Pa} (h : PaAt w b off es) {k : Nat} (hk : k ≤ es.length) : PaAt w b (off + k * 3) (es.drop k) := fun i u hu => by
  have e : paCells es = paCells (es.take k) ++ paCells (es.drop k) := by rw [← paCells_app, List.take_append_drop]
  have hl : (paCells (es.take k)).length = k * 3 := by rw [paCells_len, List.length_take, Nat.min_eq_left hk]
  rw [Nat.add_assoc]
  refine h (k * 3 + i) u ?_
  rw [e, List.getElem?_append_right (by omega), hl, show k * 3 + i - k * 3 = i by omega]
  exact hu
/-- A row laid behind a row of one's own. -/
theorem pa_grow {w0 W : World} {C : Ass} (hC : C.Good) {ao : Option Addr} {n cap : Nat} {es fs : List Pa} {b off k c : Nat} (hS : At w0 ((rowE TPa 3 (.slice ao n cap) es.length (paCells es)).star C) W) (hat : PaAt W b off fs) (hk : k = fs.length) (hn : es.length + k ≤ 5864062014805) (ty : TypeId) :
    ∃ a2 c2 w2, (Builtin.append_ #[26, 26] ty #[.slice ao n cap, .slice (some ⟨b, off, none⟩) k c]).run Tryz.prog W = .ok (.slice a2 (n + k) c2) w2 ∧ At w0 ((rowE TPa 3 (.slice a2 (n + k) c2) (es ++ fs).length (paCells (es ++ fs))).star C) w2 := by
  obtain ⟨v', w2, hrun, hrow, hgr, hnil, hlo⟩ := pa_runApp (es := fs) ty es hS.erow (some ⟨b, off, none⟩) k c hk hn (.inr ⟨_, _, rfl, hat⟩)
  have hlen : n = es.length := by
    obtain ⟨a3, c3, e3⟩ := rowE_shape hS.erow
    simp at e3
    exact e3.2.1
  obtain ⟨a2, c2, rfl⟩ := rowE_shape hrow
  rw [← hlen] at hrun hrow hlo
  refine ⟨a2, c2, w2, hrun, ?_⟩
  refine hS.appendedE hC hgr ?_ ?_
  · rw [paCells_app, List.length_append, ← hlen, ← hk]
    exact hrow
  · rcases hlo with e | e
    · exact .inl e
    · exact .inr ⟨_, Nat.le_refl _, e⟩
theorem At.paEmpty {w0 w : World} {C : Ass} (hC : C.Good) (h : At w0 C w) : At w0 ((rowE TPa 3 (.slice (some ⟨w.heap.size, 0, Option.none⟩) 0 0) ([] : List Pa).length (paCells [])).star C) (w.alloc (.cells #[] TPa)) := by
  refine At.add hC h ⟨[w.heap.size], ⟨⟨rfl, .inr ⟨w.heap.size, 0, #[], rfl, Nat.zero_le _, heap_alloc_new w _, Nat.le_refl _, by decide, rfl, rfl⟩⟩, rfl⟩, (Tn.refl _ _).alloc _, fun k hk => .inr (by simp at hk; omega)⟩
/-- A copy of a row: append([]T{}, row...). -/
theorem pa_dup {w0 w : World} {C : Ass} (hC : C.Good) (hS : At w0 C w) {ao : Option Addr} {n cap : Nat} {es : List Pa} (hes : PaIn [] w ao n es) (hc : ao = none → cap = 0) (hn : n ≤ 5864062014800) (ty : TypeId) :
    ∃ a2 c2 w2, (Builtin.append_ #[26, 26] ty #[.slice (some ⟨w.heap.size, 0, none⟩) 0 0, .slice ao n cap]).run Tryz.prog (w.alloc (.cells #[] TPa)) = .ok (.slice a2 n c2) w2 ∧ At w0 ((rowE TPa 3 (.slice a2 n c2) es.length (paCells es)).star C) w2 := by
  have hE := At.paEmpty hC hS
  have hes2 := hes.tn ((Tn.refl [] w).alloc (.cells #[] TPa))
  have hlen := hes.len
  by_cases h0 : n = 0
  · subst h0
    have he : es = [] := List.length_eq_zero_iff.1 hlen.symm
    subst he
    have hown := hE.erow
    cases ao with
    | none =>
      obtain ⟨v', w2, k1, k2, k3, k4, k5⟩ := pa_runApp (es := []) ty [] hown none 0 cap rfl (by simp) (.inl ⟨rfl, rfl, hc rfl⟩)
      obtain ⟨a2, c2, rfl⟩ := rowE_shape k2
      refine ⟨a2, c2, w2, by simpa using k1, hE.appendedE hC k3 (by simpa [paCells] using k2) ?_⟩
      rcases k5 with e | e
      · exact .inl e
      · exact .inr ⟨_, Nat.le_refl _, e⟩
    | some a =>
      obtain ⟨i, hi, hz0, hz1, hz2⟩ := info_parts pa_info
      obtain ⟨v', w2, k1, k2, k3, k4, k5⟩ := run_append_own_at (P := Tryz.prog) (w.alloc (.cells #[] TPa)) 0 26 ty TPa i _ 3 24 Tryz.underlying26 hi hz0 hz1 hz2 rfl (by decide) (.slice (some ⟨w.heap.size, 0, none⟩) 0 0) _ (paCells []) hown a 0 cap [] rfl (fun j u hj => by simp at hj) (fun u hu => by cases hu) (by unfold maxLen; simp) (by simp) (Nat.zero_le _)
      obtain ⟨a2, c2, rfl⟩ := rowE_shape k2
      refine ⟨a2, c2, w2, by simpa using k1, hE.appendedE hC k3 (by simpa [paCells] using k2) ?_⟩
      rcases k5 with e | e
      · exact .inl e
      · exact .inr ⟨_, Nat.le_refl _, e⟩
  · rcases hes2.row with c | ⟨b, off, rfl, h1, _⟩
    · exact absurd c h0
    · obtain ⟨a2, c2, w2, k1, k2⟩ := pa_grow (c := cap) hC hE h1 hlen (by simp; omega) ty
      rw [Nat.zero_add] at k1 k2
      rw [List.nil_append] at k2
      exact ⟨a2, c2, w2, k1, k2⟩
/-- The same, in a walk. -/
theorem pa_dupC {w0 W : World} {C : Ass} {ops : Array Oper} {rest : List Oper} {o : Oper} {a : Act} {Q : Exit → Act → World → Prop} (hC : C.Good) (hgd : o.guard = Option.none) (s x : Operand)
    (ho : o.op = .call { callee := .builtin .append, args := #[s, x], argTypes := #[26, 26] }) (ao : Option Addr) (n cap : Nat) (es : List Pa) {p : Nat} (hs : a.eval s = .slice (some ⟨p, 0, Option.none⟩) 0 0) (hp : p = W.heap.size) (hx : a.eval x = .slice ao n cap)
    (hS : At w0 C W) (hes : PaIn [] W ao n es) (hc : ao = Option.none → cap = 0) (hn : n ≤ 5864062014800) (h : ∀ a2 c2 w2, At w0 ((rowE TPa 3 (.slice a2 n c2) es.length (paCells es)).star C) w2 → wpList Tryz.prog ops Q rest (a.put o.dst (.slice a2 n c2)) w2) :
    wpList Tryz.prog ops Q (o :: rest) a (W.alloc (.cells #[] TPa)) := by
  subst hp
  obtain ⟨a2, c2, w2, hr, hS2⟩ := pa_dup hC hS hes hc hn o.type
  exact pa_app hgd s x ho hs hx hr (h a2 c2 w2 hS2)
/-- A literal row laid behind a row of one's own, its place told. -/
theorem pa_appLit2 {w0 W : World} {C : Ass} {ops : Array Oper} {rest : List Oper} {o : Oper} {a : Act} {Q : Exit → Act → World → Prop} (hC : C.Good) (hgd : o.guard = Option.none) (s x : Operand)
    (ho : o.op = .call { callee := .builtin .append, args := #[s, x], argTypes := #[26, 26] }) (ao : Option Addr) (n cap : Nat) (es fs : List Pa) (k : Nat) {p : Nat} (hs : a.eval s = .slice ao n cap) (hx : a.eval x = .slice (some ⟨p, 0, Option.none⟩) k k) (hp : p = W.heap.size) (hk : k = fs.length) {cs : Array Value} (hcs : cs = (paCells fs).toArray)
    (hS : At w0 ((rowE TPa 3 (.slice ao n cap) es.length (paCells es)).star C) W) (hn : es.length + k ≤ 5864062014805) (h : ∀ a2 c2 w', At w0 ((rowE TPa 3 (.slice a2 (n + k) c2) (es ++ fs).length (paCells (es ++ fs))).star C) w' → wpList Tryz.prog ops Q rest (a.put o.dst (.slice a2 (n + k) c2)) w') :
    wpList Tryz.prog ops Q (o :: rest) a (W.alloc (.cells cs 69)) := by
  subst hp
  exact pa_appLit hC hgd s x ho ao n cap es fs k hs hx hk hcs hS hn h
theorem paCells_set2 {es : List Pa} {k : Nat} (hk : k < es.length) (x : Pa) : paCells (es.set k x) = (((paCells es).set (k * 3) (.bool x.b)).set (k * 3 + 1) (.int .i64 x.l)).set (k * 3 + 2) (.int .i64 x.u) := by
  apply List.ext_getElem?
  intro i
  by_cases hi : i < es.length * 3
  · obtain ⟨j, r, rfl, hr⟩ : ∃ j r, i = j * 3 + r ∧ r < 3 := ⟨i / 3, i % 3, by have := Nat.div_add_mod i 3; omega, Nat.mod_lt _ (by decide)⟩
    have hj : j < es.length := by omega
    rw [paCells_at (es.set k x) (by rw [List.length_set]; exact hj) hr]
    have hlen := paCells_len es
    by_cases e : j = k
    · subst e
      have hg : (es.set j x).getD j Pa.none = x := by simp [List.getD, hj]
      rw [hg]
      rcases (show r = 0 ∨ r = 1 ∨ r = 2 by omega) with rfl | rfl | rfl
      · rw [show j * 3 + 0 = j * 3 from rfl, List.getElem?_set_ne (by omega), List.getElem?_set_ne (by omega), List.getElem?_set_self (by (try simp only [List.length_set]); omega)]; rfl
      · rw [List.getElem?_set_ne (by omega), List.getElem?_set_self (by (try simp only [List.length_set]); omega)]; rfl
      · rw [List.getElem?_set_self (by (try simp only [List.length_set]); omega)]; rfl
    · have hg : (es.set k x).getD j Pa.none = es.getD j Pa.none := by simp only [List.getD]; rw [List.getElem?_set_ne (fun c => e c.symm)]
      rw [hg, ← paCells_at es hj hr]
      rw [List.getElem?_set_ne (by omega)]; rw [List.getElem?_set_ne (by omega)]; rw [List.getElem?_set_ne (by omega)]
  · rw [List.getElem?_eq_none (by rw [paCells_len, List.length_set]; omega), List.getElem?_eq_none (by simp [paCells_len]; omega)]
/-- An element is stored. -/
theorem At.paSet2 {w0 w : World} {C : Ass} (hC : C.Good) {g n cap : Nat} {es : List Pa} (h : At w0 ((rowE TPa 3 (.slice (some ⟨g, 0, Option.none⟩) n cap) es.length (paCells es)).star C) w) {k : Nat} (hk : k < es.length) (x : Pa) :
    At w0 ((rowE TPa 3 (.slice (some ⟨g, 0, Option.none⟩) n cap) (es.set k x).length (paCells (es.set k x))).star C) (((w.setCell ⟨g, k * 3, Option.none⟩ (.bool x.b)).setCell ⟨g, k * 3 + 1, Option.none⟩ (.int .i64 x.l)).setCell ⟨g, k * 3 + 2, Option.none⟩ (.int .i64 x.u)) := by
  have hlen : n = es.length := by
    obtain ⟨a3, c3, e3⟩ := rowE_shape h.erow
    simp at e3
    exact e3.2.1
  subst hlen
  have s0 := h.appendedE hC (h.erow.stored (k * 3) (.bool x.b)).2 (h.erow.stored (k * 3) (.bool x.b)).1 (.inl rfl)
  have s1 := s0.appendedE hC (s0.erow.stored (k * 3 + 1) (.int .i64 x.l)).2 (s0.erow.stored (k * 3 + 1) (.int .i64 x.l)).1 (.inl rfl)
  have s2 := s1.appendedE hC (s1.erow.stored (k * 3 + 2) (.int .i64 x.u)).2 (s1.erow.stored (k * 3 + 2) (.int .i64 x.u)).1 (.inl rfl)
  rw [paCells_set2 hk, List.length_set]
  exact s2
/-- The same, in a walk. -/
theorem pa_storeC {w0 W : World} {C : Ass} {ops : Array Oper} {rest : List Oper} {o : Oper} {a : Act} {Q : Exit → Act → World → Prop} (hC : C.Good) (hgd : o.guard = Option.none) (x y : Operand) (ho : o.op = .store TPa x y) (hd : o.dst = Option.none) {g n cap k : Nat} {es : List Pa} (hx : a.eval x = .pointer (some ⟨g, k * 3, Option.none⟩)) (v : Pa) (hy : a.eval y = .agg #[.bool v.b, .int .i64 v.l, .int .i64 v.u])
    (hS : At w0 ((rowE TPa 3 (.slice (some ⟨g, 0, Option.none⟩) n cap) es.length (paCells es)).star C) W) (hk : k < es.length) (h : ∀ W', At w0 ((rowE TPa 3 (.slice (some ⟨g, 0, Option.none⟩) n cap) (es.set k v).length (paCells (es.set k v))).star C) W' → wpList Tryz.prog ops Q rest a W') : wpList Tryz.prog ops Q (o :: rest) a W := by
  have hT := At.paSet2 hC hS hk v
  have hr := hS.erow
  obtain ⟨h1, _⟩ := paAt_row hS
  refine wpList_store_mid hgd TPa x y ho g (k * 3) #[.bool v.b, .int .i64 v.l, .int .i64 v.u] hx hy ?_ (by kernel_rfl) (by kernel_rfl) ?_
  · intro j hj
    have hlen : n = es.length := by
      obtain ⟨a3, c3, e3⟩ := rowE_shape hr
      simp at e3
      exact e3.2.1
    subst hlen
    have hj2 : j < 3 := hj
    refine ⟨?_, hr.frozenAt _⟩
    have hc : (k * 3 + j) < (paCells es).length := by rw [paCells_len]; omega
    have h3 := h1 (k * 3 + j) _ (List.getElem?_eq_getElem hc)
    rw [Nat.zero_add] at h3
    rw [h3]
    rfl
  · rw [hd]
    exact h _ hT
end Go.Proofs.YtopkcaflmpjhgaaGreat

