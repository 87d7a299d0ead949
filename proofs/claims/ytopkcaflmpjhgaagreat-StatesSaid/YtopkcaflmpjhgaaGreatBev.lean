
/- Put together: Evrow, Evrow2. Conditions: each theorem's own. -/
import Derived.Test.YtopkcaflmpjhgaaGreatBpl
import Derived.Test.YtopkcaflmpjhgaaGreatBsp
import Derived.Test.YtopkcaflmpjhgaaGreatProg
import Derived.WalkSpells
import Derived.WalkLawsBesides
import Derived.Lib.Hide
import Derived.Maps.AppendAt
import Derived.Great.Walk
import Derived.OwnWalk
import Derived.IntWalk
import Derived.Deep.QuietTactic
import Derived.Laws.OwnMore
import Derived.Deep.MidRow
namespace Go.Proofs.YtopkcaflmpjhgaaGreat
open Go Go.RowKit

abbrev TEv : TypeId := 45
theorem ev_info : (Tryz.prog.info? TEv).map (fun i => (i.zero, i.size, i.bytes)) = some (some (.agg #[.int .i64 0, .int .i64 0, .int .i64 0, .int .i64 0, .int .i64 0, .int .i64 0, .int .i64 0, .int .i64 0]), 8, 64) := by kernel_rfl
def Ev.cs (e : Ev) : List Value := [.int .i64 e.kind, .int .i64 e.user, .int .i64 e.session, .int .i64 e.address, .int .i64 e.a, .int .i64 e.b, .int .i64 e.c, .int .i64 e.tick]
theorem Ev.cs_len (e : Ev) : e.cs.length = 8 := rfl
/-- The cells of a row. -/
def evCells : List Ev → List Value
  | [] => []
  | e :: es => e.cs ++ evCells es
theorem evCells_len (es : List Ev) : (evCells es).length = es.length * 8 := by
  induction es with
  | nil => rfl
  | cons e es ih => rw [evCells, List.length_append, ih, Ev.cs_len, List.length_cons]; omega
theorem evCells_app (es fs : List Ev) : evCells (es ++ fs) = evCells es ++ evCells fs := by
  induction es with
  | nil => rfl
  | cons e es ih => rw [List.cons_append, evCells, ih, evCells, List.append_assoc]
theorem evCells_at (es : List Ev) {j : Nat} (hj : j < es.length) {i : Nat} (hi : i < 8) : (evCells es)[j * 8 + i]? = (es.getD j Ev.zero).cs[i]? := by
  induction es generalizing j with
  | nil => cases hj
  | cons e es ih =>
    rw [evCells]
    cases j with
    | zero => rw [Nat.zero_mul, Nat.zero_add, List.getElem?_append_left (by rw [Ev.cs_len]; exact hi)]; rfl
    | succ j =>
      rw [List.getElem?_append_right (by rw [Ev.cs_len]; omega), Ev.cs_len, show (j + 1) * 8 + i - 8 = j * 8 + i by omega, ih (by simpa using hj)]
      rfl
theorem evCells_one (es : List Ev) : ∀ u ∈ evCells es, u.oneCell' = true := by
  induction es with
  | nil => intro u hu; cases hu
  | cons e es ih =>
    intro u hu
    rw [evCells] at hu
    rcases List.mem_append.1 hu with h | h
    · simp [Ev.cs] at h; rcases h with rfl | rfl | rfl | rfl | rfl | rfl | rfl | rfl <;> rfl
    · exact ih u h
/-- A row that somebody has, at off of block b. -/
def EvAt (w : World) (b off : Nat) (es : List Ev) : Prop := ∀ i u, (evCells es)[i]? = some u → w.cell? ⟨b, off + i, none⟩ = some u
theorem EvAt.elem {w : World} {b off : Nat} {es : List Ev} (h : EvAt w b off es) {j : Nat} (hj : j < es.length) : w.cell? ⟨b, off + j * 8, none⟩ = some (.int .i64 (es.getD j Ev.zero).kind) ∧ w.cell? ⟨b, off + j * 8 + 1, none⟩ = some (.int .i64 (es.getD j Ev.zero).user) ∧ w.cell? ⟨b, off + j * 8 + 2, none⟩ = some (.int .i64 (es.getD j Ev.zero).session) ∧ w.cell? ⟨b, off + j * 8 + 3, none⟩ = some (.int .i64 (es.getD j Ev.zero).address) ∧ w.cell? ⟨b, off + j * 8 + 4, none⟩ = some (.int .i64 (es.getD j Ev.zero).a) ∧ w.cell? ⟨b, off + j * 8 + 5, none⟩ = some (.int .i64 (es.getD j Ev.zero).b) ∧ w.cell? ⟨b, off + j * 8 + 6, none⟩ = some (.int .i64 (es.getD j Ev.zero).c) ∧ w.cell? ⟨b, off + j * 8 + 7, none⟩ = some (.int .i64 (es.getD j Ev.zero).tick) := by
  have key : ∀ i, i < 8 → w.cell? ⟨b, off + j * 8 + i, none⟩ = (es.getD j Ev.zero).cs[i]? := fun i hi => by
    have hx : ∃ u, (es.getD j Ev.zero).cs[i]? = some u := ⟨_, List.getElem?_eq_getElem (by rw [Ev.cs_len]; exact hi)⟩
    obtain ⟨u, hu⟩ := hx
    rw [hu, Nat.add_assoc]
    exact h _ u (by rw [evCells_at es hj hi]; exact hu)
  exact ⟨key 0 (by decide), key 1 (by decide), key 2 (by decide), key 3 (by decide), key 4 (by decide), key 5 (by decide), key 6 (by decide), key 7 (by decide)⟩
theorem EvAt.same {w w' : World} {b off : Nat} {es : List Ev} (h : EvAt w b off es) (hb : w'.heap[b]? = w.heap[b]?) : EvAt w' b off es := fun i u hu => (World.cell?_of_block (a := ⟨b, off + i, none⟩) hb).trans (h i u hu)
/-- A row that a call is given: none, or in a block that is not among F. -/
structure EvIn (F : List Nat) (w : World) (ao : Option Addr) (n : Nat) (es : List Ev) : Prop where
  len : n = es.length
  row : n = 0 ∨ ∃ b off, ao = some ⟨b, off, none⟩ ∧ EvAt w b off es ∧ b ∉ F ∧ b < w.heap.size
  few : n ≤ 140737488355328
theorem EvIn.tn {F : List Nat} {w W : World} {ao : Option Addr} {n : Nat} {es : List Ev} (h : EvIn F w ao n es) (ht : Tn F w W) : EvIn F W ao n es := by
  refine ⟨h.len, ?_, h.few⟩
  rcases h.row with c | ⟨b, off, e, h1, h2, h3⟩
  · exact .inl c
  · exact .inr ⟨b, off, e, h1.same (ht.block b h3 h2), h2, Nat.lt_of_lt_of_le h3 ht.size⟩
theorem ev_exapp {P : Program} {a : Act} {w w' : World} {op : Oper} (x y : Operand) (t : TypeId) (ho : op.op = .call { callee := .builtin .append, args := #[x, y], argTypes := #[t, t] }) {v u v' : Value} (hx : a.eval x = v) (hy : a.eval y = u) (hr : (Builtin.append_ #[t, t] op.type #[v, u]).run P w = .ok v' w') :
    (execOp a.eval op).run P w = .ok (.value v') w' := by
  unfold execOp
  simp only [ho, resolve, invoke, builtin, Sem.run_bind, Sem.run_pure, Result.andThen_ok, List.map_toArray, List.map_cons, List.map_nil, hx, hy, hr]
theorem ev_made {A : Ass} {w w' : World} (h : At w A w') : Becomes [] A w w' := by
  obtain ⟨F, h1, h2, h3⟩ := h
  exact ⟨F, h1, Tn.ofBelow h3 [], fun k hk => .inr (h2 k hk)⟩
theorem ev_app {W w' : World} {ops : Array Oper} {rest : List Oper} {o : Oper} {a : Act} {Q : Exit → Act → World → Prop} {v u v' : Value} (hgd : o.guard = Option.none) (s x : Operand)
    (ho : o.op = .call { callee := .builtin .append, args := #[s, x], argTypes := #[30, 30] }) (hs : a.eval s = v) (hx : a.eval x = u) (hr : (Builtin.append_ #[30, 30] o.type #[v, u]).run Tryz.prog W = .ok v' w') (h : wpList Tryz.prog ops Q rest (a.put o.dst v') w') :
    wpList Tryz.prog ops Q (o :: rest) a W := Great.wpList_runTo hgd o.dst rfl _ _ (ev_exapp s x 30 ho hs hx hr) h
abbrev evse0 : Oper := { dst := some 17, op := Op.move (Operand.tmp 0), type := 30, pos := "memory.go:14", after := #[], guard := none }
abbrev evse1 : Oper := { dst := some 18, op := Op.move (Operand.tmp 5), type := 3, pos := "memory.go:14", after := #[], guard := none }
abbrev evse2 : Oper := { dst := some 19, op := Op.indexAddr 30 (Operand.tmp 17) (Operand.tmp 18), type := 0, pos := "memory.go:14", after := #[{ on := 0, ground := Ground.data }, { on := 1, ground := Ground.data }], guard := none }
abbrev evse3 : Oper := { dst := some 20, op := Op.load 45 (Operand.tmp 19), type := 45, pos := "memory.go:14", after := #[{ on := 2, ground := Ground.data }], guard := none }
abbrev evse4 : Oper := { dst := some 21, op := Op.move (Operand.tmp 1), type := 30, pos := "memory.go:14", after := #[], guard := none }
abbrev evse5 : Oper := { dst := some 22, op := Op.move (Operand.tmp 5), type := 3, pos := "memory.go:14", after := #[], guard := none }
abbrev evse6 : Oper := { dst := some 23, op := Op.indexAddr 30 (Operand.tmp 21) (Operand.tmp 22), type := 0, pos := "memory.go:14", after := #[{ on := 4, ground := Ground.data }, { on := 5, ground := Ground.data }], guard := none }
abbrev evse7 : Oper := { dst := some 24, op := Op.load 45 (Operand.tmp 23), type := 45, pos := "memory.go:14", after := #[{ on := 6, ground := Ground.data }], guard := none }
abbrev evse8 : Oper := { dst := some 25, op := Op.binOp BinOp.neq 45 (Operand.tmp 20) (Operand.tmp 24) 45, type := 4, pos := "memory.go:14", after := #[{ on := 3, ground := Ground.data }, { on := 7, ground := Ground.data }], guard := none }
theorem ev_neq {a : Act} {w : World} {op : Oper} (p q : Operand) (ho : op.op = .binOp .neq 45 p q 45) (x y : Ev) (hp : a.eval p = .agg #[.int .i64 x.kind, .int .i64 x.user, .int .i64 x.session, .int .i64 x.address, .int .i64 x.a, .int .i64 x.b, .int .i64 x.c, .int .i64 x.tick]) (hq : a.eval q = .agg #[.int .i64 y.kind, .int .i64 y.user, .int .i64 y.session, .int .i64 y.address, .int .i64 y.a, .int .i64 y.b, .int .i64 y.c, .int .i64 y.tick]) : (execOp a.eval op).run Tryz.prog w = .ok (.value (.bool (!decide (x = y)))) w := by
  unfold execOp
  simp only [ho, hp, hq, Sem.run_bind]
  by_cases h : x = y
  · subst h
    go_simp
  · have hd : decide (x = y) = false := decide_eq_false h
    rw [hd]
    by_cases q0 : x.kind = y.kind
    · by_cases q1 : x.user = y.user
      · by_cases q2 : x.session = y.session
        · by_cases q3 : x.address = y.address
          · by_cases q4 : x.a = y.a
            · by_cases q5 : x.b = y.b
              · by_cases q6 : x.c = y.c
                · by_cases q7 : x.tick = y.tick
                  · exact absurd (show x = y from by obtain ⟨_, _, _, _, _, _, _, _⟩ := x; obtain ⟨_, _, _, _, _, _, _, _⟩ := y; simp only [Ev.mk.injEq]; exact ⟨q0, q1, q2, q3, q4, q5, q6, q7⟩) h
                  · go_simp
                · go_simp
              · go_simp
            · go_simp
          · go_simp
        · go_simp
      · go_simp
    · go_simp
/-- Two rows. -/
def evSame (n : Nat) (es fs : List Ev) : Prop := ∀ i, i < n → es.getD i Ev.zero = fs.getD i Ev.zero
theorem evSame_eq {es fs : List Ev} (h1 : es.length = fs.length) (h : evSame es.length es fs) : es = fs := by
  apply List.ext_getElem h1
  intro i a b
  have := h i a
  simpa [List.getD, a, b] using this
theorem ev_bel {w W W' : World} (hb : Below w.heap.size w W) (h : Below W.heap.size W W') : Below w.heap.size w W' := hb.trans (h.mono hb.size)
theorem ev_drew (w : World) : Below w.heap.size w w.drew := ⟨rfl, rfl, rfl, Nat.le_refl _, fun _ _ => rfl⟩
set_option maxRecDepth 100000 in
set_option maxHeartbeats 4000000 in
/-- Same. -/
theorem ev_same {w : World} {ao bo : Option Addr} {n m c1 c2 : Nat} {es fs : List Ev} (h1 : EvIn [] w ao n es) (h2 : EvIn [] w bo m fs) :
    Calls Tryz.prog 25 #[.slice ao n c1, .slice bo m c2] w fun e w' => e = .returned (.bool (decide (es = fs))) ∧ Below w.heap.size w w' := by
  obtain ⟨l1, r1, f1⟩ := h1
  obtain ⟨l2, r2, f2⟩ := h2
  by_cases hl : n = m
  · subst hl
    have HL := Lib.hid (And.intro l1 l2)
    have HR1 := Lib.hid r1
    have HR2 := Lib.hid r2
    clear l1 l2 r1 r2
    have hb0 := Below.refl w.heap.size w
    go_enter Tryz.func25, Tryz.ntmps25
    go_wp2
    go_loopw [5] (fun x wr => ∃ k : Nat, k ≤ n ∧ x = .int .i64 (k : Int) ∧ evSame k es fs ∧ Below w.heap.size w wr) (fun x _ => n - (intOf x).toNat)
    case atStart => exact ⟨0, Nat.zero_le _, rfl, (fun i hi => by omega), hb0⟩
    case round =>
      clear hb0
      obtain ⟨k, hkn, rfl, hp, hbl⟩ := hrel
      by_cases hlt : k < n
      · obtain ⟨b1, o1, rfl, e1, _, g1⟩ : ∃ b off, ao = some ⟨b, off, none⟩ ∧ EvAt w b off es ∧ b ∉ ([] : List Nat) ∧ b < w.heap.size := by
          rcases HR1.out with c | c
          · omega
          · exact c
        obtain ⟨b2, o2, rfl, e2, _, g2⟩ : ∃ b off, bo = some ⟨b, off, none⟩ ∧ EvAt w b off fs ∧ b ∉ ([] : List Nat) ∧ b < w.heap.size := by
          rcases HR2.out with c | c
          · omega
          · exact c
        have H1 := Lib.hid (fun W (hb : Below w.heap.size w W) => (e1.same (hb.block b1 g1)).elem (j := k) (by rw [← HL.out.1]; exact hlt))
        have H2 := Lib.hid (fun W (hb : Below w.heap.size w W) => (e2.same (hb.block b2 g2)).elem (j := k) (by rw [← HL.out.2]; exact hlt))
        obtain ⟨x, hx⟩ : ∃ x, es.getD k Ev.zero = x := ⟨_, rfl⟩
        obtain ⟨y, hy⟩ : ∃ y, fs.getD k Ev.zero = y := ⟨_, rfl⟩
        have HX := Lib.hid (And.intro hx hy)
        rw [hx] at H1
        rw [hy] at H2
        have HP := Lib.hid hp
        clear hx hy hp e1 e2
        go_wp2
        refine region_held (S := fun Z8 => Below w.heap.size w Z8) 9 [false, false, false, false, false, false, false, false, false] rfl rfl (by kernel_rfl) fun V0 hW => ?_
        have hV : Below w.heap.size w V0 := by rw [hW]; exact ev_bel hbl (ev_drew wr)
        clear hW hbl
        refine run_go [(0, evse0, (some 17)), (1, evse1, (some 18)), (2, evse2, (some 19)), (3, evse3, (some 20)), (4, evse4, (some 21)), (5, evse5, (some 22)), (6, evse6, (some 23)), (7, evse7, (some 24))] (by kernel_rfl) ?_
        iterate 8 (refine run_take ?_ rfl rfl (fun _ _ _ h => h) (Or.inl ⟨by rfl, ?_⟩) hV ?_; rotate_left; (· (intro w0 hy0; obtain ⟨a0, a1, a2, a3, a4, a5, a6, a7⟩ := H1.out _ hy0; obtain ⟨z0, z1, z2, z3, z4, z5, z6, z7⟩ := H2.out _ hy0; (go_simp <;> with_reducible rfl))); simp only [Act.put, List.setIfInBounds_toArray, List.set_cons_zero, List.set_cons_succ])
        refine run_end ?_
        refine held_take 8 evse8 (some 25) (.bool (!decide (x = y))) rfl rfl (by kernel_rfl) (by kernel_rfl) (by kernel_rfl) (fun _ _ _ h => h) (Or.inl ⟨by rfl, fun w0 hy0 => ev_neq (.tmp 20) (.tmp 24) rfl x y rfl rfl⟩) hV ?_
        simp only [Act.put, List.setIfInBounds_toArray, List.set_cons_zero, List.set_cons_succ]
        refine wpAnyH_done (by kernel_rfl) ?_ _
        by_cases hxy : x = y
        · have hd : (!decide (x = y)) = false := by simp [hxy]
          rw [hd]
          have HXY := Lib.hid hxy
          clear hxy hd
          go_wp2
          go_round
          case rel =>
            refine ⟨k + 1, by omega, by go_num, fun i hi => ?_, hV⟩
            by_cases c : i < k
            · exact HP.out i c
            · obtain rfl : i = k := by omega
              rw [HX.out.1, HX.out.2]; exact HXY.out
          case measure => simp [intOf]; omega
        · have hd : (!decide (x = y)) = true := by simp [hxy]
          rw [hd]
          have HXY := Lib.hid hxy
          clear hxy hd
          go_wp2
          go_ret
          have hne : decide (es = fs) = false := decide_eq_false fun c => HXY.out (by rw [← HX.out.1, ← HX.out.2, c])
          rw [hne]
          exact ⟨rfl, hV⟩
      · have HQ := Lib.hid (show es = fs from by
          obtain ⟨q1, q2⟩ := HL.out
          have hk : k = n := by omega
          refine evSame_eq (by omega) ?_
          rw [← q1, ← hk]
          exact hp)
        clear hp
        go_wp2
        go_ret
        have he : decide (es = fs) = true := decide_eq_true HQ.out
        rw [he]
        exact ⟨rfl, hbl⟩
  · have hne : decide (es = fs) = false := decide_eq_false fun c => hl (by rw [l1, l2, c])
    rw [hne]
    have hd : ((n : Int) != (m : Int)) = true := by simp; omega
    clear l1 l2 r1 r2 hne
    go_enter Tryz.func25, Tryz.ntmps25
    go_wp2
    go_ret
    exact ⟨rfl, Below.refl _ _⟩
/-- The mark behind what is lent. -/
abbrev evMk : Ev := ⟨0, 0, 0, 0, 0, 0, 0, 77777⟩
abbrev evMks : List Ev := [evMk, evMk]
theorem ev_runApp {w : World} {v : Value} {es : List Ev} (ty : TypeId) (all : List Ev) (hown : w.ownsRow 0 TEv 8 v all.length (evCells all)) (ao : Option Addr) (k c : Nat) (hk : k = es.length) (hf : all.length + k ≤ 2199023255552) (hc : (ao = none ∧ k = 0 ∧ c = 0) ∨ ∃ b off, ao = some ⟨b, off, none⟩ ∧ EvAt w b off es) :
    ∃ v' w', (Builtin.append_ #[30, 30] ty #[v, .slice ao k c]).run Tryz.prog w = .ok v' w' ∧ w'.ownsRow 0 TEv 8 v' (all.length + k) (evCells all ++ evCells es) ∧ w.grownBy w' v.ownBlock ∧ (v' = .slice none 0 0 ↔ v = .slice none 0 0 ∧ k = 0) ∧ (v'.ownBlock = v.ownBlock ∨ v'.ownBlock = some w.heap.size) := by
  obtain ⟨i, hi, hz0, hz1, hz2⟩ := info_parts ev_info
  rcases hc with ⟨rfl, rfl, rfl⟩ | ⟨b, off, rfl, he⟩
  · have hes : es = [] := List.length_eq_zero_iff.1 hk.symm
    subst hes
    refine ⟨v, w, run_append_owned_none (P := Tryz.prog) (w := w) 0 30 ty TEv i 8 Tryz.underlying30 hi v _ _ hown, ?_, World.grownBy.refl _ _, by simp, .inl rfl⟩
    simpa [evCells] using hown
  · exact run_append_own_at (P := Tryz.prog) w 0 30 ty TEv i _ 8 64 Tryz.underlying30 hi hz0 hz1 hz2 rfl (by decide) v all.length (evCells all) hown ⟨b, off, none⟩ k c (evCells es) (by rw [evCells_len, hk]) (fun j u hj => by rw [Addr.add_lit]; exact he j u hj) (evCells_one es) (by unfold maxLen; omega) (by omega) (Nat.zero_le _)
theorem ev_copy {w : World} {ao : Option Addr} {n cap : Nat} {es : List Ev} (hes : EvIn [] w ao n es) (hc : ao = none → cap = 0) (hn : n ≤ 2199023255547) :
    Calls Tryz.prog 19 #[.slice ao n cap] w fun e w' => ∃ a2 c2, e = .returned (.slice a2 n c2) ∧ Becomes [] (rowE TEv 8 (.slice a2 es.length c2) es.length (evCells es)) w w' := by
  have hown : (w.alloc (.cells #[] TEv)).ownsRow 0 TEv 8 (.slice (some ⟨w.heap.size, 0, none⟩) 0 0) ([] : List Ev).length (evCells []) := ⟨rfl, .inr ⟨w.heap.size, 0, #[], rfl, Nat.zero_le _, heap_alloc_new w _, Nat.le_refl _, by decide, rfl, rfl⟩⟩
  have hes2 := hes.tn ((Tn.refl [] w).alloc (.cells #[] TEv))
  obtain ⟨v', w2, hrun, hrow, hgr, hlo⟩ : ∃ v' w', (Builtin.append_ #[30, 30] 30 #[.slice (some ⟨w.heap.size, 0, none⟩) 0 0, .slice ao n cap]).run Tryz.prog (w.alloc (.cells #[] TEv)) = .ok v' w' ∧ w'.ownsRow 0 TEv 8 v' n (evCells es) ∧ (w.alloc (.cells #[] TEv)).grownBy w' (some w.heap.size) ∧ (v'.ownBlock = some w.heap.size ∨ v'.ownBlock = some (w.alloc (.cells #[] TEv)).heap.size) := by
    rcases hes2.row with c | ⟨b, off, e, h1, _⟩
    · have he : es = [] := List.length_eq_zero_iff.1 (by rw [← hes.len, c])
      subst he
      cases ao with
      | none =>
        obtain ⟨v', w', k1, k2, k3, k4, k5⟩ := ev_runApp (es := []) 30 [] hown none n cap (by rw [c]; rfl) (by simp; omega) (.inl ⟨rfl, c, hc rfl⟩)
        exact ⟨v', w', k1, by simpa [c, evCells] using k2, k3, k5⟩
      | some a =>
        obtain ⟨i, hi, hz0, hz1, hz2⟩ := info_parts ev_info
        obtain ⟨v', w', k1, k2, k3, k4, k5⟩ := run_append_own_at (P := Tryz.prog) (w.alloc (.cells #[] TEv)) 0 30 30 TEv i _ 8 64 Tryz.underlying30 hi hz0 hz1 hz2 rfl (by decide) (.slice (some ⟨w.heap.size, 0, none⟩) 0 0) _ (evCells []) hown a n cap [] (by rw [c]; rfl) (fun j u hj => by simp at hj) (fun u hu => by cases hu) (by unfold maxLen; simp; omega) (by simp; omega) (Nat.zero_le _)
        exact ⟨v', w', k1, by simpa [c, evCells] using k2, k3, k5⟩
    · obtain ⟨v', w', k1, k2, k3, k4, k5⟩ := ev_runApp (es := es) 30 [] hown ao n cap hes.len (by simp; omega) (.inr ⟨b, off, e, h1⟩)
      exact ⟨v', w', k1, by simpa [evCells] using k2, k3, k5⟩
  have hrow2 : w2.ownsRow 0 TEv 8 v' es.length (evCells es) := by rw [← hes.len]; exact hrow
  obtain ⟨a2, c2, rfl⟩ := rowE_shape hrow
  have HR := Lib.hid hrun
  have hfin : Becomes [] (rowE TEv 8 (.slice a2 es.length c2) es.length (evCells es)) w w2 := by
    rw [← hes.len] at hrow2 ⊢
    refine ⟨_, ⟨hrow2, rfl⟩, (Tn.refl [] w).alloc _ |>.grown hgr (fun k hk => .inr ?_), fun k hk => .inr ?_⟩
    · have : k = w.heap.size := by simpa using hk.symm
      omega
    · have hk' := Option.mem_toList.1 hk
      rcases hlo with c | c
      · rw [c] at hk'
        have : k = w.heap.size := by simpa using hk'.symm
        omega
      · rw [c] at hk'
        have : k = (w.alloc (.cells #[] TEv)).heap.size := by simpa using hk'.symm
        rw [this]; simp
  have HF := Lib.hid hfin
  clear hrow hrow2 hgr hlo hfin hown hrun hes hc hes2 hn
  go_enter Tryz.func19, Tryz.ntmps19
  go_wp2_with (at_builtin; refine ev_app rfl _ _ rfl rfl rfl HR.out ?_)
  go_ret
  exact ⟨_, _, rfl, HF.out⟩
theorem evAt_lit (W : World) (fs : List Ev) : EvAt (W.alloc (.cells (evCells fs).toArray TEv)) W.heap.size 0 fs := fun i u hu => by
  rw [Nat.zero_add, cell_of_row _ W.heap.size i _ _ _ (heap_alloc_new W _), List.getElem?_toArray]
  exact hu
section
variable {w0 w W : World} {C : Ass}
/-- A literal row laid behind a row. -/
theorem ev_appLit {ops : Array Oper} {rest : List Oper} {o : Oper} {a : Act} {Q : Exit → Act → World → Prop} (hC : C.Good) (hgd : o.guard = Option.none) (s x : Operand)
    (ho : o.op = .call { callee := .builtin .append, args := #[s, x], argTypes := #[30, 30] }) (ao : Option Addr) (n cap : Nat) (es fs : List Ev) (k : Nat) (hs : a.eval s = .slice ao n cap) (hx : a.eval x = .slice (some ⟨W.heap.size, 0, Option.none⟩) k k) (hk : k = fs.length) {cs : Array Value} (hcs : cs = (evCells fs).toArray)
    (hS : At w0 ((rowE TEv 8 (.slice ao n cap) es.length (evCells es)).star C) W) (hn : es.length + k ≤ 2199023255552) (h : ∀ a2 c2 w', At w0 ((rowE TEv 8 (.slice a2 (n + k) c2) (es ++ fs).length (evCells (es ++ fs))).star C) w' → wpList Tryz.prog ops Q rest (a.put o.dst (.slice a2 (n + k) c2)) w') :
    wpList Tryz.prog ops Q (o :: rest) a (W.alloc (.cells cs 45)) := by
  subst hcs
  obtain ⟨v', w2, hrun, hrow, hgr, hnil, hlo⟩ := ev_runApp (es := fs) o.type es (hS.erow.alloc (.cells (evCells fs).toArray TEv)) (some ⟨W.heap.size, 0, none⟩) k k hk hn (.inr ⟨_, _, rfl, evAt_lit W fs⟩)
  have hlen : n = es.length := by
    obtain ⟨a3, c3, e3⟩ := rowE_shape hS.erow
    simp at e3
    exact e3.2.1
  obtain ⟨a2, c2, rfl⟩ := rowE_shape hrow
  rw [← hlen] at hrun hrow hlo
  refine ev_app hgd s x ho hs hx hrun (h a2 c2 w2 ?_)
  have hg := (World.grownBy_alloc W (.cells (evCells fs).toArray TEv) _).trans hgr
  refine hS.appendedE hC hg ?_ ?_
  · rw [evCells_app, List.length_append, ← hlen, ← hk]
    exact hrow
  · rcases hlo with c | c
    · exact .inl c
    · exact .inr ⟨_, by simp, c⟩
theorem ev_big {ao : Option Addr} {k cap : Nat} {es : List Ev} (h : At w0 ((rowE TEv 8 (.slice ao k cap) es.length (evCells es)).star C) w) (hk : 1 ≤ es.length) : ∃ g, ao = some ⟨g, 0, none⟩ ∧ k = es.length ∧ k ≤ cap := by
  obtain ⟨_, ⟨F1, F2, rfl, ⟨h1, rfl⟩, _, _⟩, _⟩ := h
  rcases h1.2 with ⟨e, h0⟩ | ⟨g, c, cur, e, _, hg, hle, _⟩
  · omega
  · obtain ⟨rfl, rfl, rfl⟩ : ao = some ⟨g, 0, none⟩ ∧ k = es.length ∧ cap = c := by simpa using e
    exact ⟨g, rfl, rfl, hle⟩
/-- LendEvents. -/
theorem ev_lend {ao : Option Addr} {n cap : Nat} {es : List Ev} (hes : EvIn [] w ao n es) (hc : ao = none → cap = 0) (hn : n ≤ 2199023255547) :
    Calls Tryz.prog 6 #[.slice ao n cap] w fun e w' => ∃ g c2, e = .returned (.slice (some ⟨g, 0, none⟩) n c2) ∧ n + 2 ≤ c2 ∧ Becomes [] ((rowE TEv 8 (.slice (some ⟨g, 0, none⟩) (es ++ evMks).length c2) (es ++ evMks).length (evCells (es ++ evMks))).star emp) w w' := by
  have HC := Lib.hid (ev_copy (cap := cap) hes hc hn)
  have hlen := hes.len
  have HL := Lib.hid hlen
  have hel : es.length + 2 ≤ 2199023255552 := by omega
  clear hes hc hlen
  go_enter Tryz.func6, Tryz.ntmps6
  go_wp2_with (first
    | (go_at_call 19; (with_reducible refine HC.out.mono ?_); rintro e w1 ⟨a1, c1, rfl, hb⟩; have hS := At.add emp_good (At.none (Below.refl w.heap.size w)) hb; rw [← HL.out] at hS; clear hb; have hS2 : At w ((rowE TEv 8 (.slice a1 n c1) es.length (evCells es)).star emp) w1 := by rw [← HL.out]; exact hS)
    | (at_builtin; refine ev_appLit emp_good rfl _ _ rfl a1 n c1 es evMks 2 rfl rfl rfl rfl hS2 hel ?_; intro a3 c3 w3 hS3; obtain ⟨g, rfl, -, hle⟩ := ev_big hS3 (by rw [List.length_append]; show 1 ≤ es.length + 2; omega); have hle2 : (n : Int) ≤ (c3 : Int) := by omega))
  go_ret
  refine ⟨g, c3, rfl, hle, ?_⟩
  have := ev_made hS3
  rw [show (es ++ evMks).length = n + 2 by rw [List.length_append, HL.out]; rfl]
  rw [show (es ++ evMks).length = n + 2 by rw [List.length_append, HL.out]; rfl] at this
  exact this
end
section
variable {w0 w : World} {C : Ass}
theorem evAt_row {g cap : Nat} {es : List Ev} {n : Nat} (h : At w0 ((rowE TEv 8 (.slice (some ⟨g, 0, none⟩) n cap) es.length (evCells es)).star C) w) : EvAt w g 0 es ∧ g < w.heap.size := by
  have hr := h.erow
  refine ⟨fun i u hu => ?_, (hr.lt g (by simp [Value.ownBlock])).2⟩
  have := hr.cells (g := g) rfl i u hu
  rw [Addr.add_lit] at this
  exact this
theorem ev_mkAt (es : List Ev) : (es ++ evMks).getD es.length Ev.zero = evMk ∧ (es ++ evMks).getD (es.length + 1) Ev.zero = evMk := by
  constructor <;> simp [List.getD]
set_option maxRecDepth 100000 in
set_option maxHeartbeats 4000000 in
/-- KeptEvents. -/
theorem ev_kept {g c2 cap : Nat} {ao : Option Addr} {es : List Ev} (hS : At w0 ((rowE TEv 8 (.slice (some ⟨g, 0, none⟩) (es ++ evMks).length c2) (es ++ evMks).length (evCells (es ++ evMks))).star C) w) (hes : EvIn [] w ao es.length es) (hn : es.length ≤ 2199023255547) (hc2 : es.length + 2 ≤ c2) :
    Calls Tryz.prog 11 #[.slice (some ⟨g, 0, none⟩) es.length c2, .slice ao es.length cap] w fun e w' => e = .returned (.bool true) ∧ Below w.heap.size w w' := by
  obtain ⟨hat, hg⟩ := evAt_row hS
  have hpre : EvIn [] w (some ⟨g, 0, none⟩) es.length es := ⟨rfl, .inr ⟨g, 0, rfl, fun i u hu => hat i u (by
    rw [evCells_app, List.getElem?_append_left (by rcases Nat.lt_or_ge i (evCells es).length with c | c; exact c; rw [List.getElem?_eq_none c] at hu; cases hu)]
    exact hu), by simp, hg⟩, by omega⟩
  have HSm := Lib.hid ((ev_same (c1 := c2) (c2 := cap) hpre hes).mono (R' := fun e w' => e = .returned (.bool true) ∧ Below w.heap.size w w') fun e w' ⟨a, b⟩ => ⟨by rw [a]; simp, b⟩)
  have HE := Lib.hid (fun W (hb : Below w.heap.size w W) => And.intro ((hat.same (hb.block g hg)).elem (j := es.length) (by rw [List.length_append]; show es.length < es.length + 2; omega)) ((hat.same (hb.block g hg)).elem (j := es.length + 1) (by rw [List.length_append]; show es.length + 1 < es.length + 2; omega)))
  rw [(ev_mkAt es).1, (ev_mkAt es).2] at HE
  clear hS hes hat hg hpre
  have hw2 : IntKind.i64.wrap ((es.length : Int) + 2) = (es.length : Int) + 2 := by rw [IntKind.wrap_i64]; omega
  have hw1 : IntKind.i64.wrap ((es.length : Int) + 1) = (es.length : Int) + 1 := by rw [IntKind.wrap_i64]; omega
  have hl2 : (es.length : Int) + 2 ≤ (c2 : Int) := by omega
  generalize es.length = n at *
  go_enter Tryz.func11, Tryz.ntmps11
  go_wp2_with (go_at_call 25; (with_reducible refine HSm.out.mono ?_); rintro e w1 ⟨rfl, hb⟩; obtain ⟨⟨a0, a1, a2, a3, a4, a5, a6, a7⟩, ⟨z0, z1, z2, z3, z4, z5, z6, z7⟩⟩ := HE.out _ hb; simp only [Nat.zero_add] at a0 a1 a2 a3 a4 a5 a6 a7 z0 z1 z2 z3 z4 z5 z6 z7)
  go_ret
  exact ⟨rfl, hb⟩
/-- A row's block, known whole. -/
theorem At.evWhole {g cap n : Nat} {es : List Ev} (h : At w0 ((rowE TEv 8 (.slice (some ⟨g, 0, Option.none⟩) n cap) es.length (evCells es)).star C) w) : ∃ cur : Array Value, (∀ j, j < es.length → ∃ z, cur[j * 8 + 7]? = some (.int .i64 z)) ∧ At w0 ((ownA g cur TEv).star C) w := by
  obtain ⟨F, ⟨F1, F2, rfl, ⟨h1, rfl⟩, g2, g3⟩, hB, hb⟩ := h
  rcases h1.2 with ⟨e, _⟩ | ⟨g', c, cur, e, _, hg, hle, _, hsz, htk⟩
  · simp at e
  · obtain ⟨rfl, rfl, rfl⟩ : g = g' ∧ n = es.length ∧ cap = c := by simpa using e
    refine ⟨cur, fun j hj => ?_, [g] ++ F2, ⟨[g], F2, rfl, ⟨hg, rfl⟩, g2, fun k hk => g3 k (by simpa [Value.ownBlock] using hk)⟩, fun k hk => hB k (by simpa [Value.ownBlock] using hk), hb⟩
    have hc := evCells_at es hj (i := 7) (by decide)
    rw [← htk, List.getElem?_take_of_lt (by omega)] at hc
    exact ⟨_, by rw [← Array.getElem?_toList]; exact hc⟩
end
end Go.Proofs.YtopkcaflmpjhgaaGreat

namespace Go.Proofs.YtopkcaflmpjhgaaGreat
open Go Go.RowKit

theorem ev_on {w W : World} {ao : Option Addr} {n : Nat} {es : List Ev} (h : EvIn [] w ao n es) (hb : Below w.heap.size w W) : EvIn [] W ao n es := h.tn (Tn.ofBelow hb [])
theorem ev_none {w : World} {ao : Option Addr} : EvIn [] w ao 0 [] := ⟨rfl, .inl rfl, by decide⟩
theorem At.evI {w0 w : World} {C : Ass} {ao : Option Addr} {n m cap : Nat} {es : List Ev} (h : At w0 ((rowE TEv 8 (.slice ao n cap) m (evCells es)).star C) w) (hn : n = es.length) (hm : m = es.length) (hf : es.length ≤ 2199023255552) : EvIn [] w ao n es := by
  subst hn hm
  refine ⟨rfl, ?_, by omega⟩
  by_cases h0 : es.length = 0
  · exact .inl h0
  · obtain ⟨g, rfl, _, _⟩ := ev_big h (by omega)
    obtain ⟨h1, h2⟩ := evAt_row h
    exact .inr ⟨g, 0, rfl, h1, by simp, h2⟩
theorem At.evCap {w0 w : World} {C : Ass} {ao : Option Addr} {n m cap : Nat} {xs : List Value} (h : At w0 ((rowE TEv 8 (.slice ao n cap) m xs).star C) w) : ao = Option.none → cap = 0 := by
  intro e
  subst e
  obtain ⟨_, ⟨F1, F2, rfl, ⟨h1, rfl⟩, _, _⟩, _⟩ := h
  rcases h1.2 with ⟨e, _⟩ | ⟨g, c, cur, e, _⟩
  · simpa using congrArg (fun v => match v with | .slice _ _ c => c | _ => 0) e
  · simp at e
theorem ev_el {w : World} {ao : Option Addr} {n : Nat} {es : List Ev} (h : EvIn [] w ao n es) {k : Nat} (hk : k < n) : ∃ b off a, ao = some ⟨b, off, none⟩ ∧ es.getD k Ev.zero = a ∧ ∀ W, Below w.heap.size w W → W.cell? ⟨b, off + k * 8, none⟩ = some (.int .i64 a.kind) ∧ W.cell? ⟨b, off + k * 8 + 1, none⟩ = some (.int .i64 a.user) ∧ W.cell? ⟨b, off + k * 8 + 2, none⟩ = some (.int .i64 a.session) ∧ W.cell? ⟨b, off + k * 8 + 3, none⟩ = some (.int .i64 a.address) ∧ W.cell? ⟨b, off + k * 8 + 4, none⟩ = some (.int .i64 a.a) ∧ W.cell? ⟨b, off + k * 8 + 5, none⟩ = some (.int .i64 a.b) ∧ W.cell? ⟨b, off + k * 8 + 6, none⟩ = some (.int .i64 a.c) ∧ W.cell? ⟨b, off + k * 8 + 7, none⟩ = some (.int .i64 a.tick) := by
  obtain ⟨hlen, hrow, _⟩ := h
  rcases hrow with c | ⟨b, off, rfl, hat, _, hlb⟩
  · omega
  · exact ⟨b, off, _, rfl, rfl, fun W hW => (hat.same (hW.block b hlb)).elem (by rw [← hlen]; exact hk)⟩
/-- The first k of a row. -/
theorem evAt_take {w : World} {b off : Nat} {es : List Ev} (h : EvAt w b off es) (k : Nat) : EvAt w b off (es.take k) := fun i u hu => h i u (by
  have e : evCells es = evCells (es.take k) ++ evCells (es.drop k) := by rw [← evCells_app, List.take_append_drop]
  rw [e]
  have hl : i < (evCells (es.take k)).length := by
    rcases Nat.lt_or_ge i (evCells (es.take k)).length with c | c
    · exact c
    · rw [List.getElem?_eq_none c] at hu; cases hu
  rw [List.getElem?_append_left hl]
  exact hu)
/-- Those behind the first k. -/
theorem evAt_drop {w : World} {b off : Nat} {es : List Ev} (h : EvAt w b off es) {k : Nat} (hk : k ≤ es.length) : EvAt w b (off + k * 8) (es.drop k) := fun i u hu => by
  have e : evCells es = evCells (es.take k) ++ evCells (es.drop k) := by rw [← evCells_app, List.take_append_drop]
  have hl : (evCells (es.take k)).length = k * 8 := by rw [evCells_len, List.length_take, Nat.min_eq_left hk]
  rw [Nat.add_assoc]
  refine h (k * 8 + i) u ?_
  rw [e, List.getElem?_append_right (by omega), hl, show k * 8 + i - k * 8 = i by omega]
  exact hu
/-- A row laid behind a row of one's own. -/
theorem ev_grow {w0 W : World} {C : Ass} (hC : C.Good) {ao : Option Addr} {n cap : Nat} {es fs : List Ev} {b off k c : Nat} (hS : At w0 ((rowE TEv 8 (.slice ao n cap) es.length (evCells es)).star C) W) (hat : EvAt W b off fs) (hk : k = fs.length) (hn : es.length + k ≤ 2199023255552) (ty : TypeId) :
    ∃ a2 c2 w2, (Builtin.append_ #[30, 30] ty #[.slice ao n cap, .slice (some ⟨b, off, none⟩) k c]).run Tryz.prog W = .ok (.slice a2 (n + k) c2) w2 ∧ At w0 ((rowE TEv 8 (.slice a2 (n + k) c2) (es ++ fs).length (evCells (es ++ fs))).star C) w2 := by
  obtain ⟨v', w2, hrun, hrow, hgr, hnil, hlo⟩ := ev_runApp (es := fs) ty es hS.erow (some ⟨b, off, none⟩) k c hk hn (.inr ⟨_, _, rfl, hat⟩)
  have hlen : n = es.length := by
    obtain ⟨a3, c3, e3⟩ := rowE_shape hS.erow
    simp at e3
    exact e3.2.1
  obtain ⟨a2, c2, rfl⟩ := rowE_shape hrow
  rw [← hlen] at hrun hrow hlo
  refine ⟨a2, c2, w2, hrun, ?_⟩
  refine hS.appendedE hC hgr ?_ ?_
  · rw [evCells_app, List.length_append, ← hlen, ← hk]
    exact hrow
  · rcases hlo with e | e
    · exact .inl e
    · exact .inr ⟨_, Nat.le_refl _, e⟩
theorem At.evEmpty {w0 w : World} {C : Ass} (hC : C.Good) (h : At w0 C w) : At w0 ((rowE TEv 8 (.slice (some ⟨w.heap.size, 0, Option.none⟩) 0 0) ([] : List Ev).length (evCells [])).star C) (w.alloc (.cells #[] TEv)) := by
  refine At.add hC h ⟨[w.heap.size], ⟨⟨rfl, .inr ⟨w.heap.size, 0, #[], rfl, Nat.zero_le _, heap_alloc_new w _, Nat.le_refl _, by decide, rfl, rfl⟩⟩, rfl⟩, (Tn.refl _ _).alloc _, fun k hk => .inr (by simp at hk; omega)⟩
/-- A copy of a row: append([]T{}, row...). -/
theorem ev_dup {w0 w : World} {C : Ass} (hC : C.Good) (hS : At w0 C w) {ao : Option Addr} {n cap : Nat} {es : List Ev} (hes : EvIn [] w ao n es) (hc : ao = none → cap = 0) (hn : n ≤ 2199023255547) (ty : TypeId) :
    ∃ a2 c2 w2, (Builtin.append_ #[30, 30] ty #[.slice (some ⟨w.heap.size, 0, none⟩) 0 0, .slice ao n cap]).run Tryz.prog (w.alloc (.cells #[] TEv)) = .ok (.slice a2 n c2) w2 ∧ At w0 ((rowE TEv 8 (.slice a2 n c2) es.length (evCells es)).star C) w2 := by
  have hE := At.evEmpty hC hS
  have hes2 := hes.tn ((Tn.refl [] w).alloc (.cells #[] TEv))
  have hlen := hes.len
  by_cases h0 : n = 0
  · subst h0
    have he : es = [] := List.length_eq_zero_iff.1 hlen.symm
    subst he
    have hown := hE.erow
    cases ao with
    | none =>
      obtain ⟨v', w2, k1, k2, k3, k4, k5⟩ := ev_runApp (es := []) ty [] hown none 0 cap rfl (by simp) (.inl ⟨rfl, rfl, hc rfl⟩)
      obtain ⟨a2, c2, rfl⟩ := rowE_shape k2
      refine ⟨a2, c2, w2, by simpa using k1, hE.appendedE hC k3 (by simpa [evCells] using k2) ?_⟩
      rcases k5 with e | e
      · exact .inl e
      · exact .inr ⟨_, Nat.le_refl _, e⟩
    | some a =>
      obtain ⟨i, hi, hz0, hz1, hz2⟩ := info_parts ev_info
      obtain ⟨v', w2, k1, k2, k3, k4, k5⟩ := run_append_own_at (P := Tryz.prog) (w.alloc (.cells #[] TEv)) 0 30 ty TEv i _ 8 64 Tryz.underlying30 hi hz0 hz1 hz2 rfl (by decide) (.slice (some ⟨w.heap.size, 0, none⟩) 0 0) _ (evCells []) hown a 0 cap [] rfl (fun j u hj => by simp at hj) (fun u hu => by cases hu) (by unfold maxLen; simp) (by simp) (Nat.zero_le _)
      obtain ⟨a2, c2, rfl⟩ := rowE_shape k2
      refine ⟨a2, c2, w2, by simpa using k1, hE.appendedE hC k3 (by simpa [evCells] using k2) ?_⟩
      rcases k5 with e | e
      · exact .inl e
      · exact .inr ⟨_, Nat.le_refl _, e⟩
  · rcases hes2.row with c | ⟨b, off, rfl, h1, _⟩
    · exact absurd c h0
    · obtain ⟨a2, c2, w2, k1, k2⟩ := ev_grow (c := cap) hC hE h1 hlen (by simp; omega) ty
      rw [Nat.zero_add] at k1 k2
      rw [List.nil_append] at k2
      exact ⟨a2, c2, w2, k1, k2⟩
/-- The same, in a walk. -/
theorem ev_dupC {w0 W : World} {C : Ass} {ops : Array Oper} {rest : List Oper} {o : Oper} {a : Act} {Q : Exit → Act → World → Prop} (hC : C.Good) (hgd : o.guard = Option.none) (s x : Operand)
    (ho : o.op = .call { callee := .builtin .append, args := #[s, x], argTypes := #[30, 30] }) (ao : Option Addr) (n cap : Nat) (es : List Ev) {p : Nat} (hs : a.eval s = .slice (some ⟨p, 0, Option.none⟩) 0 0) (hp : p = W.heap.size) (hx : a.eval x = .slice ao n cap)
    (hS : At w0 C W) (hes : EvIn [] W ao n es) (hc : ao = Option.none → cap = 0) (hn : n ≤ 2199023255547) (h : ∀ a2 c2 w2, At w0 ((rowE TEv 8 (.slice a2 n c2) es.length (evCells es)).star C) w2 → wpList Tryz.prog ops Q rest (a.put o.dst (.slice a2 n c2)) w2) :
    wpList Tryz.prog ops Q (o :: rest) a (W.alloc (.cells #[] TEv)) := by
  subst hp
  obtain ⟨a2, c2, w2, hr, hS2⟩ := ev_dup hC hS hes hc hn o.type
  exact ev_app hgd s x ho hs hx hr (h a2 c2 w2 hS2)
/-- A literal row laid behind a row of one's own, its place told. -/
theorem ev_appLit2 {w0 W : World} {C : Ass} {ops : Array Oper} {rest : List Oper} {o : Oper} {a : Act} {Q : Exit → Act → World → Prop} (hC : C.Good) (hgd : o.guard = Option.none) (s x : Operand)
    (ho : o.op = .call { callee := .builtin .append, args := #[s, x], argTypes := #[30, 30] }) (ao : Option Addr) (n cap : Nat) (es fs : List Ev) (k : Nat) {p : Nat} (hs : a.eval s = .slice ao n cap) (hx : a.eval x = .slice (some ⟨p, 0, Option.none⟩) k k) (hp : p = W.heap.size) (hk : k = fs.length) {cs : Array Value} (hcs : cs = (evCells fs).toArray)
    (hS : At w0 ((rowE TEv 8 (.slice ao n cap) es.length (evCells es)).star C) W) (hn : es.length + k ≤ 2199023255552) (h : ∀ a2 c2 w', At w0 ((rowE TEv 8 (.slice a2 (n + k) c2) (es ++ fs).length (evCells (es ++ fs))).star C) w' → wpList Tryz.prog ops Q rest (a.put o.dst (.slice a2 (n + k) c2)) w') :
    wpList Tryz.prog ops Q (o :: rest) a (W.alloc (.cells cs 45)) := by
  subst hp
  exact ev_appLit hC hgd s x ho ao n cap es fs k hs hx hk hcs hS hn h
theorem evCells_set2 {es : List Ev} {k : Nat} (hk : k < es.length) (x : Ev) : evCells (es.set k x) = ((((((((evCells es).set (k * 8) (.int .i64 x.kind)).set (k * 8 + 1) (.int .i64 x.user)).set (k * 8 + 2) (.int .i64 x.session)).set (k * 8 + 3) (.int .i64 x.address)).set (k * 8 + 4) (.int .i64 x.a)).set (k * 8 + 5) (.int .i64 x.b)).set (k * 8 + 6) (.int .i64 x.c)).set (k * 8 + 7) (.int .i64 x.tick) := by
  apply List.ext_getElem?
  intro i
  by_cases hi : i < es.length * 8
  · obtain ⟨j, r, rfl, hr⟩ : ∃ j r, i = j * 8 + r ∧ r < 8 := ⟨i / 8, i % 8, by have := Nat.div_add_mod i 8; omega, Nat.mod_lt _ (by decide)⟩
    have hj : j < es.length := by omega
    rw [evCells_at (es.set k x) (by rw [List.length_set]; exact hj) hr]
    have hlen := evCells_len es
    by_cases e : j = k
    · subst e
      have hg : (es.set j x).getD j Ev.zero = x := by simp [List.getD, hj]
      rw [hg]
      rcases (show r = 0 ∨ r = 1 ∨ r = 2 ∨ r = 3 ∨ r = 4 ∨ r = 5 ∨ r = 6 ∨ r = 7 by omega) with rfl | rfl | rfl | rfl | rfl | rfl | rfl | rfl
      · rw [show j * 8 + 0 = j * 8 from rfl, List.getElem?_set_ne (by omega), List.getElem?_set_ne (by omega), List.getElem?_set_ne (by omega), List.getElem?_set_ne (by omega), List.getElem?_set_ne (by omega), List.getElem?_set_ne (by omega), List.getElem?_set_ne (by omega), List.getElem?_set_self (by (try simp only [List.length_set]); omega)]; rfl
      · rw [List.getElem?_set_ne (by omega), List.getElem?_set_ne (by omega), List.getElem?_set_ne (by omega), List.getElem?_set_ne (by omega), List.getElem?_set_ne (by omega), List.getElem?_set_ne (by omega), List.getElem?_set_self (by (try simp only [List.length_set]); omega)]; rfl
      · rw [List.getElem?_set_ne (by omega), List.getElem?_set_ne (by omega), List.getElem?_set_ne (by omega), List.getElem?_set_ne (by omega), List.getElem?_set_ne (by omega), List.getElem?_set_self (by (try simp only [List.length_set]); omega)]; rfl
      · rw [List.getElem?_set_ne (by omega), List.getElem?_set_ne (by omega), List.getElem?_set_ne (by omega), List.getElem?_set_ne (by omega), List.getElem?_set_self (by (try simp only [List.length_set]); omega)]; rfl
      · rw [List.getElem?_set_ne (by omega), List.getElem?_set_ne (by omega), List.getElem?_set_ne (by omega), List.getElem?_set_self (by (try simp only [List.length_set]); omega)]; rfl
      · rw [List.getElem?_set_ne (by omega), List.getElem?_set_ne (by omega), List.getElem?_set_self (by (try simp only [List.length_set]); omega)]; rfl
      · rw [List.getElem?_set_ne (by omega), List.getElem?_set_self (by (try simp only [List.length_set]); omega)]; rfl
      · rw [List.getElem?_set_self (by (try simp only [List.length_set]); omega)]; rfl
    · have hg : (es.set k x).getD j Ev.zero = es.getD j Ev.zero := by simp only [List.getD]; rw [List.getElem?_set_ne (fun c => e c.symm)]
      rw [hg, ← evCells_at es hj hr]
      rw [List.getElem?_set_ne (by omega)]; rw [List.getElem?_set_ne (by omega)]; rw [List.getElem?_set_ne (by omega)]; rw [List.getElem?_set_ne (by omega)]; rw [List.getElem?_set_ne (by omega)]; rw [List.getElem?_set_ne (by omega)]; rw [List.getElem?_set_ne (by omega)]; rw [List.getElem?_set_ne (by omega)]
  · rw [List.getElem?_eq_none (by rw [evCells_len, List.length_set]; omega), List.getElem?_eq_none (by simp [evCells_len]; omega)]
/-- An element is stored. -/
theorem At.evSet2 {w0 w : World} {C : Ass} (hC : C.Good) {g n cap : Nat} {es : List Ev} (h : At w0 ((rowE TEv 8 (.slice (some ⟨g, 0, Option.none⟩) n cap) es.length (evCells es)).star C) w) {k : Nat} (hk : k < es.length) (x : Ev) :
    At w0 ((rowE TEv 8 (.slice (some ⟨g, 0, Option.none⟩) n cap) (es.set k x).length (evCells (es.set k x))).star C) ((((((((w.setCell ⟨g, k * 8, Option.none⟩ (.int .i64 x.kind)).setCell ⟨g, k * 8 + 1, Option.none⟩ (.int .i64 x.user)).setCell ⟨g, k * 8 + 2, Option.none⟩ (.int .i64 x.session)).setCell ⟨g, k * 8 + 3, Option.none⟩ (.int .i64 x.address)).setCell ⟨g, k * 8 + 4, Option.none⟩ (.int .i64 x.a)).setCell ⟨g, k * 8 + 5, Option.none⟩ (.int .i64 x.b)).setCell ⟨g, k * 8 + 6, Option.none⟩ (.int .i64 x.c)).setCell ⟨g, k * 8 + 7, Option.none⟩ (.int .i64 x.tick)) := by
  have hlen : n = es.length := by
    obtain ⟨a3, c3, e3⟩ := rowE_shape h.erow
    simp at e3
    exact e3.2.1
  subst hlen
  have s0 := h.appendedE hC (h.erow.stored (k * 8) (.int .i64 x.kind)).2 (h.erow.stored (k * 8) (.int .i64 x.kind)).1 (.inl rfl)
  have s1 := s0.appendedE hC (s0.erow.stored (k * 8 + 1) (.int .i64 x.user)).2 (s0.erow.stored (k * 8 + 1) (.int .i64 x.user)).1 (.inl rfl)
  have s2 := s1.appendedE hC (s1.erow.stored (k * 8 + 2) (.int .i64 x.session)).2 (s1.erow.stored (k * 8 + 2) (.int .i64 x.session)).1 (.inl rfl)
  have s3 := s2.appendedE hC (s2.erow.stored (k * 8 + 3) (.int .i64 x.address)).2 (s2.erow.stored (k * 8 + 3) (.int .i64 x.address)).1 (.inl rfl)
  have s4 := s3.appendedE hC (s3.erow.stored (k * 8 + 4) (.int .i64 x.a)).2 (s3.erow.stored (k * 8 + 4) (.int .i64 x.a)).1 (.inl rfl)
  have s5 := s4.appendedE hC (s4.erow.stored (k * 8 + 5) (.int .i64 x.b)).2 (s4.erow.stored (k * 8 + 5) (.int .i64 x.b)).1 (.inl rfl)
  have s6 := s5.appendedE hC (s5.erow.stored (k * 8 + 6) (.int .i64 x.c)).2 (s5.erow.stored (k * 8 + 6) (.int .i64 x.c)).1 (.inl rfl)
  have s7 := s6.appendedE hC (s6.erow.stored (k * 8 + 7) (.int .i64 x.tick)).2 (s6.erow.stored (k * 8 + 7) (.int .i64 x.tick)).1 (.inl rfl)
  rw [evCells_set2 hk, List.length_set]
  exact s7
/-- The same, in a walk. -/
theorem ev_storeC {w0 W : World} {C : Ass} {ops : Array Oper} {rest : List Oper} {o : Oper} {a : Act} {Q : Exit → Act → World → Prop} (hC : C.Good) (hgd : o.guard = Option.none) (x y : Operand) (ho : o.op = .store TEv x y) (hd : o.dst = Option.none) {g n cap k : Nat} {es : List Ev} (hx : a.eval x = .pointer (some ⟨g, k * 8, Option.none⟩)) (v : Ev) (hy : a.eval y = .agg #[.int .i64 v.kind, .int .i64 v.user, .int .i64 v.session, .int .i64 v.address, .int .i64 v.a, .int .i64 v.b, .int .i64 v.c, .int .i64 v.tick])
    (hS : At w0 ((rowE TEv 8 (.slice (some ⟨g, 0, Option.none⟩) n cap) es.length (evCells es)).star C) W) (hk : k < es.length) (h : ∀ W', At w0 ((rowE TEv 8 (.slice (some ⟨g, 0, Option.none⟩) n cap) (es.set k v).length (evCells (es.set k v))).star C) W' → wpList Tryz.prog ops Q rest a W') : wpList Tryz.prog ops Q (o :: rest) a W := by
  have hT := At.evSet2 hC hS hk v
  have hr := hS.erow
  obtain ⟨h1, _⟩ := evAt_row hS
  refine wpList_store_mid hgd TEv x y ho g (k * 8) #[.int .i64 v.kind, .int .i64 v.user, .int .i64 v.session, .int .i64 v.address, .int .i64 v.a, .int .i64 v.b, .int .i64 v.c, .int .i64 v.tick] hx hy ?_ (by kernel_rfl) (by kernel_rfl) ?_
  · intro j hj
    have hlen : n = es.length := by
      obtain ⟨a3, c3, e3⟩ := rowE_shape hr
      simp at e3
      exact e3.2.1
    subst hlen
    have hj2 : j < 8 := hj
    refine ⟨?_, hr.frozenAt _⟩
    have hc : (k * 8 + j) < (evCells es).length := by rw [evCells_len]; omega
    have h3 := h1 (k * 8 + j) _ (List.getElem?_eq_getElem hc)
    rw [Nat.zero_add] at h3
    rw [h3]
    rfl
  · rw [hd]
    exact h _ hT
end Go.Proofs.YtopkcaflmpjhgaaGreat

