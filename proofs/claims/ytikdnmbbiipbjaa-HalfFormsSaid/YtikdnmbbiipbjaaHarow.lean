/- Rows of Half: what the statements' own helpers do with them. Conditions: the rows' sizes. -/
import Derived.Test.YtikdnmbbiipbjaaHa
import Derived.Test.YtikdnmbbiipbjaaRowE
import Derived.Test.YtikdnmbbiipbjaaRun
import Derived.Test.YtikdnmbbiipbjaaProg
import Derived.WalkSpells
import Derived.WalkLawsBesides
import Derived.Lib.Hide
import Derived.Maps.AppendAt
import Derived.Great.Walk
import Derived.OwnWalk
import Derived.IntWalk
import Derived.Deep.QuietTactic
namespace Go.Proofs.Ytikdnmbbiipbjaa
open Go Go.RowKit

abbrev THa : TypeId := 24
theorem ha_info : (Try.prog.info? THa).map (fun i => (i.zero, i.size, i.bytes)) = some (some (.agg #[.int .i64 0, .int .i64 0, .int .i64 0, .int .i64 0, .int .i64 0]), 5, 40) := by kernel_rfl
def Ha.cs (e : Ha) : List Value := [.int .i64 e.h, .int .i64 e.u, .int .i64 e.c, .int .i64 e.s, .int .i64 e.t]
theorem Ha.cs_len (e : Ha) : e.cs.length = 5 := rfl
/-- The cells of a row. -/
def haCells : List Ha → List Value
  | [] => []
  | e :: es => e.cs ++ haCells es
theorem haCells_len (es : List Ha) : (haCells es).length = es.length * 5 := by
  induction es with
  | nil => rfl
  | cons e es ih => rw [haCells, List.length_append, ih, Ha.cs_len, List.length_cons]; omega
theorem haCells_app (es fs : List Ha) : haCells (es ++ fs) = haCells es ++ haCells fs := by
  induction es with
  | nil => rfl
  | cons e es ih => rw [List.cons_append, haCells, ih, haCells, List.append_assoc]
theorem haCells_at (es : List Ha) {j : Nat} (hj : j < es.length) {i : Nat} (hi : i < 5) : (haCells es)[j * 5 + i]? = (es.getD j Ha.none).cs[i]? := by
  induction es generalizing j with
  | nil => cases hj
  | cons e es ih =>
    rw [haCells]
    cases j with
    | zero => rw [Nat.zero_mul, Nat.zero_add, List.getElem?_append_left (by rw [Ha.cs_len]; exact hi)]; rfl
    | succ j =>
      rw [List.getElem?_append_right (by rw [Ha.cs_len]; omega), Ha.cs_len, show (j + 1) * 5 + i - 5 = j * 5 + i by omega, ih (by simpa using hj)]
      rfl
theorem haCells_one (es : List Ha) : ∀ u ∈ haCells es, u.oneCell' = true := by
  induction es with
  | nil => intro u hu; cases hu
  | cons e es ih =>
    intro u hu
    rw [haCells] at hu
    rcases List.mem_append.1 hu with h | h
    · simp [Ha.cs] at h; rcases h with rfl | rfl | rfl | rfl | rfl <;> rfl
    · exact ih u h
/-- A row that somebody has, at off of block b. -/
def HaAt (w : World) (b off : Nat) (es : List Ha) : Prop := ∀ i u, (haCells es)[i]? = some u → w.cell? ⟨b, off + i, none⟩ = some u
theorem HaAt.elem {w : World} {b off : Nat} {es : List Ha} (h : HaAt w b off es) {j : Nat} (hj : j < es.length) : w.cell? ⟨b, off + j * 5, none⟩ = some (.int .i64 (es.getD j Ha.none).h) ∧ w.cell? ⟨b, off + j * 5 + 1, none⟩ = some (.int .i64 (es.getD j Ha.none).u) ∧ w.cell? ⟨b, off + j * 5 + 2, none⟩ = some (.int .i64 (es.getD j Ha.none).c) ∧ w.cell? ⟨b, off + j * 5 + 3, none⟩ = some (.int .i64 (es.getD j Ha.none).s) ∧ w.cell? ⟨b, off + j * 5 + 4, none⟩ = some (.int .i64 (es.getD j Ha.none).t) := by
  have key : ∀ i, i < 5 → w.cell? ⟨b, off + j * 5 + i, none⟩ = (es.getD j Ha.none).cs[i]? := fun i hi => by
    have hx : ∃ u, (es.getD j Ha.none).cs[i]? = some u := ⟨_, List.getElem?_eq_getElem (by rw [Ha.cs_len]; exact hi)⟩
    obtain ⟨u, hu⟩ := hx
    rw [hu, Nat.add_assoc]
    exact h _ u (by rw [haCells_at es hj hi]; exact hu)
  exact ⟨key 0 (by decide), key 1 (by decide), key 2 (by decide), key 3 (by decide), key 4 (by decide)⟩
theorem HaAt.same {w w' : World} {b off : Nat} {es : List Ha} (h : HaAt w b off es) (hb : w'.heap[b]? = w.heap[b]?) : HaAt w' b off es := fun i u hu => (World.cell?_of_block (a := ⟨b, off + i, none⟩) hb).trans (h i u hu)
/-- A row that a call is given: none, or in a block that is not among F. -/
structure HaIn (F : List Nat) (w : World) (ao : Option Addr) (n : Nat) (es : List Ha) : Prop where
  len : n = es.length
  row : n = 0 ∨ ∃ b off, ao = some ⟨b, off, none⟩ ∧ HaAt w b off es ∧ b ∉ F ∧ b < w.heap.size
  few : n ≤ 140737488355328
theorem HaIn.tn {F : List Nat} {w W : World} {ao : Option Addr} {n : Nat} {es : List Ha} (h : HaIn F w ao n es) (ht : Tn F w W) : HaIn F W ao n es := by
  refine ⟨h.len, ?_, h.few⟩
  rcases h.row with c | ⟨b, off, e, h1, h2, h3⟩
  · exact .inl c
  · exact .inr ⟨b, off, e, h1.same (ht.block b h3 h2), h2, Nat.lt_of_lt_of_le h3 ht.size⟩
theorem ha_exapp {P : Program} {a : Act} {w w' : World} {op : Oper} (x y : Operand) (t : TypeId) (ho : op.op = .call { callee := .builtin .append, args := #[x, y], argTypes := #[t, t] }) {v u v' : Value} (hx : a.eval x = v) (hy : a.eval y = u) (hr : (Builtin.append_ #[t, t] op.type #[v, u]).run P w = .ok v' w') :
    (execOp a.eval op).run P w = .ok (.value v') w' := by
  unfold execOp
  simp only [ho, resolve, invoke, builtin, Sem.run_bind, Sem.run_pure, Result.andThen_ok, List.map_toArray, List.map_cons, List.map_nil, hx, hy, hr]
theorem ha_made {A : Ass} {w w' : World} (h : At w A w') : Becomes [] A w w' := by
  obtain ⟨F, h1, h2, h3⟩ := h
  exact ⟨F, h1, Tn.ofBelow h3 [], fun k hk => .inr (h2 k hk)⟩
theorem ha_app {W w' : World} {ops : Array Oper} {rest : List Oper} {o : Oper} {a : Act} {Q : Exit → Act → World → Prop} {v u v' : Value} (hgd : o.guard = Option.none) (s x : Operand)
    (ho : o.op = .call { callee := .builtin .append, args := #[s, x], argTypes := #[22, 22] }) (hs : a.eval s = v) (hx : a.eval x = u) (hr : (Builtin.append_ #[22, 22] o.type #[v, u]).run Try.prog W = .ok v' w') (h : wpList Try.prog ops Q rest (a.put o.dst v') w') :
    wpList Try.prog ops Q (o :: rest) a W := Great.wpList_runTo hgd o.dst rfl _ _ (ha_exapp s x 22 ho hs hx hr) h
abbrev hase0 : Oper := { dst := some 17, op := Op.move (Operand.tmp 0), type := 22, pos := "memory.go:119", after := #[], guard := none }
abbrev hase1 : Oper := { dst := some 18, op := Op.move (Operand.tmp 5), type := 3, pos := "memory.go:119", after := #[], guard := none }
abbrev hase2 : Oper := { dst := some 19, op := Op.indexAddr 22 (Operand.tmp 17) (Operand.tmp 18), type := 0, pos := "memory.go:119", after := #[{ on := 0, ground := Ground.data }, { on := 1, ground := Ground.data }], guard := none }
abbrev hase3 : Oper := { dst := some 20, op := Op.load 24 (Operand.tmp 19), type := 24, pos := "memory.go:119", after := #[{ on := 2, ground := Ground.data }], guard := none }
abbrev hase4 : Oper := { dst := some 21, op := Op.move (Operand.tmp 1), type := 22, pos := "memory.go:119", after := #[], guard := none }
abbrev hase5 : Oper := { dst := some 22, op := Op.move (Operand.tmp 5), type := 3, pos := "memory.go:119", after := #[], guard := none }
abbrev hase6 : Oper := { dst := some 23, op := Op.indexAddr 22 (Operand.tmp 21) (Operand.tmp 22), type := 0, pos := "memory.go:119", after := #[{ on := 4, ground := Ground.data }, { on := 5, ground := Ground.data }], guard := none }
abbrev hase7 : Oper := { dst := some 24, op := Op.load 24 (Operand.tmp 23), type := 24, pos := "memory.go:119", after := #[{ on := 6, ground := Ground.data }], guard := none }
abbrev hase8 : Oper := { dst := some 25, op := Op.binOp BinOp.neq 24 (Operand.tmp 20) (Operand.tmp 24) 24, type := 4, pos := "memory.go:119", after := #[{ on := 3, ground := Ground.data }, { on := 7, ground := Ground.data }], guard := none }
theorem ha_neq {a : Act} {w : World} {op : Oper} (p q : Operand) (ho : op.op = .binOp .neq 24 p q 24) (x y : Ha) (hp : a.eval p = .agg #[.int .i64 x.h, .int .i64 x.u, .int .i64 x.c, .int .i64 x.s, .int .i64 x.t]) (hq : a.eval q = .agg #[.int .i64 y.h, .int .i64 y.u, .int .i64 y.c, .int .i64 y.s, .int .i64 y.t]) : (execOp a.eval op).run Try.prog w = .ok (.value (.bool (!decide (x = y)))) w := by
  unfold execOp
  simp only [ho, hp, hq, Sem.run_bind]
  by_cases h : x = y
  · subst h
    go_simp
  · have hd : decide (x = y) = false := decide_eq_false h
    rw [hd]
    by_cases q0 : x.h = y.h
    · by_cases q1 : x.u = y.u
      · by_cases q2 : x.c = y.c
        · by_cases q3 : x.s = y.s
          · by_cases q4 : x.t = y.t
            · exact absurd (show x = y from by obtain ⟨_, _, _, _, _⟩ := x; obtain ⟨_, _, _, _, _⟩ := y; simp only [Ha.mk.injEq]; exact ⟨q0, q1, q2, q3, q4⟩) h
            · go_simp
          · go_simp
        · go_simp
      · go_simp
    · go_simp
/-- Two rows. -/
def haSame (n : Nat) (es fs : List Ha) : Prop := ∀ i, i < n → es.getD i Ha.none = fs.getD i Ha.none
theorem haSame_eq {es fs : List Ha} (h1 : es.length = fs.length) (h : haSame es.length es fs) : es = fs := by
  apply List.ext_getElem h1
  intro i a b
  have := h i a
  simpa [List.getD, a, b] using this
theorem ha_bel {w W W' : World} (hb : Below w.heap.size w W) (h : Below W.heap.size W W') : Below w.heap.size w W' := hb.trans (h.mono hb.size)
theorem ha_drew (w : World) : Below w.heap.size w w.drew := ⟨rfl, rfl, rfl, Nat.le_refl _, fun _ _ => rfl⟩
set_option maxRecDepth 100000 in
set_option maxHeartbeats 4000000 in
/-- Same. -/
theorem ha_same {w : World} {ao bo : Option Addr} {n m c1 c2 : Nat} {es fs : List Ha} (h1 : HaIn [] w ao n es) (h2 : HaIn [] w bo m fs) :
    Calls Try.prog 13 #[.slice ao n c1, .slice bo m c2] w fun e w' => e = .returned (.bool (decide (es = fs))) ∧ Below w.heap.size w w' := by
  obtain ⟨l1, r1, f1⟩ := h1
  obtain ⟨l2, r2, f2⟩ := h2
  by_cases hl : n = m
  · subst hl
    have HL := Lib.hid (And.intro l1 l2)
    have HR1 := Lib.hid r1
    have HR2 := Lib.hid r2
    clear l1 l2 r1 r2
    have hb0 := Below.refl w.heap.size w
    go_enter Try.func13, Try.ntmps13
    go_wp2
    go_loopw [5] (fun x wr => ∃ k : Nat, k ≤ n ∧ x = .int .i64 (k : Int) ∧ haSame k es fs ∧ Below w.heap.size w wr) (fun x _ => n - (intOf x).toNat)
    case atStart => exact ⟨0, Nat.zero_le _, rfl, (fun i hi => by omega), hb0⟩
    case round =>
      clear hb0
      obtain ⟨k, hkn, rfl, hp, hbl⟩ := hrel
      by_cases hlt : k < n
      · obtain ⟨b1, o1, rfl, e1, _, g1⟩ : ∃ b off, ao = some ⟨b, off, none⟩ ∧ HaAt w b off es ∧ b ∉ ([] : List Nat) ∧ b < w.heap.size := by
          rcases HR1.out with c | c
          · omega
          · exact c
        obtain ⟨b2, o2, rfl, e2, _, g2⟩ : ∃ b off, bo = some ⟨b, off, none⟩ ∧ HaAt w b off fs ∧ b ∉ ([] : List Nat) ∧ b < w.heap.size := by
          rcases HR2.out with c | c
          · omega
          · exact c
        have H1 := Lib.hid (fun W (hb : Below w.heap.size w W) => (e1.same (hb.block b1 g1)).elem (j := k) (by rw [← HL.out.1]; exact hlt))
        have H2 := Lib.hid (fun W (hb : Below w.heap.size w W) => (e2.same (hb.block b2 g2)).elem (j := k) (by rw [← HL.out.2]; exact hlt))
        obtain ⟨x, hx⟩ : ∃ x, es.getD k Ha.none = x := ⟨_, rfl⟩
        obtain ⟨y, hy⟩ : ∃ y, fs.getD k Ha.none = y := ⟨_, rfl⟩
        have HX := Lib.hid (And.intro hx hy)
        rw [hx] at H1
        rw [hy] at H2
        have HP := Lib.hid hp
        clear hx hy hp e1 e2
        go_wp2
        refine region_held (S := fun Z8 => Below w.heap.size w Z8) 9 [false, false, false, false, false, false, false, false, false] rfl rfl (by kernel_rfl) fun V0 hW => ?_
        have hV : Below w.heap.size w V0 := by rw [hW]; exact ha_bel hbl (ha_drew wr)
        clear hW hbl
        refine run_go [(0, hase0, (some 17)), (1, hase1, (some 18)), (2, hase2, (some 19)), (3, hase3, (some 20)), (4, hase4, (some 21)), (5, hase5, (some 22)), (6, hase6, (some 23)), (7, hase7, (some 24))] (by kernel_rfl) ?_
        iterate 8 (refine run_take ?_ rfl rfl (fun _ _ _ h => h) (Or.inl ⟨by rfl, ?_⟩) hV ?_; rotate_left; (· (intro w0 hy0; obtain ⟨a0, a1, a2, a3, a4⟩ := H1.out _ hy0; obtain ⟨z0, z1, z2, z3, z4⟩ := H2.out _ hy0; (go_simp <;> with_reducible rfl))); simp only [Act.put, List.setIfInBounds_toArray, List.set_cons_zero, List.set_cons_succ])
        refine run_end ?_
        refine held_take 8 hase8 (some 25) (.bool (!decide (x = y))) rfl rfl (by kernel_rfl) (by kernel_rfl) (by kernel_rfl) (fun _ _ _ h => h) (Or.inl ⟨by rfl, fun w0 hy0 => ha_neq (.tmp 20) (.tmp 24) rfl x y rfl rfl⟩) hV ?_
        simp only [Act.put, List.setIfInBounds_toArray, List.set_cons_zero, List.set_cons_succ]
        refine wpAnyH_done (by kernel_rfl) ?_ _
        by_cases hxy : x = y
        · have hd : (!decide (x = y)) = false := by simp [hxy]
          rw [hd]
          have HXY := Lib.hid hxy
          clear hxy hd
          go_wp2
          go_round
          case rel =>
            refine ⟨k + 1, by omega, by go_num, fun i hi => ?_, hV⟩
            by_cases c : i < k
            · exact HP.out i c
            · obtain rfl : i = k := by omega
              rw [HX.out.1, HX.out.2]; exact HXY.out
          case measure => simp [intOf]; omega
        · have hd : (!decide (x = y)) = true := by simp [hxy]
          rw [hd]
          have HXY := Lib.hid hxy
          clear hxy hd
          go_wp2
          go_ret
          have hne : decide (es = fs) = false := decide_eq_false fun c => HXY.out (by rw [← HX.out.1, ← HX.out.2, c])
          rw [hne]
          exact ⟨rfl, hV⟩
      · have HQ := Lib.hid (show es = fs from by
          obtain ⟨q1, q2⟩ := HL.out
          have hk : k = n := by omega
          refine haSame_eq (by omega) ?_
          rw [← q1, ← hk]
          exact hp)
        clear hp
        go_wp2
        go_ret
        have he : decide (es = fs) = true := decide_eq_true HQ.out
        rw [he]
        exact ⟨rfl, hbl⟩
  · have hne : decide (es = fs) = false := decide_eq_false fun c => hl (by rw [l1, l2, c])
    rw [hne]
    have hd : ((n : Int) != (m : Int)) = true := by simp; omega
    clear l1 l2 r1 r2 hne
    go_enter Try.func13, Try.ntmps13
    go_wp2
    go_ret
    exact ⟨rfl, Below.refl _ _⟩
/-- The mark behind what is lent. -/
abbrev haMk : Ha := ⟨0, 0, 0, 0, 77777⟩
abbrev haMks : List Ha := [haMk, haMk]
theorem ha_runApp {w : World} {v : Value} {es : List Ha} (ty : TypeId) (all : List Ha) (hown : w.ownsRow 0 THa 5 v all.length (haCells all)) (ao : Option Addr) (k c : Nat) (hk : k = es.length) (hf : all.length + k ≤ 3518437208883) (hc : (ao = none ∧ k = 0 ∧ c = 0) ∨ ∃ b off, ao = some ⟨b, off, none⟩ ∧ HaAt w b off es) :
    ∃ v' w', (Builtin.append_ #[22, 22] ty #[v, .slice ao k c]).run Try.prog w = .ok v' w' ∧ w'.ownsRow 0 THa 5 v' (all.length + k) (haCells all ++ haCells es) ∧ w.grownBy w' v.ownBlock ∧ (v' = .slice none 0 0 ↔ v = .slice none 0 0 ∧ k = 0) ∧ (v'.ownBlock = v.ownBlock ∨ v'.ownBlock = some w.heap.size) := by
  obtain ⟨i, hi, hz0, hz1, hz2⟩ := info_parts ha_info
  rcases hc with ⟨rfl, rfl, rfl⟩ | ⟨b, off, rfl, he⟩
  · have hes : es = [] := List.length_eq_zero_iff.1 hk.symm
    subst hes
    refine ⟨v, w, run_append_owned_none (P := Try.prog) (w := w) 0 22 ty THa i 5 Try.underlying22 hi v _ _ hown, ?_, World.grownBy.refl _ _, by simp, .inl rfl⟩
    simpa [haCells] using hown
  · exact run_append_own_at (P := Try.prog) w 0 22 ty THa i _ 5 40 Try.underlying22 hi hz0 hz1 hz2 rfl (by decide) v all.length (haCells all) hown ⟨b, off, none⟩ k c (haCells es) (by rw [haCells_len, hk]) (fun j u hj => by rw [Addr.add_lit]; exact he j u hj) (haCells_one es) (by unfold maxLen; omega) (by omega) (Nat.zero_le _)
theorem ha_copy {w : World} {ao : Option Addr} {n cap : Nat} {es : List Ha} (hes : HaIn [] w ao n es) (hc : ao = none → cap = 0) (hn : n ≤ 3518437208878) :
    Calls Try.prog 19 #[.slice ao n cap] w fun e w' => ∃ a2 c2, e = .returned (.slice a2 n c2) ∧ Becomes [] (rowE THa 5 (.slice a2 es.length c2) es.length (haCells es)) w w' := by
  have hown : (w.alloc (.cells #[] THa)).ownsRow 0 THa 5 (.slice (some ⟨w.heap.size, 0, none⟩) 0 0) ([] : List Ha).length (haCells []) := ⟨rfl, .inr ⟨w.heap.size, 0, #[], rfl, Nat.zero_le _, heap_alloc_new w _, Nat.le_refl _, by decide, rfl, rfl⟩⟩
  have hes2 := hes.tn ((Tn.refl [] w).alloc (.cells #[] THa))
  obtain ⟨v', w2, hrun, hrow, hgr, hlo⟩ : ∃ v' w', (Builtin.append_ #[22, 22] 22 #[.slice (some ⟨w.heap.size, 0, none⟩) 0 0, .slice ao n cap]).run Try.prog (w.alloc (.cells #[] THa)) = .ok v' w' ∧ w'.ownsRow 0 THa 5 v' n (haCells es) ∧ (w.alloc (.cells #[] THa)).grownBy w' (some w.heap.size) ∧ (v'.ownBlock = some w.heap.size ∨ v'.ownBlock = some (w.alloc (.cells #[] THa)).heap.size) := by
    rcases hes2.row with c | ⟨b, off, e, h1, _⟩
    · have he : es = [] := List.length_eq_zero_iff.1 (by rw [← hes.len, c])
      subst he
      cases ao with
      | none =>
        obtain ⟨v', w', k1, k2, k3, k4, k5⟩ := ha_runApp (es := []) 22 [] hown none n cap (by rw [c]; rfl) (by simp; omega) (.inl ⟨rfl, c, hc rfl⟩)
        exact ⟨v', w', k1, by simpa [c, haCells] using k2, k3, k5⟩
      | some a =>
        obtain ⟨i, hi, hz0, hz1, hz2⟩ := info_parts ha_info
        obtain ⟨v', w', k1, k2, k3, k4, k5⟩ := run_append_own_at (P := Try.prog) (w.alloc (.cells #[] THa)) 0 22 22 THa i _ 5 40 Try.underlying22 hi hz0 hz1 hz2 rfl (by decide) (.slice (some ⟨w.heap.size, 0, none⟩) 0 0) _ (haCells []) hown a n cap [] (by rw [c]; rfl) (fun j u hj => by simp at hj) (fun u hu => by cases hu) (by unfold maxLen; simp; omega) (by simp; omega) (Nat.zero_le _)
        exact ⟨v', w', k1, by simpa [c, haCells] using k2, k3, k5⟩
    · obtain ⟨v', w', k1, k2, k3, k4, k5⟩ := ha_runApp (es := es) 22 [] hown ao n cap hes.len (by simp; omega) (.inr ⟨b, off, e, h1⟩)
      exact ⟨v', w', k1, by simpa [haCells] using k2, k3, k5⟩
  have hrow2 : w2.ownsRow 0 THa 5 v' es.length (haCells es) := by rw [← hes.len]; exact hrow
  obtain ⟨a2, c2, rfl⟩ := rowE_shape hrow
  have HR := Lib.hid hrun
  have hfin : Becomes [] (rowE THa 5 (.slice a2 es.length c2) es.length (haCells es)) w w2 := by
    rw [← hes.len] at hrow2 ⊢
    refine ⟨_, ⟨hrow2, rfl⟩, (Tn.refl [] w).alloc _ |>.grown hgr (fun k hk => .inr ?_), fun k hk => .inr ?_⟩
    · have : k = w.heap.size := by simpa using hk.symm
      omega
    · have hk' := Option.mem_toList.1 hk
      rcases hlo with c | c
      · rw [c] at hk'
        have : k = w.heap.size := by simpa using hk'.symm
        omega
      · rw [c] at hk'
        have : k = (w.alloc (.cells #[] THa)).heap.size := by simpa using hk'.symm
        rw [this]; simp
  have HF := Lib.hid hfin
  clear hrow hrow2 hgr hlo hfin hown hrun hes hc hes2 hn
  go_enter Try.func19, Try.ntmps19
  go_wp2_with (at_builtin; refine ha_app rfl _ _ rfl rfl rfl HR.out ?_)
  go_ret
  exact ⟨_, _, rfl, HF.out⟩
theorem haAt_lit (W : World) (fs : List Ha) : HaAt (W.alloc (.cells (haCells fs).toArray THa)) W.heap.size 0 fs := fun i u hu => by
  rw [Nat.zero_add, cell_of_row _ W.heap.size i _ _ _ (heap_alloc_new W _), List.getElem?_toArray]
  exact hu
section
variable {w0 w W : World} {C : Ass}
/-- A literal row laid behind a row. -/
theorem ha_appLit {ops : Array Oper} {rest : List Oper} {o : Oper} {a : Act} {Q : Exit → Act → World → Prop} (hC : C.Good) (hgd : o.guard = Option.none) (s x : Operand)
    (ho : o.op = .call { callee := .builtin .append, args := #[s, x], argTypes := #[22, 22] }) (ao : Option Addr) (n cap : Nat) (es fs : List Ha) (k : Nat) (hs : a.eval s = .slice ao n cap) (hx : a.eval x = .slice (some ⟨W.heap.size, 0, Option.none⟩) k k) (hk : k = fs.length) {cs : Array Value} (hcs : cs = (haCells fs).toArray)
    (hS : At w0 ((rowE THa 5 (.slice ao n cap) es.length (haCells es)).star C) W) (hn : es.length + k ≤ 3518437208883) (h : ∀ a2 c2 w', At w0 ((rowE THa 5 (.slice a2 (n + k) c2) (es ++ fs).length (haCells (es ++ fs))).star C) w' → wpList Try.prog ops Q rest (a.put o.dst (.slice a2 (n + k) c2)) w') :
    wpList Try.prog ops Q (o :: rest) a (W.alloc (.cells cs 24)) := by
  subst hcs
  obtain ⟨v', w2, hrun, hrow, hgr, hnil, hlo⟩ := ha_runApp (es := fs) o.type es (hS.erow.alloc (.cells (haCells fs).toArray THa)) (some ⟨W.heap.size, 0, none⟩) k k hk hn (.inr ⟨_, _, rfl, haAt_lit W fs⟩)
  have hlen : n = es.length := by
    obtain ⟨a3, c3, e3⟩ := rowE_shape hS.erow
    simp at e3
    exact e3.2.1
  obtain ⟨a2, c2, rfl⟩ := rowE_shape hrow
  rw [← hlen] at hrun hrow hlo
  refine ha_app hgd s x ho hs hx hrun (h a2 c2 w2 ?_)
  have hg := (World.grownBy_alloc W (.cells (haCells fs).toArray THa) _).trans hgr
  refine hS.appendedE hC hg ?_ ?_
  · rw [haCells_app, List.length_append, ← hlen, ← hk]
    exact hrow
  · rcases hlo with c | c
    · exact .inl c
    · exact .inr ⟨_, by simp, c⟩
theorem ha_big {ao : Option Addr} {k cap : Nat} {es : List Ha} (h : At w0 ((rowE THa 5 (.slice ao k cap) es.length (haCells es)).star C) w) (hk : 1 ≤ es.length) : ∃ g, ao = some ⟨g, 0, none⟩ ∧ k = es.length ∧ k ≤ cap := by
  obtain ⟨_, ⟨F1, F2, rfl, ⟨h1, rfl⟩, _, _⟩, _⟩ := h
  rcases h1.2 with ⟨e, h0⟩ | ⟨g, c, cur, e, _, hg, hle, _⟩
  · omega
  · obtain ⟨rfl, rfl, rfl⟩ : ao = some ⟨g, 0, none⟩ ∧ k = es.length ∧ cap = c := by simpa using e
    exact ⟨g, rfl, rfl, hle⟩
/-- LendHalfs. -/
theorem ha_lend {ao : Option Addr} {n cap : Nat} {es : List Ha} (hes : HaIn [] w ao n es) (hc : ao = none → cap = 0) (hn : n ≤ 3518437208878) :
    Calls Try.prog 7 #[.slice ao n cap] w fun e w' => ∃ g c2, e = .returned (.slice (some ⟨g, 0, none⟩) n c2) ∧ n + 2 ≤ c2 ∧ Becomes [] ((rowE THa 5 (.slice (some ⟨g, 0, none⟩) (es ++ haMks).length c2) (es ++ haMks).length (haCells (es ++ haMks))).star emp) w w' := by
  have HC := Lib.hid (ha_copy (cap := cap) hes hc hn)
  have hlen := hes.len
  have HL := Lib.hid hlen
  have hel : es.length + 2 ≤ 3518437208883 := by omega
  clear hes hc hlen
  go_enter Try.func7, Try.ntmps7
  go_wp2_with (first
    | (go_at_call 19; (with_reducible refine HC.out.mono ?_); rintro e w1 ⟨a1, c1, rfl, hb⟩; have hS := At.add emp_good (At.none (Below.refl w.heap.size w)) hb; rw [← HL.out] at hS; clear hb; have hS2 : At w ((rowE THa 5 (.slice a1 n c1) es.length (haCells es)).star emp) w1 := by rw [← HL.out]; exact hS)
    | (at_builtin; refine ha_appLit emp_good rfl _ _ rfl a1 n c1 es haMks 2 rfl rfl rfl rfl hS2 hel ?_; intro a3 c3 w3 hS3; obtain ⟨g, rfl, -, hle⟩ := ha_big hS3 (by rw [List.length_append]; show 1 ≤ es.length + 2; omega); have hle2 : (n : Int) ≤ (c3 : Int) := by omega))
  go_ret
  refine ⟨g, c3, rfl, hle, ?_⟩
  have := ha_made hS3
  rw [show (es ++ haMks).length = n + 2 by rw [List.length_append, HL.out]; rfl]
  rw [show (es ++ haMks).length = n + 2 by rw [List.length_append, HL.out]; rfl] at this
  exact this
end
section
variable {w0 w : World} {C : Ass}
theorem haAt_row {g cap : Nat} {es : List Ha} {n : Nat} (h : At w0 ((rowE THa 5 (.slice (some ⟨g, 0, none⟩) n cap) es.length (haCells es)).star C) w) : HaAt w g 0 es ∧ g < w.heap.size := by
  have hr := h.erow
  refine ⟨fun i u hu => ?_, (hr.lt g (by simp [Value.ownBlock])).2⟩
  have := hr.cells (g := g) rfl i u hu
  rw [Addr.add_lit] at this
  exact this
theorem ha_mkAt (es : List Ha) : (es ++ haMks).getD es.length Ha.none = haMk ∧ (es ++ haMks).getD (es.length + 1) Ha.none = haMk := by
  constructor <;> simp [List.getD]
set_option maxRecDepth 100000 in
set_option maxHeartbeats 4000000 in
/-- KeptHalfs. -/
theorem ha_kept {g c2 cap : Nat} {ao : Option Addr} {es : List Ha} (hS : At w0 ((rowE THa 5 (.slice (some ⟨g, 0, none⟩) (es ++ haMks).length c2) (es ++ haMks).length (haCells (es ++ haMks))).star C) w) (hes : HaIn [] w ao es.length es) (hn : es.length ≤ 3518437208878) (hc2 : es.length + 2 ≤ c2) :
    Calls Try.prog 17 #[.slice (some ⟨g, 0, none⟩) es.length c2, .slice ao es.length cap] w fun e w' => e = .returned (.bool true) ∧ Below w.heap.size w w' := by
  obtain ⟨hat, hg⟩ := haAt_row hS
  have hpre : HaIn [] w (some ⟨g, 0, none⟩) es.length es := ⟨rfl, .inr ⟨g, 0, rfl, fun i u hu => hat i u (by
    rw [haCells_app, List.getElem?_append_left (by rcases Nat.lt_or_ge i (haCells es).length with c | c; exact c; rw [List.getElem?_eq_none c] at hu; cases hu)]
    exact hu), by simp, hg⟩, by omega⟩
  have HSm := Lib.hid ((ha_same (c1 := c2) (c2 := cap) hpre hes).mono (R' := fun e w' => e = .returned (.bool true) ∧ Below w.heap.size w w') fun e w' ⟨a, b⟩ => ⟨by rw [a]; simp, b⟩)
  have HE := Lib.hid (fun W (hb : Below w.heap.size w W) => And.intro ((hat.same (hb.block g hg)).elem (j := es.length) (by rw [List.length_append]; show es.length < es.length + 2; omega)) ((hat.same (hb.block g hg)).elem (j := es.length + 1) (by rw [List.length_append]; show es.length + 1 < es.length + 2; omega)))
  rw [(ha_mkAt es).1, (ha_mkAt es).2] at HE
  clear hS hes hat hg hpre
  have hw2 : IntKind.i64.wrap ((es.length : Int) + 2) = (es.length : Int) + 2 := by rw [IntKind.wrap_i64]; omega
  have hw1 : IntKind.i64.wrap ((es.length : Int) + 1) = (es.length : Int) + 1 := by rw [IntKind.wrap_i64]; omega
  have hl2 : (es.length : Int) + 2 ≤ (c2 : Int) := by omega
  generalize es.length = n at *
  go_enter Try.func17, Try.ntmps17
  go_wp2_with (go_at_call 13; (with_reducible refine HSm.out.mono ?_); rintro e w1 ⟨rfl, hb⟩; obtain ⟨⟨a0, a1, a2, a3, a4⟩, ⟨z0, z1, z2, z3, z4⟩⟩ := HE.out _ hb; simp only [Nat.zero_add] at a0 a1 a2 a3 a4 z0 z1 z2 z3 z4)
  go_ret
  exact ⟨rfl, hb⟩
/-- A row's block, known whole. -/
theorem At.haWhole {g cap n : Nat} {es : List Ha} (h : At w0 ((rowE THa 5 (.slice (some ⟨g, 0, Option.none⟩) n cap) es.length (haCells es)).star C) w) : ∃ cur : Array Value, (∀ j, j < es.length → ∃ z, cur[j * 5 + 4]? = some (.int .i64 z)) ∧ At w0 ((ownA g cur THa).star C) w := by
  obtain ⟨F, ⟨F1, F2, rfl, ⟨h1, rfl⟩, g2, g3⟩, hB, hb⟩ := h
  rcases h1.2 with ⟨e, _⟩ | ⟨g', c, cur, e, _, hg, hle, _, hsz, htk⟩
  · simp at e
  · obtain ⟨rfl, rfl, rfl⟩ : g = g' ∧ n = es.length ∧ cap = c := by simpa using e
    refine ⟨cur, fun j hj => ?_, [g] ++ F2, ⟨[g], F2, rfl, ⟨hg, rfl⟩, g2, fun k hk => g3 k (by simpa [Value.ownBlock] using hk)⟩, fun k hk => hB k (by simpa [Value.ownBlock] using hk), hb⟩
    have hc := haCells_at es hj (i := 4) (by decide)
    rw [← htk, List.getElem?_take_of_lt (by omega)] at hc
    exact ⟨_, by rw [← Array.getElem?_toList]; exact hc⟩
set_option maxHeartbeats 4000000 in
/-- SpoilHalfs. -/
theorem ha_spoil (hC : C.Good) {ao : Option Addr} {n cap : Nat} {es : List Ha} (h : At w0 ((rowE THa 5 (.slice ao n cap) es.length (haCells es)).star C) w) (hn : es.length ≤ 3518437208883) :
    Calls Try.prog 16 #[.slice ao n cap] w fun e w' => e = .returned (.tuple #[]) ∧ At w0 C w' := by
  obtain ⟨a3, c3, e3⟩ := rowE_shape h.erow
  obtain ⟨rfl, rfl, rfl⟩ : ao = a3 ∧ n = es.length ∧ cap = c3 := by simpa using e3
  clear e3
  by_cases h0 : es.length = 0
  · have hS := h.drop
    rw [h0]
    clear h
    go_enter Try.func16, Try.ntmps16
    go_wp2
    go_loopw [2] (fun x wr => x = .int .i64 0 ∧ At w0 C wr) (fun _ _ => 0)
    case atStart => exact ⟨rfl, hS⟩
    case round =>
      clear hS
      obtain ⟨rfl, hS⟩ := hrel
      go_wp2
      refine Great.bodyPost_end0 rfl rfl ?_
      exact ⟨rfl, hS⟩
  · obtain ⟨g, rfl, -, -⟩ := ha_big h (by omega)
    obtain ⟨cur, hcur, hS⟩ := h.haWhole
    clear h
    generalize es.length = m at *
    go_enter Try.func16, Try.ntmps16
    go_wp2
    go_loopw [2] (fun x wr => ∃ (k : Nat) (cur : Array Value), k ≤ m ∧ x = .int .i64 (k : Int) ∧ (∀ j, j < m → ∃ z, cur[j * 5 + 4]? = some (.int .i64 z)) ∧ At w0 ((ownA g cur THa).star C) wr) (fun x _ => m - (intOf x).toNat)
    case atStart => exact ⟨0, cur, Nat.zero_le _, rfl, hcur, hS⟩
    case round =>
      clear hS hcur
      obtain ⟨k, cur, hkm, rfl, hcur, hS⟩ := hrel
      by_cases hlt : k < m
      · have hltI : (k : Int) < (m : Int) := by omega
        obtain ⟨z, hz⟩ := hcur k hlt
        obtain ⟨o1, o2, o3⟩ := hS.own
        have c7 : wr.cell? ⟨g, k * 5 + 4, none⟩ = some (.int .i64 z) := (o1 _).trans hz
        have f7 := o2 (k * 5 + 4)
        obtain ⟨y, hy⟩ : ∃ y, bits .xor .i64 z 90 = y := ⟨_, rfl⟩
        have hP := hS.poke hC (k * 5 + 4) (.int .i64 y)
        have HP := Lib.hid hP
        have HN := Lib.hid (show ∀ j, j < m → ∃ z, (cur.setIfInBounds (k * 5 + 4) (.int .i64 y))[j * 5 + 4]? = some (.int .i64 z) from fun j hj => by
          by_cases c : j = k
          · subst c
            have hlt2 : j * 5 + 4 < cur.size := (Array.getElem?_eq_some_iff.1 hz).1
            exact ⟨y, by rw [Array.getElem?_setIfInBounds, if_pos rfl, if_pos hlt2]⟩
          · rw [Array.getElem?_setIfInBounds, if_neg (by omega)]
            exact hcur j hj)
        clear hP hS o1 o2 o3 hcur hz
        go_wp2
        go_round
        case rel => exact ⟨k + 1, _, by omega, by go_num, HN.out, HP.out⟩
        case measure => simp [intOf]; omega
      · obtain rfl : k = m := by omega
        have hltI : ¬ (k : Int) < (k : Int) := by omega
        have hD := hS.drop
        clear hS hcur
        go_wp2
        refine Great.bodyPost_end0 rfl rfl ?_
        exact ⟨rfl, hD⟩
end
end Go.Proofs.Ytikdnmbbiipbjaa
