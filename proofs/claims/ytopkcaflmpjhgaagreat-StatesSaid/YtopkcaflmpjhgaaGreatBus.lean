
/- Put together: Usrow, Usrow2. Conditions: each theorem's own. -/
import Derived.Test.YtopkcaflmpjhgaaGreatBpl
import Derived.Test.YtopkcaflmpjhgaaGreatBsp
import Derived.Test.YtopkcaflmpjhgaaGreatProg
import Derived.WalkSpells
import Derived.WalkLawsBesides
import Derived.Lib.Hide
import Derived.Maps.AppendAt
import Derived.Great.Walk
import Derived.OwnWalk
import Derived.IntWalk
import Derived.Deep.QuietTactic
import Derived.Laws.OwnMore
import Derived.Deep.MidRow
namespace Go.Proofs.YtopkcaflmpjhgaaGreat
open Go Go.RowKit

abbrev TUs : TypeId := 63
theorem us_info : (Tryz.prog.info? TUs).map (fun i => (i.zero, i.size, i.bytes)) = some (some (.agg #[.int .i64 0, .int .i64 0, .int .i64 0, .int .i64 0, .int .i64 0, .int .i64 0, .int .i64 0, .int .i64 0, .int .i64 0]), 9, 72) := by kernel_rfl
def Us.cs (e : Us) : List Value := [.int .i64 e.u, .int .i64 e.k, .int .i64 e.s, .int .i64 e.q, .int .i64 e.used, .int .i64 e.lf, .int .i64 e.lu, .int .i64 e.st, .int .i64 e.g]
theorem Us.cs_len (e : Us) : e.cs.length = 9 := rfl
/-- The cells of a row. -/
def usCells : List Us → List Value
  | [] => []
  | e :: es => e.cs ++ usCells es
theorem usCells_len (es : List Us) : (usCells es).length = es.length * 9 := by
  induction es with
  | nil => rfl
  | cons e es ih => rw [usCells, List.length_append, ih, Us.cs_len, List.length_cons]; omega
theorem usCells_app (es fs : List Us) : usCells (es ++ fs) = usCells es ++ usCells fs := by
  induction es with
  | nil => rfl
  | cons e es ih => rw [List.cons_append, usCells, ih, usCells, List.append_assoc]
theorem usCells_at (es : List Us) {j : Nat} (hj : j < es.length) {i : Nat} (hi : i < 9) : (usCells es)[j * 9 + i]? = (es.getD j Us.none).cs[i]? := by
  induction es generalizing j with
  | nil => cases hj
  | cons e es ih =>
    rw [usCells]
    cases j with
    | zero => rw [Nat.zero_mul, Nat.zero_add, List.getElem?_append_left (by rw [Us.cs_len]; exact hi)]; rfl
    | succ j =>
      rw [List.getElem?_append_right (by rw [Us.cs_len]; omega), Us.cs_len, show (j + 1) * 9 + i - 9 = j * 9 + i by omega, ih (by simpa using hj)]
      rfl
theorem usCells_one (es : List Us) : ∀ u ∈ usCells es, u.oneCell' = true := by
  induction es with
  | nil => intro u hu; cases hu
  | cons e es ih =>
    intro u hu
    rw [usCells] at hu
    rcases List.mem_append.1 hu with h | h
    · simp [Us.cs] at h; rcases h with rfl | rfl | rfl | rfl | rfl | rfl | rfl | rfl | rfl <;> rfl
    · exact ih u h
/-- A row that somebody has, at off of block b. -/
def UsAt (w : World) (b off : Nat) (es : List Us) : Prop := ∀ i u, (usCells es)[i]? = some u → w.cell? ⟨b, off + i, none⟩ = some u
theorem UsAt.elem {w : World} {b off : Nat} {es : List Us} (h : UsAt w b off es) {j : Nat} (hj : j < es.length) : w.cell? ⟨b, off + j * 9, none⟩ = some (.int .i64 (es.getD j Us.none).u) ∧ w.cell? ⟨b, off + j * 9 + 1, none⟩ = some (.int .i64 (es.getD j Us.none).k) ∧ w.cell? ⟨b, off + j * 9 + 2, none⟩ = some (.int .i64 (es.getD j Us.none).s) ∧ w.cell? ⟨b, off + j * 9 + 3, none⟩ = some (.int .i64 (es.getD j Us.none).q) ∧ w.cell? ⟨b, off + j * 9 + 4, none⟩ = some (.int .i64 (es.getD j Us.none).used) ∧ w.cell? ⟨b, off + j * 9 + 5, none⟩ = some (.int .i64 (es.getD j Us.none).lf) ∧ w.cell? ⟨b, off + j * 9 + 6, none⟩ = some (.int .i64 (es.getD j Us.none).lu) ∧ w.cell? ⟨b, off + j * 9 + 7, none⟩ = some (.int .i64 (es.getD j Us.none).st) ∧ w.cell? ⟨b, off + j * 9 + 8, none⟩ = some (.int .i64 (es.getD j Us.none).g) := by
  have key : ∀ i, i < 9 → w.cell? ⟨b, off + j * 9 + i, none⟩ = (es.getD j Us.none).cs[i]? := fun i hi => by
    have hx : ∃ u, (es.getD j Us.none).cs[i]? = some u := ⟨_, List.getElem?_eq_getElem (by rw [Us.cs_len]; exact hi)⟩
    obtain ⟨u, hu⟩ := hx
    rw [hu, Nat.add_assoc]
    exact h _ u (by rw [usCells_at es hj hi]; exact hu)
  exact ⟨key 0 (by decide), key 1 (by decide), key 2 (by decide), key 3 (by decide), key 4 (by decide), key 5 (by decide), key 6 (by decide), key 7 (by decide), key 8 (by decide)⟩
theorem UsAt.same {w w' : World} {b off : Nat} {es : List Us} (h : UsAt w b off es) (hb : w'.heap[b]? = w.heap[b]?) : UsAt w' b off es := fun i u hu => (World.cell?_of_block (a := ⟨b, off + i, none⟩) hb).trans (h i u hu)
/-- A row that a call is given: none, or in a block that is not among F. -/
structure UsIn (F : List Nat) (w : World) (ao : Option Addr) (n : Nat) (es : List Us) : Prop where
  len : n = es.length
  row : n = 0 ∨ ∃ b off, ao = some ⟨b, off, none⟩ ∧ UsAt w b off es ∧ b ∉ F ∧ b < w.heap.size
  few : n ≤ 140737488355328
theorem UsIn.tn {F : List Nat} {w W : World} {ao : Option Addr} {n : Nat} {es : List Us} (h : UsIn F w ao n es) (ht : Tn F w W) : UsIn F W ao n es := by
  refine ⟨h.len, ?_, h.few⟩
  rcases h.row with c | ⟨b, off, e, h1, h2, h3⟩
  · exact .inl c
  · exact .inr ⟨b, off, e, h1.same (ht.block b h3 h2), h2, Nat.lt_of_lt_of_le h3 ht.size⟩
theorem us_exapp {P : Program} {a : Act} {w w' : World} {op : Oper} (x y : Operand) (t : TypeId) (ho : op.op = .call { callee := .builtin .append, args := #[x, y], argTypes := #[t, t] }) {v u v' : Value} (hx : a.eval x = v) (hy : a.eval y = u) (hr : (Builtin.append_ #[t, t] op.type #[v, u]).run P w = .ok v' w') :
    (execOp a.eval op).run P w = .ok (.value v') w' := by
  unfold execOp
  simp only [ho, resolve, invoke, builtin, Sem.run_bind, Sem.run_pure, Result.andThen_ok, List.map_toArray, List.map_cons, List.map_nil, hx, hy, hr]
theorem us_made {A : Ass} {w w' : World} (h : At w A w') : Becomes [] A w w' := by
  obtain ⟨F, h1, h2, h3⟩ := h
  exact ⟨F, h1, Tn.ofBelow h3 [], fun k hk => .inr (h2 k hk)⟩
theorem us_app {W w' : World} {ops : Array Oper} {rest : List Oper} {o : Oper} {a : Act} {Q : Exit → Act → World → Prop} {v u v' : Value} (hgd : o.guard = Option.none) (s x : Operand)
    (ho : o.op = .call { callee := .builtin .append, args := #[s, x], argTypes := #[24, 24] }) (hs : a.eval s = v) (hx : a.eval x = u) (hr : (Builtin.append_ #[24, 24] o.type #[v, u]).run Tryz.prog W = .ok v' w') (h : wpList Tryz.prog ops Q rest (a.put o.dst v') w') :
    wpList Tryz.prog ops Q (o :: rest) a W := Great.wpList_runTo hgd o.dst rfl _ _ (us_exapp s x 24 ho hs hx hr) h
abbrev usse0 : Oper := { dst := some 17, op := Op.move (Operand.tmp 0), type := 24, pos := "memory.go:154", after := #[], guard := none }
abbrev usse1 : Oper := { dst := some 18, op := Op.move (Operand.tmp 5), type := 3, pos := "memory.go:154", after := #[], guard := none }
abbrev usse2 : Oper := { dst := some 19, op := Op.indexAddr 24 (Operand.tmp 17) (Operand.tmp 18), type := 0, pos := "memory.go:154", after := #[{ on := 0, ground := Ground.data }, { on := 1, ground := Ground.data }], guard := none }
abbrev usse3 : Oper := { dst := some 20, op := Op.load 63 (Operand.tmp 19), type := 63, pos := "memory.go:154", after := #[{ on := 2, ground := Ground.data }], guard := none }
abbrev usse4 : Oper := { dst := some 21, op := Op.move (Operand.tmp 1), type := 24, pos := "memory.go:154", after := #[], guard := none }
abbrev usse5 : Oper := { dst := some 22, op := Op.move (Operand.tmp 5), type := 3, pos := "memory.go:154", after := #[], guard := none }
abbrev usse6 : Oper := { dst := some 23, op := Op.indexAddr 24 (Operand.tmp 21) (Operand.tmp 22), type := 0, pos := "memory.go:154", after := #[{ on := 4, ground := Ground.data }, { on := 5, ground := Ground.data }], guard := none }
abbrev usse7 : Oper := { dst := some 24, op := Op.load 63 (Operand.tmp 23), type := 63, pos := "memory.go:154", after := #[{ on := 6, ground := Ground.data }], guard := none }
abbrev usse8 : Oper := { dst := some 25, op := Op.binOp BinOp.neq 63 (Operand.tmp 20) (Operand.tmp 24) 63, type := 4, pos := "memory.go:154", after := #[{ on := 3, ground := Ground.data }, { on := 7, ground := Ground.data }], guard := none }
theorem us_neq {a : Act} {w : World} {op : Oper} (p q : Operand) (ho : op.op = .binOp .neq 63 p q 63) (x y : Us) (hp : a.eval p = .agg #[.int .i64 x.u, .int .i64 x.k, .int .i64 x.s, .int .i64 x.q, .int .i64 x.used, .int .i64 x.lf, .int .i64 x.lu, .int .i64 x.st, .int .i64 x.g]) (hq : a.eval q = .agg #[.int .i64 y.u, .int .i64 y.k, .int .i64 y.s, .int .i64 y.q, .int .i64 y.used, .int .i64 y.lf, .int .i64 y.lu, .int .i64 y.st, .int .i64 y.g]) : (execOp a.eval op).run Tryz.prog w = .ok (.value (.bool (!decide (x = y)))) w := by
  unfold execOp
  simp only [ho, hp, hq, Sem.run_bind]
  by_cases h : x = y
  · subst h
    go_simp
  · have hd : decide (x = y) = false := decide_eq_false h
    rw [hd]
    by_cases q0 : x.u = y.u
    · by_cases q1 : x.k = y.k
      · by_cases q2 : x.s = y.s
        · by_cases q3 : x.q = y.q
          · by_cases q4 : x.used = y.used
            · by_cases q5 : x.lf = y.lf
              · by_cases q6 : x.lu = y.lu
                · by_cases q7 : x.st = y.st
                  · by_cases q8 : x.g = y.g
                    · exact absurd (show x = y from by obtain ⟨_, _, _, _, _, _, _, _, _⟩ := x; obtain ⟨_, _, _, _, _, _, _, _, _⟩ := y; simp only [Us.mk.injEq]; exact ⟨q0, q1, q2, q3, q4, q5, q6, q7, q8⟩) h
                    · go_simp
                  · go_simp
                · go_simp
              · go_simp
            · go_simp
          · go_simp
        · go_simp
      · go_simp
    · go_simp
/-- Two rows. -/
def usSame (n : Nat) (es fs : List Us) : Prop := ∀ i, i < n → es.getD i Us.none = fs.getD i Us.none
theorem usSame_eq {es fs : List Us} (h1 : es.length = fs.length) (h : usSame es.length es fs) : es = fs := by
  apply List.ext_getElem h1
  intro i a b
  have := h i a
  simpa [List.getD, a, b] using this
theorem us_bel {w W W' : World} (hb : Below w.heap.size w W) (h : Below W.heap.size W W') : Below w.heap.size w W' := hb.trans (h.mono hb.size)
theorem us_drew (w : World) : Below w.heap.size w w.drew := ⟨rfl, rfl, rfl, Nat.le_refl _, fun _ _ => rfl⟩
set_option maxRecDepth 100000 in
set_option maxHeartbeats 4000000 in
/-- Same. -/
theorem us_same {w : World} {ao bo : Option Addr} {n m c1 c2 : Nat} {es fs : List Us} (h1 : UsIn [] w ao n es) (h2 : UsIn [] w bo m fs) :
    Calls Tryz.prog 21 #[.slice ao n c1, .slice bo m c2] w fun e w' => e = .returned (.bool (decide (es = fs))) ∧ Below w.heap.size w w' := by
  obtain ⟨l1, r1, f1⟩ := h1
  obtain ⟨l2, r2, f2⟩ := h2
  by_cases hl : n = m
  · subst hl
    have HL := Lib.hid (And.intro l1 l2)
    have HR1 := Lib.hid r1
    have HR2 := Lib.hid r2
    clear l1 l2 r1 r2
    have hb0 := Below.refl w.heap.size w
    go_enter Tryz.func21, Tryz.ntmps21
    go_wp2
    go_loopw [5] (fun x wr => ∃ k : Nat, k ≤ n ∧ x = .int .i64 (k : Int) ∧ usSame k es fs ∧ Below w.heap.size w wr) (fun x _ => n - (intOf x).toNat)
    case atStart => exact ⟨0, Nat.zero_le _, rfl, (fun i hi => by omega), hb0⟩
    case round =>
      clear hb0
      obtain ⟨k, hkn, rfl, hp, hbl⟩ := hrel
      by_cases hlt : k < n
      · obtain ⟨b1, o1, rfl, e1, _, g1⟩ : ∃ b off, ao = some ⟨b, off, none⟩ ∧ UsAt w b off es ∧ b ∉ ([] : List Nat) ∧ b < w.heap.size := by
          rcases HR1.out with c | c
          · omega
          · exact c
        obtain ⟨b2, o2, rfl, e2, _, g2⟩ : ∃ b off, bo = some ⟨b, off, none⟩ ∧ UsAt w b off fs ∧ b ∉ ([] : List Nat) ∧ b < w.heap.size := by
          rcases HR2.out with c | c
          · omega
          · exact c
        have H1 := Lib.hid (fun W (hb : Below w.heap.size w W) => (e1.same (hb.block b1 g1)).elem (j := k) (by rw [← HL.out.1]; exact hlt))
        have H2 := Lib.hid (fun W (hb : Below w.heap.size w W) => (e2.same (hb.block b2 g2)).elem (j := k) (by rw [← HL.out.2]; exact hlt))
        obtain ⟨x, hx⟩ : ∃ x, es.getD k Us.none = x := ⟨_, rfl⟩
        obtain ⟨y, hy⟩ : ∃ y, fs.getD k Us.none = y := ⟨_, rfl⟩
        have HX := Lib.hid (And.intro hx hy)
        rw [hx] at H1
        rw [hy] at H2
        have HP := Lib.hid hp
        clear hx hy hp e1 e2
        go_wp2
        refine region_held (S := fun Z8 => Below w.heap.size w Z8) 9 [false, false, false, false, false, false, false, false, false] rfl rfl (by kernel_rfl) fun V0 hW => ?_
        have hV : Below w.heap.size w V0 := by rw [hW]; exact us_bel hbl (us_drew wr)
        clear hW hbl
        refine run_go [(0, usse0, (some 17)), (1, usse1, (some 18)), (2, usse2, (some 19)), (3, usse3, (some 20)), (4, usse4, (some 21)), (5, usse5, (some 22)), (6, usse6, (some 23)), (7, usse7, (some 24))] (by kernel_rfl) ?_
        iterate 8 (refine run_take ?_ rfl rfl (fun _ _ _ h => h) (Or.inl ⟨by rfl, ?_⟩) hV ?_; rotate_left; (· (intro w0 hy0; obtain ⟨a0, a1, a2, a3, a4, a5, a6, a7, a8⟩ := H1.out _ hy0; obtain ⟨z0, z1, z2, z3, z4, z5, z6, z7, z8⟩ := H2.out _ hy0; (go_simp <;> with_reducible rfl))); simp only [Act.put, List.setIfInBounds_toArray, List.set_cons_zero, List.set_cons_succ])
        refine run_end ?_
        refine held_take 8 usse8 (some 25) (.bool (!decide (x = y))) rfl rfl (by kernel_rfl) (by kernel_rfl) (by kernel_rfl) (fun _ _ _ h => h) (Or.inl ⟨by rfl, fun w0 hy0 => us_neq (.tmp 20) (.tmp 24) rfl x y rfl rfl⟩) hV ?_
        simp only [Act.put, List.setIfInBounds_toArray, List.set_cons_zero, List.set_cons_succ]
        refine wpAnyH_done (by kernel_rfl) ?_ _
        by_cases hxy : x = y
        · have hd : (!decide (x = y)) = false := by simp [hxy]
          rw [hd]
          have HXY := Lib.hid hxy
          clear hxy hd
          go_wp2
          go_round
          case rel =>
            refine ⟨k + 1, by omega, by go_num, fun i hi => ?_, hV⟩
            by_cases c : i < k
            · exact HP.out i c
            · obtain rfl : i = k := by omega
              rw [HX.out.1, HX.out.2]; exact HXY.out
          case measure => simp [intOf]; omega
        · have hd : (!decide (x = y)) = true := by simp [hxy]
          rw [hd]
          have HXY := Lib.hid hxy
          clear hxy hd
          go_wp2
          go_ret
          have hne : decide (es = fs) = false := decide_eq_false fun c => HXY.out (by rw [← HX.out.1, ← HX.out.2, c])
          rw [hne]
          exact ⟨rfl, hV⟩
      · have HQ := Lib.hid (show es = fs from by
          obtain ⟨q1, q2⟩ := HL.out
          have hk : k = n := by omega
          refine usSame_eq (by omega) ?_
          rw [← q1, ← hk]
          exact hp)
        clear hp
        go_wp2
        go_ret
        have he : decide (es = fs) = true := decide_eq_true HQ.out
        rw [he]
        exact ⟨rfl, hbl⟩
  · have hne : decide (es = fs) = false := decide_eq_false fun c => hl (by rw [l1, l2, c])
    rw [hne]
    have hd : ((n : Int) != (m : Int)) = true := by simp; omega
    clear l1 l2 r1 r2 hne
    go_enter Tryz.func21, Tryz.ntmps21
    go_wp2
    go_ret
    exact ⟨rfl, Below.refl _ _⟩
/-- The mark behind what is lent. -/
abbrev usMk : Us := ⟨0, 0, 0, 0, 77777, 0, 0, 0, 0⟩
abbrev usMks : List Us := [usMk, usMk]
theorem us_runApp {w : World} {v : Value} {es : List Us} (ty : TypeId) (all : List Us) (hown : w.ownsRow 0 TUs 9 v all.length (usCells all)) (ao : Option Addr) (k c : Nat) (hk : k = es.length) (hf : all.length + k ≤ 1954687338268) (hc : (ao = none ∧ k = 0 ∧ c = 0) ∨ ∃ b off, ao = some ⟨b, off, none⟩ ∧ UsAt w b off es) :
    ∃ v' w', (Builtin.append_ #[24, 24] ty #[v, .slice ao k c]).run Tryz.prog w = .ok v' w' ∧ w'.ownsRow 0 TUs 9 v' (all.length + k) (usCells all ++ usCells es) ∧ w.grownBy w' v.ownBlock ∧ (v' = .slice none 0 0 ↔ v = .slice none 0 0 ∧ k = 0) ∧ (v'.ownBlock = v.ownBlock ∨ v'.ownBlock = some w.heap.size) := by
  obtain ⟨i, hi, hz0, hz1, hz2⟩ := info_parts us_info
  rcases hc with ⟨rfl, rfl, rfl⟩ | ⟨b, off, rfl, he⟩
  · have hes : es = [] := List.length_eq_zero_iff.1 hk.symm
    subst hes
    refine ⟨v, w, run_append_owned_none (P := Tryz.prog) (w := w) 0 24 ty TUs i 9 Tryz.underlying24 hi v _ _ hown, ?_, World.grownBy.refl _ _, by simp, .inl rfl⟩
    simpa [usCells] using hown
  · exact run_append_own_at (P := Tryz.prog) w 0 24 ty TUs i _ 9 72 Tryz.underlying24 hi hz0 hz1 hz2 rfl (by decide) v all.length (usCells all) hown ⟨b, off, none⟩ k c (usCells es) (by rw [usCells_len, hk]) (fun j u hj => by rw [Addr.add_lit]; exact he j u hj) (usCells_one es) (by unfold maxLen; omega) (by omega) (Nat.zero_le _)
theorem usAt_lit (W : World) (fs : List Us) : UsAt (W.alloc (.cells (usCells fs).toArray TUs)) W.heap.size 0 fs := fun i u hu => by
  rw [Nat.zero_add, cell_of_row _ W.heap.size i _ _ _ (heap_alloc_new W _), List.getElem?_toArray]
  exact hu
section
variable {w0 w W : World} {C : Ass}
/-- A literal row laid behind a row. -/
theorem us_appLit {ops : Array Oper} {rest : List Oper} {o : Oper} {a : Act} {Q : Exit → Act → World → Prop} (hC : C.Good) (hgd : o.guard = Option.none) (s x : Operand)
    (ho : o.op = .call { callee := .builtin .append, args := #[s, x], argTypes := #[24, 24] }) (ao : Option Addr) (n cap : Nat) (es fs : List Us) (k : Nat) (hs : a.eval s = .slice ao n cap) (hx : a.eval x = .slice (some ⟨W.heap.size, 0, Option.none⟩) k k) (hk : k = fs.length) {cs : Array Value} (hcs : cs = (usCells fs).toArray)
    (hS : At w0 ((rowE TUs 9 (.slice ao n cap) es.length (usCells es)).star C) W) (hn : es.length + k ≤ 1954687338268) (h : ∀ a2 c2 w', At w0 ((rowE TUs 9 (.slice a2 (n + k) c2) (es ++ fs).length (usCells (es ++ fs))).star C) w' → wpList Tryz.prog ops Q rest (a.put o.dst (.slice a2 (n + k) c2)) w') :
    wpList Tryz.prog ops Q (o :: rest) a (W.alloc (.cells cs 63)) := by
  subst hcs
  obtain ⟨v', w2, hrun, hrow, hgr, hnil, hlo⟩ := us_runApp (es := fs) o.type es (hS.erow.alloc (.cells (usCells fs).toArray TUs)) (some ⟨W.heap.size, 0, none⟩) k k hk hn (.inr ⟨_, _, rfl, usAt_lit W fs⟩)
  have hlen : n = es.length := by
    obtain ⟨a3, c3, e3⟩ := rowE_shape hS.erow
    simp at e3
    exact e3.2.1
  obtain ⟨a2, c2, rfl⟩ := rowE_shape hrow
  rw [← hlen] at hrun hrow hlo
  refine us_app hgd s x ho hs hx hrun (h a2 c2 w2 ?_)
  have hg := (World.grownBy_alloc W (.cells (usCells fs).toArray TUs) _).trans hgr
  refine hS.appendedE hC hg ?_ ?_
  · rw [usCells_app, List.length_append, ← hlen, ← hk]
    exact hrow
  · rcases hlo with c | c
    · exact .inl c
    · exact .inr ⟨_, by simp, c⟩
theorem us_big {ao : Option Addr} {k cap : Nat} {es : List Us} (h : At w0 ((rowE TUs 9 (.slice ao k cap) es.length (usCells es)).star C) w) (hk : 1 ≤ es.length) : ∃ g, ao = some ⟨g, 0, none⟩ ∧ k = es.length ∧ k ≤ cap := by
  obtain ⟨_, ⟨F1, F2, rfl, ⟨h1, rfl⟩, _, _⟩, _⟩ := h
  rcases h1.2 with ⟨e, h0⟩ | ⟨g, c, cur, e, _, hg, hle, _⟩
  · omega
  · obtain ⟨rfl, rfl, rfl⟩ : ao = some ⟨g, 0, none⟩ ∧ k = es.length ∧ cap = c := by simpa using e
    exact ⟨g, rfl, rfl, hle⟩
end
section
variable {w0 w : World} {C : Ass}
theorem usAt_row {g cap : Nat} {es : List Us} {n : Nat} (h : At w0 ((rowE TUs 9 (.slice (some ⟨g, 0, none⟩) n cap) es.length (usCells es)).star C) w) : UsAt w g 0 es ∧ g < w.heap.size := by
  have hr := h.erow
  refine ⟨fun i u hu => ?_, (hr.lt g (by simp [Value.ownBlock])).2⟩
  have := hr.cells (g := g) rfl i u hu
  rw [Addr.add_lit] at this
  exact this
theorem us_mkAt (es : List Us) : (es ++ usMks).getD es.length Us.none = usMk ∧ (es ++ usMks).getD (es.length + 1) Us.none = usMk := by
  constructor <;> simp [List.getD]
/-- A row's block, known whole. -/
theorem At.usWhole {g cap n : Nat} {es : List Us} (h : At w0 ((rowE TUs 9 (.slice (some ⟨g, 0, Option.none⟩) n cap) es.length (usCells es)).star C) w) : ∃ cur : Array Value, (∀ j, j < es.length → ∃ z, cur[j * 9 + 4]? = some (.int .i64 z)) ∧ At w0 ((ownA g cur TUs).star C) w := by
  obtain ⟨F, ⟨F1, F2, rfl, ⟨h1, rfl⟩, g2, g3⟩, hB, hb⟩ := h
  rcases h1.2 with ⟨e, _⟩ | ⟨g', c, cur, e, _, hg, hle, _, hsz, htk⟩
  · simp at e
  · obtain ⟨rfl, rfl, rfl⟩ : g = g' ∧ n = es.length ∧ cap = c := by simpa using e
    refine ⟨cur, fun j hj => ?_, [g] ++ F2, ⟨[g], F2, rfl, ⟨hg, rfl⟩, g2, fun k hk => g3 k (by simpa [Value.ownBlock] using hk)⟩, fun k hk => hB k (by simpa [Value.ownBlock] using hk), hb⟩
    have hc := usCells_at es hj (i := 4) (by decide)
    rw [← htk, List.getElem?_take_of_lt (by omega)] at hc
    exact ⟨_, by rw [← Array.getElem?_toList]; exact hc⟩
set_option maxHeartbeats 4000000 in
/-- SpoilUsers. -/
theorem us_spoil (hC : C.Good) {ao : Option Addr} {n cap : Nat} {es : List Us} (h : At w0 ((rowE TUs 9 (.slice ao n cap) es.length (usCells es)).star C) w) (hn : es.length ≤ 1954687338268) :
    Calls Tryz.prog 34 #[.slice ao n cap] w fun e w' => e = .returned (.tuple #[]) ∧ At w0 C w' := by
  obtain ⟨a3, c3, e3⟩ := rowE_shape h.erow
  obtain ⟨rfl, rfl, rfl⟩ : ao = a3 ∧ n = es.length ∧ cap = c3 := by simpa using e3
  clear e3
  by_cases h0 : es.length = 0
  · have hS := h.drop
    rw [h0]
    clear h
    go_enter Tryz.func34, Tryz.ntmps34
    go_wp2
    go_loopw [2] (fun x wr => x = .int .i64 0 ∧ At w0 C wr) (fun _ _ => 0)
    case atStart => exact ⟨rfl, hS⟩
    case round =>
      clear hS
      obtain ⟨rfl, hS⟩ := hrel
      go_wp2
      refine Great.bodyPost_end0 rfl rfl ?_
      exact ⟨rfl, hS⟩
  · obtain ⟨g, rfl, -, -⟩ := us_big h (by omega)
    obtain ⟨cur, hcur, hS⟩ := h.usWhole
    clear h
    generalize es.length = m at *
    go_enter Tryz.func34, Tryz.ntmps34
    go_wp2
    go_loopw [2] (fun x wr => ∃ (k : Nat) (cur : Array Value), k ≤ m ∧ x = .int .i64 (k : Int) ∧ (∀ j, j < m → ∃ z, cur[j * 9 + 4]? = some (.int .i64 z)) ∧ At w0 ((ownA g cur TUs).star C) wr) (fun x _ => m - (intOf x).toNat)
    case atStart => exact ⟨0, cur, Nat.zero_le _, rfl, hcur, hS⟩
    case round =>
      clear hS hcur
      obtain ⟨k, cur, hkm, rfl, hcur, hS⟩ := hrel
      by_cases hlt : k < m
      · have hltI : (k : Int) < (m : Int) := by omega
        obtain ⟨z, hz⟩ := hcur k hlt
        obtain ⟨o1, o2, o3⟩ := hS.own
        have c7 : wr.cell? ⟨g, k * 9 + 4, none⟩ = some (.int .i64 z) := (o1 _).trans hz
        have f7 := o2 (k * 9 + 4)
        obtain ⟨y, hy⟩ : ∃ y, bits .xor .i64 z 90 = y := ⟨_, rfl⟩
        have hP := hS.poke hC (k * 9 + 4) (.int .i64 y)
        have HP := Lib.hid hP
        have HN := Lib.hid (show ∀ j, j < m → ∃ z, (cur.setIfInBounds (k * 9 + 4) (.int .i64 y))[j * 9 + 4]? = some (.int .i64 z) from fun j hj => by
          by_cases c : j = k
          · subst c
            have hlt2 : j * 9 + 4 < cur.size := (Array.getElem?_eq_some_iff.1 hz).1
            exact ⟨y, by rw [Array.getElem?_setIfInBounds, if_pos rfl, if_pos hlt2]⟩
          · rw [Array.getElem?_setIfInBounds, if_neg (by omega)]
            exact hcur j hj)
        clear hP hS o1 o2 o3 hcur hz
        go_wp2
        go_round
        case rel => exact ⟨k + 1, _, by omega, by go_num, HN.out, HP.out⟩
        case measure => simp [intOf]; omega
      · obtain rfl : k = m := by omega
        have hltI : ¬ (k : Int) < (k : Int) := by omega
        have hD := hS.drop
        clear hS hcur
        go_wp2
        refine Great.bodyPost_end0 rfl rfl ?_
        exact ⟨rfl, hD⟩
end
end Go.Proofs.YtopkcaflmpjhgaaGreat

namespace Go.Proofs.YtopkcaflmpjhgaaGreat
open Go Go.RowKit

theorem us_on {w W : World} {ao : Option Addr} {n : Nat} {es : List Us} (h : UsIn [] w ao n es) (hb : Below w.heap.size w W) : UsIn [] W ao n es := h.tn (Tn.ofBelow hb [])
theorem us_none {w : World} {ao : Option Addr} : UsIn [] w ao 0 [] := ⟨rfl, .inl rfl, by decide⟩
theorem At.usI {w0 w : World} {C : Ass} {ao : Option Addr} {n m cap : Nat} {es : List Us} (h : At w0 ((rowE TUs 9 (.slice ao n cap) m (usCells es)).star C) w) (hn : n = es.length) (hm : m = es.length) (hf : es.length ≤ 1954687338268) : UsIn [] w ao n es := by
  subst hn hm
  refine ⟨rfl, ?_, by omega⟩
  by_cases h0 : es.length = 0
  · exact .inl h0
  · obtain ⟨g, rfl, _, _⟩ := us_big h (by omega)
    obtain ⟨h1, h2⟩ := usAt_row h
    exact .inr ⟨g, 0, rfl, h1, by simp, h2⟩
theorem At.usCap {w0 w : World} {C : Ass} {ao : Option Addr} {n m cap : Nat} {xs : List Value} (h : At w0 ((rowE TUs 9 (.slice ao n cap) m xs).star C) w) : ao = Option.none → cap = 0 := by
  intro e
  subst e
  obtain ⟨_, ⟨F1, F2, rfl, ⟨h1, rfl⟩, _, _⟩, _⟩ := h
  rcases h1.2 with ⟨e, _⟩ | ⟨g, c, cur, e, _⟩
  · simpa using congrArg (fun v => match v with | .slice _ _ c => c | _ => 0) e
  · simp at e
theorem us_el {w : World} {ao : Option Addr} {n : Nat} {es : List Us} (h : UsIn [] w ao n es) {k : Nat} (hk : k < n) : ∃ b off a, ao = some ⟨b, off, none⟩ ∧ es.getD k Us.none = a ∧ ∀ W, Below w.heap.size w W → W.cell? ⟨b, off + k * 9, none⟩ = some (.int .i64 a.u) ∧ W.cell? ⟨b, off + k * 9 + 1, none⟩ = some (.int .i64 a.k) ∧ W.cell? ⟨b, off + k * 9 + 2, none⟩ = some (.int .i64 a.s) ∧ W.cell? ⟨b, off + k * 9 + 3, none⟩ = some (.int .i64 a.q) ∧ W.cell? ⟨b, off + k * 9 + 4, none⟩ = some (.int .i64 a.used) ∧ W.cell? ⟨b, off + k * 9 + 5, none⟩ = some (.int .i64 a.lf) ∧ W.cell? ⟨b, off + k * 9 + 6, none⟩ = some (.int .i64 a.lu) ∧ W.cell? ⟨b, off + k * 9 + 7, none⟩ = some (.int .i64 a.st) ∧ W.cell? ⟨b, off + k * 9 + 8, none⟩ = some (.int .i64 a.g) := by
  obtain ⟨hlen, hrow, _⟩ := h
  rcases hrow with c | ⟨b, off, rfl, hat, _, hlb⟩
  · omega
  · exact ⟨b, off, _, rfl, rfl, fun W hW => (hat.same (hW.block b hlb)).elem (by rw [← hlen]; exact hk)⟩
/-- The first k of a row. -/
theorem usAt_take {w : World} {b off : Nat} {es : List Us} (h : UsAt w b off es) (k : Nat) : UsAt w b off (es.take k) := fun i u hu => h i u (by
  have e : usCells es = usCells (es.take k) ++ usCells (es.drop k) := by rw [← usCells_app, List.take_append_drop]
  rw [e]
  have hl : i < (usCells (es.take k)).length := by
    rcases Nat.lt_or_ge i (usCells (es.take k)).length with c | c
    · exact c
    · rw [List.getElem?_eq_none c] at hu; cases hu
  rw [List.getElem?_append_left hl]
  exact hu)
/-- Those behind the first k. -/
theorem usAt_drop {w : World} {b off : Nat} {es : List Us} (h : UsAt w b off es) {k : Nat} (hk : k ≤ es.length) : UsAt w b (off + k * 9) (es.drop k) := fun i u hu => by
  have e : usCells es = usCells (es.take k) ++ usCells (es.drop k) := by rw [← usCells_app, List.take_append_drop]
  have hl : (usCells (es.take k)).length = k * 9 := by rw [usCells_len, List.length_take, Nat.min_eq_left hk]
  rw [Nat.add_assoc]
  refine h (k * 9 + i) u ?_
  rw [e, List.getElem?_append_right (by omega), hl, show k * 9 + i - k * 9 = i by omega]
  exact hu
/-- A row laid behind a row of one's own. -/
theorem us_grow {w0 W : World} {C : Ass} (hC : C.Good) {ao : Option Addr} {n cap : Nat} {es fs : List Us} {b off k c : Nat} (hS : At w0 ((rowE TUs 9 (.slice ao n cap) es.length (usCells es)).star C) W) (hat : UsAt W b off fs) (hk : k = fs.length) (hn : es.length + k ≤ 1954687338268) (ty : TypeId) :
    ∃ a2 c2 w2, (Builtin.append_ #[24, 24] ty #[.slice ao n cap, .slice (some ⟨b, off, none⟩) k c]).run Tryz.prog W = .ok (.slice a2 (n + k) c2) w2 ∧ At w0 ((rowE TUs 9 (.slice a2 (n + k) c2) (es ++ fs).length (usCells (es ++ fs))).star C) w2 := by
  obtain ⟨v', w2, hrun, hrow, hgr, hnil, hlo⟩ := us_runApp (es := fs) ty es hS.erow (some ⟨b, off, none⟩) k c hk hn (.inr ⟨_, _, rfl, hat⟩)
  have hlen : n = es.length := by
    obtain ⟨a3, c3, e3⟩ := rowE_shape hS.erow
    simp at e3
    exact e3.2.1
  obtain ⟨a2, c2, rfl⟩ := rowE_shape hrow
  rw [← hlen] at hrun hrow hlo
  refine ⟨a2, c2, w2, hrun, ?_⟩
  refine hS.appendedE hC hgr ?_ ?_
  · rw [usCells_app, List.length_append, ← hlen, ← hk]
    exact hrow
  · rcases hlo with e | e
    · exact .inl e
    · exact .inr ⟨_, Nat.le_refl _, e⟩
theorem At.usEmpty {w0 w : World} {C : Ass} (hC : C.Good) (h : At w0 C w) : At w0 ((rowE TUs 9 (.slice (some ⟨w.heap.size, 0, Option.none⟩) 0 0) ([] : List Us).length (usCells [])).star C) (w.alloc (.cells #[] TUs)) := by
  refine At.add hC h ⟨[w.heap.size], ⟨⟨rfl, .inr ⟨w.heap.size, 0, #[], rfl, Nat.zero_le _, heap_alloc_new w _, Nat.le_refl _, by decide, rfl, rfl⟩⟩, rfl⟩, (Tn.refl _ _).alloc _, fun k hk => .inr (by simp at hk; omega)⟩
/-- A copy of a row: append([]T{}, row...). -/
theorem us_dup {w0 w : World} {C : Ass} (hC : C.Good) (hS : At w0 C w) {ao : Option Addr} {n cap : Nat} {es : List Us} (hes : UsIn [] w ao n es) (hc : ao = none → cap = 0) (hn : n ≤ 1954687338263) (ty : TypeId) :
    ∃ a2 c2 w2, (Builtin.append_ #[24, 24] ty #[.slice (some ⟨w.heap.size, 0, none⟩) 0 0, .slice ao n cap]).run Tryz.prog (w.alloc (.cells #[] TUs)) = .ok (.slice a2 n c2) w2 ∧ At w0 ((rowE TUs 9 (.slice a2 n c2) es.length (usCells es)).star C) w2 := by
  have hE := At.usEmpty hC hS
  have hes2 := hes.tn ((Tn.refl [] w).alloc (.cells #[] TUs))
  have hlen := hes.len
  by_cases h0 : n = 0
  · subst h0
    have he : es = [] := List.length_eq_zero_iff.1 hlen.symm
    subst he
    have hown := hE.erow
    cases ao with
    | none =>
      obtain ⟨v', w2, k1, k2, k3, k4, k5⟩ := us_runApp (es := []) ty [] hown none 0 cap rfl (by simp) (.inl ⟨rfl, rfl, hc rfl⟩)
      obtain ⟨a2, c2, rfl⟩ := rowE_shape k2
      refine ⟨a2, c2, w2, by simpa using k1, hE.appendedE hC k3 (by simpa [usCells] using k2) ?_⟩
      rcases k5 with e | e
      · exact .inl e
      · exact .inr ⟨_, Nat.le_refl _, e⟩
    | some a =>
      obtain ⟨i, hi, hz0, hz1, hz2⟩ := info_parts us_info
      obtain ⟨v', w2, k1, k2, k3, k4, k5⟩ := run_append_own_at (P := Tryz.prog) (w.alloc (.cells #[] TUs)) 0 24 ty TUs i _ 9 72 Tryz.underlying24 hi hz0 hz1 hz2 rfl (by decide) (.slice (some ⟨w.heap.size, 0, none⟩) 0 0) _ (usCells []) hown a 0 cap [] rfl (fun j u hj => by simp at hj) (fun u hu => by cases hu) (by unfold maxLen; simp) (by simp) (Nat.zero_le _)
      obtain ⟨a2, c2, rfl⟩ := rowE_shape k2
      refine ⟨a2, c2, w2, by simpa using k1, hE.appendedE hC k3 (by simpa [usCells] using k2) ?_⟩
      rcases k5 with e | e
      · exact .inl e
      · exact .inr ⟨_, Nat.le_refl _, e⟩
  · rcases hes2.row with c | ⟨b, off, rfl, h1, _⟩
    · exact absurd c h0
    · obtain ⟨a2, c2, w2, k1, k2⟩ := us_grow (c := cap) hC hE h1 hlen (by simp; omega) ty
      rw [Nat.zero_add] at k1 k2
      rw [List.nil_append] at k2
      exact ⟨a2, c2, w2, k1, k2⟩
/-- The same, in a walk. -/
theorem us_dupC {w0 W : World} {C : Ass} {ops : Array Oper} {rest : List Oper} {o : Oper} {a : Act} {Q : Exit → Act → World → Prop} (hC : C.Good) (hgd : o.guard = Option.none) (s x : Operand)
    (ho : o.op = .call { callee := .builtin .append, args := #[s, x], argTypes := #[24, 24] }) (ao : Option Addr) (n cap : Nat) (es : List Us) {p : Nat} (hs : a.eval s = .slice (some ⟨p, 0, Option.none⟩) 0 0) (hp : p = W.heap.size) (hx : a.eval x = .slice ao n cap)
    (hS : At w0 C W) (hes : UsIn [] W ao n es) (hc : ao = Option.none → cap = 0) (hn : n ≤ 1954687338263) (h : ∀ a2 c2 w2, At w0 ((rowE TUs 9 (.slice a2 n c2) es.length (usCells es)).star C) w2 → wpList Tryz.prog ops Q rest (a.put o.dst (.slice a2 n c2)) w2) :
    wpList Tryz.prog ops Q (o :: rest) a (W.alloc (.cells #[] TUs)) := by
  subst hp
  obtain ⟨a2, c2, w2, hr, hS2⟩ := us_dup hC hS hes hc hn o.type
  exact us_app hgd s x ho hs hx hr (h a2 c2 w2 hS2)
/-- A literal row laid behind a row of one's own, its place told. -/
theorem us_appLit2 {w0 W : World} {C : Ass} {ops : Array Oper} {rest : List Oper} {o : Oper} {a : Act} {Q : Exit → Act → World → Prop} (hC : C.Good) (hgd : o.guard = Option.none) (s x : Operand)
    (ho : o.op = .call { callee := .builtin .append, args := #[s, x], argTypes := #[24, 24] }) (ao : Option Addr) (n cap : Nat) (es fs : List Us) (k : Nat) {p : Nat} (hs : a.eval s = .slice ao n cap) (hx : a.eval x = .slice (some ⟨p, 0, Option.none⟩) k k) (hp : p = W.heap.size) (hk : k = fs.length) {cs : Array Value} (hcs : cs = (usCells fs).toArray)
    (hS : At w0 ((rowE TUs 9 (.slice ao n cap) es.length (usCells es)).star C) W) (hn : es.length + k ≤ 1954687338268) (h : ∀ a2 c2 w', At w0 ((rowE TUs 9 (.slice a2 (n + k) c2) (es ++ fs).length (usCells (es ++ fs))).star C) w' → wpList Tryz.prog ops Q rest (a.put o.dst (.slice a2 (n + k) c2)) w') :
    wpList Tryz.prog ops Q (o :: rest) a (W.alloc (.cells cs 63)) := by
  subst hp
  exact us_appLit hC hgd s x ho ao n cap es fs k hs hx hk hcs hS hn h
theorem usCells_set2 {es : List Us} {k : Nat} (hk : k < es.length) (x : Us) : usCells (es.set k x) = (((((((((usCells es).set (k * 9) (.int .i64 x.u)).set (k * 9 + 1) (.int .i64 x.k)).set (k * 9 + 2) (.int .i64 x.s)).set (k * 9 + 3) (.int .i64 x.q)).set (k * 9 + 4) (.int .i64 x.used)).set (k * 9 + 5) (.int .i64 x.lf)).set (k * 9 + 6) (.int .i64 x.lu)).set (k * 9 + 7) (.int .i64 x.st)).set (k * 9 + 8) (.int .i64 x.g) := by
  apply List.ext_getElem?
  intro i
  by_cases hi : i < es.length * 9
  · obtain ⟨j, r, rfl, hr⟩ : ∃ j r, i = j * 9 + r ∧ r < 9 := ⟨i / 9, i % 9, by have := Nat.div_add_mod i 9; omega, Nat.mod_lt _ (by decide)⟩
    have hj : j < es.length := by omega
    rw [usCells_at (es.set k x) (by rw [List.length_set]; exact hj) hr]
    have hlen := usCells_len es
    by_cases e : j = k
    · subst e
      have hg : (es.set j x).getD j Us.none = x := by simp [List.getD, hj]
      rw [hg]
      rcases (show r = 0 ∨ r = 1 ∨ r = 2 ∨ r = 3 ∨ r = 4 ∨ r = 5 ∨ r = 6 ∨ r = 7 ∨ r = 8 by omega) with rfl | rfl | rfl | rfl | rfl | rfl | rfl | rfl | rfl
      · rw [show j * 9 + 0 = j * 9 from rfl, List.getElem?_set_ne (by omega), List.getElem?_set_ne (by omega), List.getElem?_set_ne (by omega), List.getElem?_set_ne (by omega), List.getElem?_set_ne (by omega), List.getElem?_set_ne (by omega), List.getElem?_set_ne (by omega), List.getElem?_set_ne (by omega), List.getElem?_set_self (by (try simp only [List.length_set]); omega)]; rfl
      · rw [List.getElem?_set_ne (by omega), List.getElem?_set_ne (by omega), List.getElem?_set_ne (by omega), List.getElem?_set_ne (by omega), List.getElem?_set_ne (by omega), List.getElem?_set_ne (by omega), List.getElem?_set_ne (by omega), List.getElem?_set_self (by (try simp only [List.length_set]); omega)]; rfl
      · rw [List.getElem?_set_ne (by omega), List.getElem?_set_ne (by omega), List.getElem?_set_ne (by omega), List.getElem?_set_ne (by omega), List.getElem?_set_ne (by omega), List.getElem?_set_ne (by omega), List.getElem?_set_self (by (try simp only [List.length_set]); omega)]; rfl
      · rw [List.getElem?_set_ne (by omega), List.getElem?_set_ne (by omega), List.getElem?_set_ne (by omega), List.getElem?_set_ne (by omega), List.getElem?_set_ne (by omega), List.getElem?_set_self (by (try simp only [List.length_set]); omega)]; rfl
      · rw [List.getElem?_set_ne (by omega), List.getElem?_set_ne (by omega), List.getElem?_set_ne (by omega), List.getElem?_set_ne (by omega), List.getElem?_set_self (by (try simp only [List.length_set]); omega)]; rfl
      · rw [List.getElem?_set_ne (by omega), List.getElem?_set_ne (by omega), List.getElem?_set_ne (by omega), List.getElem?_set_self (by (try simp only [List.length_set]); omega)]; rfl
      · rw [List.getElem?_set_ne (by omega), List.getElem?_set_ne (by omega), List.getElem?_set_self (by (try simp only [List.length_set]); omega)]; rfl
      · rw [List.getElem?_set_ne (by omega), List.getElem?_set_self (by (try simp only [List.length_set]); omega)]; rfl
      · rw [List.getElem?_set_self (by (try simp only [List.length_set]); omega)]; rfl
    · have hg : (es.set k x).getD j Us.none = es.getD j Us.none := by simp only [List.getD]; rw [List.getElem?_set_ne (fun c => e c.symm)]
      rw [hg, ← usCells_at es hj hr]
      rw [List.getElem?_set_ne (by omega)]; rw [List.getElem?_set_ne (by omega)]; rw [List.getElem?_set_ne (by omega)]; rw [List.getElem?_set_ne (by omega)]; rw [List.getElem?_set_ne (by omega)]; rw [List.getElem?_set_ne (by omega)]; rw [List.getElem?_set_ne (by omega)]; rw [List.getElem?_set_ne (by omega)]; rw [List.getElem?_set_ne (by omega)]
  · rw [List.getElem?_eq_none (by rw [usCells_len, List.length_set]; omega), List.getElem?_eq_none (by simp [usCells_len]; omega)]
/-- An element is stored. -/
theorem At.usSet2 {w0 w : World} {C : Ass} (hC : C.Good) {g n cap : Nat} {es : List Us} (h : At w0 ((rowE TUs 9 (.slice (some ⟨g, 0, Option.none⟩) n cap) es.length (usCells es)).star C) w) {k : Nat} (hk : k < es.length) (x : Us) :
    At w0 ((rowE TUs 9 (.slice (some ⟨g, 0, Option.none⟩) n cap) (es.set k x).length (usCells (es.set k x))).star C) (((((((((w.setCell ⟨g, k * 9, Option.none⟩ (.int .i64 x.u)).setCell ⟨g, k * 9 + 1, Option.none⟩ (.int .i64 x.k)).setCell ⟨g, k * 9 + 2, Option.none⟩ (.int .i64 x.s)).setCell ⟨g, k * 9 + 3, Option.none⟩ (.int .i64 x.q)).setCell ⟨g, k * 9 + 4, Option.none⟩ (.int .i64 x.used)).setCell ⟨g, k * 9 + 5, Option.none⟩ (.int .i64 x.lf)).setCell ⟨g, k * 9 + 6, Option.none⟩ (.int .i64 x.lu)).setCell ⟨g, k * 9 + 7, Option.none⟩ (.int .i64 x.st)).setCell ⟨g, k * 9 + 8, Option.none⟩ (.int .i64 x.g)) := by
  have hlen : n = es.length := by
    obtain ⟨a3, c3, e3⟩ := rowE_shape h.erow
    simp at e3
    exact e3.2.1
  subst hlen
  have s0 := h.appendedE hC (h.erow.stored (k * 9) (.int .i64 x.u)).2 (h.erow.stored (k * 9) (.int .i64 x.u)).1 (.inl rfl)
  have s1 := s0.appendedE hC (s0.erow.stored (k * 9 + 1) (.int .i64 x.k)).2 (s0.erow.stored (k * 9 + 1) (.int .i64 x.k)).1 (.inl rfl)
  have s2 := s1.appendedE hC (s1.erow.stored (k * 9 + 2) (.int .i64 x.s)).2 (s1.erow.stored (k * 9 + 2) (.int .i64 x.s)).1 (.inl rfl)
  have s3 := s2.appendedE hC (s2.erow.stored (k * 9 + 3) (.int .i64 x.q)).2 (s2.erow.stored (k * 9 + 3) (.int .i64 x.q)).1 (.inl rfl)
  have s4 := s3.appendedE hC (s3.erow.stored (k * 9 + 4) (.int .i64 x.used)).2 (s3.erow.stored (k * 9 + 4) (.int .i64 x.used)).1 (.inl rfl)
  have s5 := s4.appendedE hC (s4.erow.stored (k * 9 + 5) (.int .i64 x.lf)).2 (s4.erow.stored (k * 9 + 5) (.int .i64 x.lf)).1 (.inl rfl)
  have s6 := s5.appendedE hC (s5.erow.stored (k * 9 + 6) (.int .i64 x.lu)).2 (s5.erow.stored (k * 9 + 6) (.int .i64 x.lu)).1 (.inl rfl)
  have s7 := s6.appendedE hC (s6.erow.stored (k * 9 + 7) (.int .i64 x.st)).2 (s6.erow.stored (k * 9 + 7) (.int .i64 x.st)).1 (.inl rfl)
  have s8 := s7.appendedE hC (s7.erow.stored (k * 9 + 8) (.int .i64 x.g)).2 (s7.erow.stored (k * 9 + 8) (.int .i64 x.g)).1 (.inl rfl)
  rw [usCells_set2 hk, List.length_set]
  exact s8
/-- The same, in a walk. -/
theorem us_storeC {w0 W : World} {C : Ass} {ops : Array Oper} {rest : List Oper} {o : Oper} {a : Act} {Q : Exit → Act → World → Prop} (hC : C.Good) (hgd : o.guard = Option.none) (x y : Operand) (ho : o.op = .store TUs x y) (hd : o.dst = Option.none) {g n cap k : Nat} {es : List Us} (hx : a.eval x = .pointer (some ⟨g, k * 9, Option.none⟩)) (v : Us) (hy : a.eval y = .agg #[.int .i64 v.u, .int .i64 v.k, .int .i64 v.s, .int .i64 v.q, .int .i64 v.used, .int .i64 v.lf, .int .i64 v.lu, .int .i64 v.st, .int .i64 v.g])
    (hS : At w0 ((rowE TUs 9 (.slice (some ⟨g, 0, Option.none⟩) n cap) es.length (usCells es)).star C) W) (hk : k < es.length) (h : ∀ W', At w0 ((rowE TUs 9 (.slice (some ⟨g, 0, Option.none⟩) n cap) (es.set k v).length (usCells (es.set k v))).star C) W' → wpList Tryz.prog ops Q rest a W') : wpList Tryz.prog ops Q (o :: rest) a W := by
  have hT := At.usSet2 hC hS hk v
  have hr := hS.erow
  obtain ⟨h1, _⟩ := usAt_row hS
  refine wpList_store_mid hgd TUs x y ho g (k * 9) #[.int .i64 v.u, .int .i64 v.k, .int .i64 v.s, .int .i64 v.q, .int .i64 v.used, .int .i64 v.lf, .int .i64 v.lu, .int .i64 v.st, .int .i64 v.g] hx hy ?_ (by kernel_rfl) (by kernel_rfl) ?_
  · intro j hj
    have hlen : n = es.length := by
      obtain ⟨a3, c3, e3⟩ := rowE_shape hr
      simp at e3
      exact e3.2.1
    subst hlen
    have hj2 : j < 9 := hj
    refine ⟨?_, hr.frozenAt _⟩
    have hc : (k * 9 + j) < (usCells es).length := by rw [usCells_len]; omega
    have h3 := h1 (k * 9 + j) _ (List.getElem?_eq_getElem hc)
    rw [Nat.zero_add] at h3
    rw [h3]
    rfl
  · rw [hd]
    exact h _ hT
end Go.Proofs.YtopkcaflmpjhgaaGreat

