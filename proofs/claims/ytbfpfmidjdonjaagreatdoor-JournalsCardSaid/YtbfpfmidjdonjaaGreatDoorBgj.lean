/- Put together: Gj1, Gj2, Gj3, Gj4. Conditions: each theorem's own. -/
import Derived.Test.YtbfpfmidjdonjaaGreatDoorBjc
import Derived.Test.YtbfpfmidjdonjaaGreatDoorKref3
import Derived.Test.YtbfpfmidjdonjaaGreatDoorBkr
import Derived.Test.YtbfpfmidjdonjaaGreatDoorBrg
import Derived.Test.YtbfpfmidjdonjaaGreatDoorBrb
import Derived.Test.YtbfpfmidjdonjaaGreatDoorBsg
import Derived.Test.YtbfpfmidjdonjaaGreatDoorBga
namespace Go.Proofs.YtbfpfmidjdonjaaGreatDoor
open Go Go.RowKit
abbrev TG : TypeId := 53
abbrev gcs (qb qd : Nat) (o : Bool) (last boot : Int) (v : Value) : Array Value := #[.pointer (some ⟨qb, 0, none⟩), .pointer (some ⟨qd, 0, none⟩), .bool o, .int .i64 last, .int .i64 boot, v]
abbrev GY (q qb qd : Nat) (most : Int) (ts : List ByteArray) (d : Dk) (c : Array Value) (v : Value) (all : List Ev) : Ass :=
  (ownA q c TG).star ((rowE TE 8 v all.length (ecells all)).star ((refA qb most ts).star ((dkA TR qd d).star emp)))
abbrev GX (q qb qd : Nat) (most : Int) (ts : List ByteArray) (d : Dk) (J : Jn) (v : Value) : Ass := GY q qb qd most ts d (gcs qb qd J.over J.last J.boot v) v J.all
theorem GY_good (q qb qd : Nat) (most : Int) (ts : List ByteArray) (d : Dk) (c : Array Value) (v : Value) (all : List Ev) : (GY q qb qd most ts d c v all).Good := (ownA_good _ _ _).star ((rowE_good _ _ _ _ _).star ((refA_good _ _ _).star ((dkA_good _ _ _).star emp_good)))
theorem GX_good (q qb qd : Nat) (most : Int) (ts : List ByteArray) (d : Dk) (J : Jn) (v : Value) : (GX q qb qd most ts d J v).Good := GY_good _ _ _ _ _ _ _ _ _
def GA (q qb qd : Nat) (most : Int) (ts : List ByteArray) (d : Dk) (J : Jn) : Ass := fun w F => ∃ v, GX q qb qd most ts d J v w F
theorem GA_good (q qb qd : Nat) (most : Int) (ts : List ByteArray) (d : Dk) (J : Jn) : (GA q qb qd most ts d J).Good := by
  rintro w F ⟨v, h⟩
  obtain ⟨a, b⟩ := GX_good q qb qd most ts d J v w F h
  exact ⟨a, fun w' hw' => ⟨v, b w' hw'⟩⟩
section
variable {F : List Nat} {w W : World} {q qb qd : Nat} {most : Int} {ts : List ByteArray} {d : Dk} {J : Jn} {v : Value}
theorem Becomes.hidg (h : Becomes F (GX q qb qd most ts d J v) w W) : Becomes F (GA q qb qd most ts d J) w W := by
  obtain ⟨F', h1, h2, h3⟩ := h
  exact ⟨F', ⟨v, h1⟩, h2, h3⟩
theorem GX.cells (h : Becomes F (GX q qb qd most ts d J v) w W) : W.cell? ⟨q, 0, none⟩ = some (.pointer (some ⟨qb, 0, none⟩)) ∧ W.cell? ⟨q, 1, none⟩ = some (.pointer (some ⟨qd, 0, none⟩)) ∧ W.cell? ⟨q, 2, none⟩ = some (.bool J.over) ∧ W.cell? ⟨q, 3, none⟩ = some (.int .i64 J.last) ∧
    W.cell? ⟨q, 4, none⟩ = some (.int .i64 J.boot) ∧ W.cell? ⟨q, 5, none⟩ = some v :=
  have h := h.own.1
  ⟨h 0, h 1, h 2, h 3, h 4, h 5⟩
theorem GX.frz (h : Becomes F (GX q qb qd most ts d J v) w W) (i : Nat) : W.frozen? ⟨q, i, none⟩ = false := h.own.2.1 i
theorem GX.shape (h : Becomes F (GX q qb qd most ts d J v) w W) : ∃ ao cap, v = .slice ao J.all.length cap := by
  obtain ⟨_, ⟨_, _, _, _, ⟨_, _, _, ⟨h, _⟩, _⟩, _⟩, _⟩ := h
  exact rowE_shape h
theorem GX.dk (h : Becomes F (GX q qb qd most ts d J v) w W) : (∃ g cap, W.cell? ⟨qd, 0, none⟩ = some (.slice (some ⟨g, 0, none⟩) d.kept.length cap)) ∧ W.cell? ⟨qd, 2, none⟩ = some (.bool d.down) ∧ d.Ok := by
  obtain ⟨_, ⟨_, _, _, _, ⟨_, _, _, _, ⟨_, _, _, _, ⟨_, _, _, ⟨g, cap, u, hi, _⟩, _⟩, _⟩, _⟩, _⟩, _⟩ := h
  exact ⟨⟨g, cap, hi.c0⟩, hi.c2, hi.ok⟩
theorem GX.disk {f : FuncId} {args : Array Value} {u : Ending} {d' : Dk} (hd : Does Tryz.prog (dkA TR qd d) f args u (dkA TR qd d')) (h : Becomes F (GX q qb qd most ts d J v) w W) : Calls Tryz.prog f args W fun e w' => e = u ∧ Becomes F (GX q qb qd most ts d' J v) w w' :=
  Becomes.opN hd (Ass.imp.up3 _ _ _ _ _) (Ass.imp.dn3 _ _ _ _ _) ((ownA_good _ _ _).star ((rowE_good _ _ _ _ _).star ((refA_good _ _ _).star emp_good))) h
theorem GX.book {f : FuncId} {args : Array Value} {u : Ending} {ts' : List ByteArray} (hd : Does Tryz.prog (refA qb most ts) f args u (refA qb most ts')) (h : Becomes F (GX q qb qd most ts d J v) w W) : Calls Tryz.prog f args W fun e w' => e = u ∧ Becomes F (GX q qb qd most ts' d J v) w w' :=
  Becomes.opN hd (Ass.imp.up2 _ _ _ _) (Ass.imp.dn2 _ _ _ _) ((ownA_good _ _ _).star ((rowE_good _ _ _ _ _).star ((dkA_good _ _ _).star emp_good))) h
theorem GX.lay (h : Becomes F (GX q qb qd most ts d J v) w W) {W' : World} (hb : Below W.heap.size W W') : Becomes F (GX q qb qd most ts d J v) w W' := Becomes.lay (GX_good _ _ _ _ _ _ _ _) h hb
theorem GY.set {c : Array Value} {all : List Ev} (h : Becomes F (GY q qb qd most ts d c v all) w W) (i : Nat) (u : Value) : Becomes F (GY q qb qd most ts d (c.setIfInBounds i u) v all) w (W.setCell ⟨q, i, none⟩ u) :=
  h.poke ((rowE_good _ _ _ _ _).star ((refA_good _ _ _).star ((dkA_good _ _ _).star emp_good))) i u
theorem GY.row {c : Array Value} {all : List Ev} (h : Becomes F (GY q qb qd most ts d c v all) w W) : W.ownsRow 0 TE 8 v all.length (ecells all) := by
  obtain ⟨_, ⟨_, _, _, _, ⟨_, _, _, ⟨h, _⟩, _⟩, _⟩, _⟩ := h
  exact h
theorem GY.appended {c : Array Value} {all es : List Ev} {v' : Value} {n : Nat} {W' : World} (h : Becomes F (GY q qb qd most ts d c v all) w W) (hn : n = es.length) (hr : W'.ownsRow 0 TE 8 v' (all.length + n) (ecells all ++ ecells es)) (hg : W.grownBy W' v.ownBlock)
    (hloc : v'.ownBlock = v.ownBlock ∨ ∃ k, W.heap.size ≤ k ∧ v'.ownBlock = some k) : Becomes F (GY q qb qd most ts d c v' (all ++ es)) w W' := by
  have h1 := h.imp (Ass.imp.swap _ _ _)
  refine (Becomes.appendedE ((ownA_good _ _ _).star ((refA_good _ _ _).star ((dkA_good _ _ _).star emp_good))) h1 hg ?_ hloc).imp (Ass.imp.swap _ _ _)
  rw [List.length_append, ecells_app, ← hn]
  exact hr
theorem GY.appended1 {A : Ass} (hA : A.Good) {c : Array Value} {all es : List Ev} {v' : Value} {n : Nat} {W' : World} (h : Becomes F (A.star (GY q qb qd most ts d c v all)) w W) (hn : n = es.length) (hr : W'.ownsRow 0 TE 8 v' (all.length + n) (ecells all ++ ecells es)) (hg : W.grownBy W' v.ownBlock)
    (hloc : v'.ownBlock = v.ownBlock ∨ ∃ k, W.heap.size ≤ k ∧ v'.ownBlock = some k) : Becomes F (A.star (GY q qb qd most ts d c v' (all ++ es))) w W' := by
  have h1 := h.imp (Ass.imp.up2 _ _ _ _)
  refine (Becomes.appendedE (hA.star ((ownA_good _ _ _).star ((refA_good _ _ _).star ((dkA_good _ _ _).star emp_good)))) h1 hg ?_ hloc).imp (Ass.imp.dn2 _ _ _ _)
  rw [List.length_append, ecells_app, ← hn]
  exact hr
theorem GY.set1 {A : Ass} (hA : A.Good) {c : Array Value} {all : List Ev} (h : Becomes F (A.star (GY q qb qd most ts d c v all)) w W) (i : Nat) (u : Value) : Becomes F (A.star (GY q qb qd most ts d (c.setIfInBounds i u) v all)) w (W.setCell ⟨q, i, none⟩ u) :=
  (Becomes.poke (hA.star ((rowE_good _ _ _ _ _).star ((refA_good _ _ _).star ((dkA_good _ _ _).star emp_good)))) (h.imp (Ass.imp.swap _ _ _)) i u).imp (Ass.imp.swap _ _ _)
theorem groom (h : Becomes F (GX q qb qd most ts d J v) w W) (hn : J.all.length ≤ 1000000) : Calls Tryz.prog 31 #[.pointer (some ⟨q, 0, none⟩)] W fun e w' => e = .returned (.int .i64 ((d.kept.length : Int) - 2 - (J.all.length : Int))) ∧ Below W.heap.size W w' := by
  obtain ⟨k0, k1, k2, k3, k4, k5⟩ := GX.cells h
  obtain ⟨⟨g, cap, d0⟩, d2, hok⟩ := GX.dk h
  obtain ⟨aj, cj, rfl⟩ := GX.shape h
  have hmost := hok.most
  generalize J.all.length = n at *
  generalize d.kept.length = m at *
  have hw1 : IntKind.i64.wrap ((m : Int) - 2) = (m : Int) - 2 := by rw [IntKind.wrap_i64]; omega
  have hw2 : IntKind.i64.wrap ((m : Int) - 2 - (n : Int)) = (m : Int) - 2 - (n : Int) := by rw [IntKind.wrap_i64]; omega
  clear h k0 k2 k3 k4 d2 hok
  go_enter Tryz.func31, Tryz.ntmps31
  go_wp2
  go_quiet (fail)
  go_wp2
  go_ret
  exact ⟨rfl, below_drewN _ _⟩
end
open Go Go.RowKit
abbrev gpa0 : Oper := ⟨some 55, .move (.tmp 0), 33, "log.go:368", #[], none⟩
abbrev gpa1 : Oper := ⟨some 56, .nilCheck (.tmp 55), 0, "log.go:368", #[⟨0, .data⟩], none⟩
abbrev gpa2 : Oper := ⟨some 57, .fieldAddr 53 (.tmp 56) 0, 0, "log.go:368", #[⟨1, .data⟩], none⟩
abbrev gpa3 : Oper := ⟨some 58, .load 24 (.tmp 57), 24, "log.go:368", #[⟨2, .data⟩], none⟩
abbrev gpa4 : Oper := ⟨some 59, .move (.tmp 0), 33, "log.go:368", #[], none⟩
abbrev gpa5 : Oper := ⟨some 60, .nilCheck (.tmp 59), 0, "log.go:368", #[⟨4, .data⟩], none⟩
abbrev gpa6 : Oper := ⟨some 61, .fieldAddr 53 (.tmp 60) 5, 0, "log.go:368", #[⟨5, .data⟩], none⟩
abbrev gpa7 : Oper := ⟨some 62, .load 36 (.tmp 61), 36, "log.go:368", #[⟨6, .data⟩], none⟩
abbrev gpa8 : Oper := ⟨some 63, .call { callee := .builtin .len, args := #[.tmp 62], argTypes := #[36] }, 3, "log.go:368", #[⟨7, .data⟩], none⟩
abbrev gpa9 : Oper := ⟨some 64, .binOp .add 3 (.tmp 63) (.const (.int .i64 1)) 3, 3, "log.go:368", #[⟨8, .data⟩], none⟩
abbrev gpa10 : Oper := ⟨some 65, .move (.tmp 10), 3, "log.go:368", #[], none⟩
abbrev gpa11 : Oper := ⟨some 66, .binOp .add 3 (.tmp 64) (.tmp 65) 3, 3, "log.go:368", #[⟨9, .data⟩, ⟨10, .data⟩], none⟩
abbrev gpa12 : Oper := ⟨some 67, .move (.tmp 0), 33, "log.go:368", #[], none⟩
abbrev gpa13 : Oper := ⟨some 68, .nilCheck (.tmp 67), 0, "log.go:368", #[⟨12, .data⟩], none⟩
abbrev gpa14 : Oper := ⟨some 69, .fieldAddr 53 (.tmp 68) 4, 0, "log.go:368", #[⟨13, .data⟩], none⟩
abbrev gpa15 : Oper := ⟨some 70, .load 3 (.tmp 69), 3, "log.go:368", #[⟨14, .data⟩], none⟩
abbrev gpa16 : Oper := ⟨some 71, .move (.tmp 8), 3, "log.go:368", #[], none⟩
abbrev gpa17 : Oper := ⟨some 72, .move (.tmp 1), 36, "log.go:368", #[], none⟩
abbrev gpa18 : Oper := ⟨some 73, .move (.tmp 10), 3, "log.go:368", #[], none⟩
abbrev gpa19 : Oper := ⟨some 74, .indexAddr 36 (.tmp 72) (.tmp 73), 0, "log.go:368", #[⟨17, .data⟩, ⟨18, .data⟩], none⟩
abbrev gpa20 : Oper := ⟨some 75, .load 61 (.tmp 74), 61, "log.go:368", #[⟨19, .data⟩], none⟩
abbrev gpa21 : Oper := ⟨some 76, .build 74 #[(0, .tmp 66), (1, .tmp 70), (2, .tmp 71), (3, .tmp 75)], 74, "log.go:368", #[⟨11, .data⟩, ⟨15, .data⟩, ⟨16, .data⟩, ⟨20, .data⟩], none⟩
abbrev gpa22 : Oper := { dst := some 77, op := Op.call { callee := Callee.value (Operand.func 70), args := #[Operand.tmp 58, Operand.tmp 76], argTypes := #[24, 74] }, type := 140, pos := "log.go:368", after := #[{ on := 3, ground := Ground.data }, { on := 21, ground := Ground.data }], guard := none }
abbrev gpa23 : Oper := { dst := some 54, op := Op.move (Operand.tmp 77), type := 140, pos := "log.go:368", after := #[{ on := 22, ground := Ground.data }], guard := none }
abbrev gpa24 : Oper := ⟨some 78, .extract (.tmp 54) 0, 9, "log.go:368", #[⟨23, .data⟩], none⟩
abbrev gpa25 : Oper := ⟨some 79, .extract (.tmp 54) 1, 3, "log.go:368", #[⟨23, .data⟩, ⟨27, .gcOnly .lateStores⟩], none⟩
abbrev gpa26 : Oper := ⟨some 80, .extract (.tmp 54) 2, 3, "log.go:368", #[⟨23, .data⟩, ⟨28, .gcOnly .lateStores⟩], none⟩
abbrev gpa27 : Oper := ⟨some 11, .assign (.tmp 78), 9, "log.go:368", #[⟨24, .data⟩, ⟨22, .chain⟩, ⟨0, .phase⟩, ⟨1, .phase⟩, ⟨2, .phase⟩, ⟨3, .phase⟩, ⟨4, .phase⟩, ⟨5, .phase⟩, ⟨6, .phase⟩, ⟨7, .phase⟩, ⟨8, .phase⟩, ⟨9, .phase⟩, ⟨10, .phase⟩, ⟨11, .phase⟩, ⟨12, .phase⟩, ⟨13, .phase⟩, ⟨14, .phase⟩, ⟨15, .phase⟩, ⟨16, .phase⟩, ⟨17, .phase⟩, ⟨18, .phase⟩, ⟨19, .phase⟩, ⟨20, .phase⟩, ⟨21, .phase⟩, ⟨22, .phase⟩, ⟨23, .phase⟩, ⟨24, .phase⟩, ⟨25, .textOnly .lateStores⟩, ⟨26, .textOnly .lateStores⟩], none⟩
abbrev gpa28 : Oper := ⟨some 12, .assign (.tmp 79), 3, "log.go:368", #[⟨25, .data⟩, ⟨27, .chain⟩, ⟨0, .phase⟩, ⟨1, .phase⟩, ⟨2, .phase⟩, ⟨3, .phase⟩, ⟨4, .phase⟩, ⟨5, .phase⟩, ⟨6, .phase⟩, ⟨7, .phase⟩, ⟨8, .phase⟩, ⟨9, .phase⟩, ⟨10, .phase⟩, ⟨11, .phase⟩, ⟨12, .phase⟩, ⟨13, .phase⟩, ⟨14, .phase⟩, ⟨15, .phase⟩, ⟨16, .phase⟩, ⟨17, .phase⟩, ⟨18, .phase⟩, ⟨19, .phase⟩, ⟨20, .phase⟩, ⟨21, .phase⟩, ⟨22, .phase⟩, ⟨23, .phase⟩, ⟨24, .phase⟩, ⟨25, .phase⟩, ⟨26, .textOnly .lateStores⟩, ⟨27, .phase⟩], none⟩
abbrev gpa29 : Oper := ⟨some 13, .assign (.tmp 80), 3, "log.go:368", #[⟨26, .data⟩, ⟨28, .chain⟩, ⟨0, .phase⟩, ⟨1, .phase⟩, ⟨2, .phase⟩, ⟨3, .phase⟩, ⟨4, .phase⟩, ⟨5, .phase⟩, ⟨6, .phase⟩, ⟨7, .phase⟩, ⟨8, .phase⟩, ⟨9, .phase⟩, ⟨10, .phase⟩, ⟨11, .phase⟩, ⟨12, .phase⟩, ⟨13, .phase⟩, ⟨14, .phase⟩, ⟨15, .phase⟩, ⟨16, .phase⟩, ⟨17, .phase⟩, ⟨18, .phase⟩, ⟨19, .phase⟩, ⟨20, .phase⟩, ⟨21, .phase⟩, ⟨22, .phase⟩, ⟨23, .phase⟩, ⟨24, .phase⟩, ⟨25, .phase⟩, ⟨26, .phase⟩, ⟨27, .phase⟩, ⟨28, .phase⟩], none⟩
theorem gx_put {a : Act} {w : World} {op : Oper} (x y : Operand) (ho : op.op = .call { callee := .value (.func 70), args := #[x, y], argTypes := #[24, 74] }) {u v : Value} (hx : a.eval x = u) (hy : a.eval y = v) : (execOp a.eval op).run Tryz.prog w = .ok (.enter 70 #[u, v]) w := by
  unfold execOp
  simp only [ho, resolve, Sem.run_bind, List.map_toArray, List.map_cons, List.map_nil, hx, hy]
  go_simp
def GPut (F : List Nat) (q qb qd : Nat) (most : Int) (ts : List ByteArray) (d : Dk) (J : Jn) (v : Value) (es : List Ev) (w : World) (e : Ending) (w' : World) : Prop :=
  (jpE most ts J d es = 0 ∧ (jpGo most J.boot ts J.all.length J.last es).2 = some (jpS most ts J es, jpL most ts J es) ∧ J.over = false ∧ d.down = false ∧ (es.length : Int) + J.all.length + 2 ≤ d.kept.length ∧ ∃ a2 c2, e = .returned (.tuple #[.slice a2 (jpS most ts J es).length c2, .int .i64 (jpL most ts J es), .int .i64 0]) ∧
    Becomes F ((rowE 9 1 (.slice a2 (jpS most ts J es).length c2) (jpS most ts J es).length (strs (jpS most ts J es))).star (GX q qb qd most (jpT most ts J d es) d J v)) w w') ∨
  (jpE most ts J d es ≠ 0 ∧ e = .returned (.tuple #[.slice none 0 0, .int .i64 0, .int .i64 (jpE most ts J d es)]) ∧ Becomes F (GX q qb qd most (jpT most ts J d es) d J v) w w')
section
variable {F : List Nat} {w W : World} {q qb qd : Nat} {most : Int} {ts : List ByteArray} {d : Dk} {J : Jn} {v : Value}
set_option maxRecDepth 100000 in
set_option maxHeartbeats 8000000 in
theorem gput (h : Becomes F (GX q qb qd most ts d J v) w W) {ao : Option Addr} {n cap : Nat} {es : List Ev} (hes : EsIn F w ao n es) (hl : ts.length + 1000 ≤ 1000000) (hn : 2 + J.all.length ≤ d.kept.length) :
    Calls Tryz.prog 49 #[.pointer (some ⟨q, 0, none⟩), .slice ao n cap] W (GPut F q qb qd most ts d J v es w) := by
  obtain ⟨hlen0, hrow0, hfew0⟩ := hes
  subst hlen0
  obtain ⟨k0, k1, k2, k3, k4, k5⟩ := GX.cells h
  obtain ⟨-, d2, hok⟩ := GX.dk h
  have hmost := hok.most
  obtain ⟨aj, cj, rfl⟩ := GX.shape h
  have HFin := Lib.hid (fun e w' (h : GPut F q qb qd most ts d J (.slice aj J.all.length cj) es w e w') => h)
  by_cases hod : J.over = true ∨ d.down = true
  · have hb : (J.over || d.down) = true := by rcases hod with c | c <;> simp [c]
    have e1 : jpE most ts J d es = 1102 := by unfold jpE; rw [hb]; rfl
    have e2 : jpT most ts J d es = ts := by unfold jpT; rw [hb]; rfl
    have HD := Lib.hid (And.intro h (And.intro e1 e2))
    have hcase : J.over = true ∨ (J.over = false ∧ d.down = true) := by
      cases c : J.over
      · rcases hod with x | x
        · rw [c] at x; cases x
        · exact .inr ⟨rfl, x⟩
      · exact .inl rfl
    clear h hb e1 e2 hod k0 k3 k4 k5 hok hrow0
    rcases hcase with hov | ⟨hov, hd⟩
    · rw [hov] at k2
      go_enter Tryz.func49, Tryz.ntmps49
      go_wp2
      go_ret3
      obtain ⟨g1, g2, g3⟩ := HD.out
      exact HFin.out _ _ (.inr ⟨by rw [g2]; decide, by rw [g2]; rfl, by rw [g3]; exact g1⟩)
    · rw [hov] at k2
      rw [hd] at d2
      go_enter Tryz.func49, Tryz.ntmps49
      go_wp2
      go_ret3
      obtain ⟨g1, g2, g3⟩ := HD.out
      exact HFin.out _ _ (.inr ⟨by rw [g2]; decide, by rw [g2]; rfl, by rw [g3]; exact g1⟩)
  · have hov : J.over = false := by cases c : J.over <;> simp [c] at hod ⊢
    have hd : d.down = false := by cases c : d.down <;> simp [c] at hod ⊢
    have hb : (J.over || d.down) = false := by rw [hov, hd]; rfl
    have HN := Lib.hid (show jpE most ts J d es = (if es.all Ev.may = false then 1100 else if (d.kept.length : Int) - 2 - J.all.length < es.length then 1101 else if (jpGo most J.boot ts J.all.length J.last es).2.isSome then 0 else 1101) ∧ jpT most ts J d es = (if es.all Ev.may = false then ts else if (d.kept.length : Int) - 2 - J.all.length < es.length then ts else (jpGo most J.boot ts J.all.length J.last es).1) from ⟨by unfold jpE; rw [hb]; rfl, by unfold jpT; rw [hb]; rfl⟩)
    have HOD := Lib.hid (And.intro hov hd)
    rw [hov] at k2
    rw [hd] at d2
    have hS0 := h
    clear h k0 k3 k4 k5 hod hb hov hd
    go_enter Tryz.func49, Tryz.ntmps49
    go_wp2
    go_loopw [7] (fun x wr => ∃ k : Nat, k ≤ es.length ∧ x = .int .i64 (k : Int) ∧ (∀ i, i < k → (es.getD i Ev.zero).may = true) ∧ Becomes F (GX q qb qd most ts d J (.slice aj J.all.length cj)) w wr) (fun x _ => es.length - (intOf x).toNat)
    case atStart => exact ⟨0, Nat.zero_le _, rfl, (fun i hi => by omega), hS0⟩
    case round =>
      clear hS0 k1 k2 d2
      obtain ⟨k, hkn, rfl, hp, hS⟩ := hrel
      by_cases hlt : k < es.length
      · have hltI : (k : Int) < (es.length : Int) := by omega
        obtain ⟨bb, off, rfl, hrow, hbF, hbl⟩ : ∃ b off, ao = some ⟨b, off, none⟩ ∧ EsAt w b off es ∧ b ∉ F ∧ b < w.heap.size := by
          rcases hrow0 with c | c
          · omega
          · exact c
        have hrw : EsAt wr bb off es := hrow.same (hS.tn.block bb hbl hbF)
        obtain ⟨q0, q1, q2, q3, q4, q5, q6, q7⟩ := hrw.elem (j := k) (by omega)
        obtain ⟨x, hx⟩ : ∃ x, es.getD k Ev.zero = x := ⟨_, rfl⟩
        have HX := Lib.hid hx
        rw [hx] at q0 q1 q2 q3 q4 q5 q6 q7
        have HM := Lib.hid (fun w => (show Calls Tryz.prog 69 #[.agg #[.int .i64 x.kind, .int .i64 x.user, .int .i64 x.session, .int .i64 x.address, .int .i64 x.a, .int .i64 x.b, .int .i64 x.c, .int .i64 x.tick]] w (fun e w' => e = .returned (.bool x.may) ∧ Below w.heap.size w w') from remay x w))
        have HL := Lib.hid (fun W' hb => hS.lay (GX_good _ _ _ _ _ _ _ _) (w2 := W') hb)
        have HP := Lib.hid hp
        clear hp hrow hrw hx hS
        cases hm1 : x.may with
        | true =>
          rw [hm1] at HM
          go_wp2_with (go_at_call 69; (with_reducible refine (HM.out _).mono ?_); rintro e w2 ⟨rfl, hb⟩)
          go_round
          case rel =>
            refine ⟨k + 1, by omega, by go_num, fun i hi => ?_, HL.out _ hb⟩
            by_cases c : i < k
            · exact HP.out i c
            · obtain rfl : i = k := by omega
              rw [HX.out]; exact hm1
          case measure => simp [intOf]; omega
        | false =>
          rw [hm1] at HM
          go_wp2_with (go_at_call 69; (with_reducible refine (HM.out _).mono ?_); rintro e w2 ⟨rfl, hb⟩)
          go_ret3
          obtain ⟨g1, g2⟩ := HN.out
          have hno := may_not (es := es) (k := k) (by omega) (by rw [HX.out]; exact hm1)
          rw [hno, if_pos rfl] at g1 g2
          exact HFin.out _ _ (.inr ⟨by rw [g1]; decide, by rw [g1]; rfl, by rw [g2]; exact HL.out _ hb⟩)
      · obtain rfl : k = es.length := by omega
        have hltI : ¬ (es.length : Int) < (es.length : Int) := by omega
        have HA := Lib.hid (may_upto hp rfl)
        have HR := Lib.hid (groom hS (by omega))
        have HL := Lib.hid (fun W' hb => hS.lay (GX_good _ _ _ _ _ _ _ _) (w2 := W') hb)
        clear hp hS
        by_cases hrm : (d.kept.length : Int) - 2 - (J.all.length : Int) < es.length
        · have hrm2 : (d.kept.length : Int) - 2 - (J.all.length : Int) < (es.length : Int) := hrm
          go_wp2_with (go_at_call 31; (with_reducible refine HR.out.mono ?_); rintro e w2 ⟨rfl, hb⟩)
          go_ret3
          obtain ⟨g1, g2⟩ := HN.out
          rw [HA.out, if_neg (by decide), if_pos hrm] at g1 g2
          exact HFin.out _ _ (.inr ⟨by rw [g1]; decide, by rw [g1]; rfl, by rw [g2]; exact HL.out _ hb⟩)
        · have HK := Lib.hid (fun W (h : Becomes F (GX q qb qd most ts d J (.slice aj J.all.length cj)) w W) => (GX.cells h).2.2.2.1)
          have hroom : es.length + J.all.length + 2 ≤ d.kept.length := by omega
          have HRm := Lib.hid hrm
          go_wp2_with (go_at_call 31; (with_reducible refine HR.out.mono ?_); rintro e w2 ⟨rfl, hb⟩; have hS2 := HL.out _ hb; have k3 := HK.out _ hS2)
          have hS3 : Becomes F ((rowE 9 1 (.slice none 0 0) ([] : List ByteArray).length (strs [])).star (GX q qb qd most ts d J (.slice aj J.all.length cj))) w w2 := hS2.erow0 9 1
          clear hS2 HL HR HK hb hrm hltI hlt hkn
          go_loopw [8, 9, 10] (fun x8 x9 x10 wr2 => ∃ k : Nat, k ≤ es.length ∧ x10 = .int .i64 (k : Int) ∧ ∃ T ss l2 a2 c2, x9 = .slice a2 k c2 ∧ x8 = .int .i64 l2 ∧ JpAt most J.boot ts J.all.length J.last es k T ss l2 ∧ Becomes F ((rowE 9 1 (.slice a2 k c2) ss.length (strs ss)).star (GX q qb qd most T d J (.slice aj J.all.length cj))) w wr2) (fun _ _ x10 _ => es.length - (intOf x10).toNat)
          case atStart => exact ⟨0, Nat.zero_le _, rfl, ts, [], J.last, _, _, rfl, rfl, JpAt.start _ _ _ _ _ _, hS3⟩
          case round =>
            clear hS3 k3
            obtain ⟨k, hkn, rfl, T, ss, l2, a2, c2, rfl, rfl, hp, hS⟩ := hrel
            by_cases hlt : k < es.length
            · have hltI : (k : Int) < (es.length : Int) := by omega
              obtain ⟨bb, off, rfl, hrow, hbF, hbl⟩ : ∃ b off, ao = some ⟨b, off, none⟩ ∧ EsAt w b off es ∧ b ∉ F ∧ b < w.heap.size := by
                rcases hrow0 with c | c
                · omega
                · exact c
              have HE0 := fun T Z (h : Becomes F ((rowE 9 1 (.slice a2 k c2) ss.length (strs ss)).star (GX q qb qd most T d J (.slice aj J.all.length cj))) w Z) => (hrow.same (h.tn.block bb hbl hbF)).elem (j := k) (by omega)
              obtain ⟨x, hx⟩ : ∃ x, es.getD k Ev.zero = x := ⟨_, rfl⟩
              rw [hx] at HE0
              have HE := Lib.hid HE0
              have hpl := hp.1
              have hT := hp.2.1
              obtain ⟨sq, hsq⟩ : ∃ sq : Int, (J.all.length : Int) + 1 + (k : Int) = sq := ⟨_, rfl⟩
              have hsq2 : ((J.all.length + k : Nat) : Int) + 1 = sq := by omega
              have hstep := fun hE => hp.step (by omega) hE
              have hstop := fun hE => hp.stop (by omega) hE
              rw [hsq2, hx] at hstep hstop
              have hw1 : IntKind.i64.wrap ((J.all.length : Int) + 1) = (J.all.length : Int) + 1 := by rw [IntKind.wrap_i64]; omega
              have hw2 : IntKind.i64.wrap ((J.all.length : Int) + 1 + (k : Int)) = sq := by rw [IntKind.wrap_i64]; omega
              have hw3 : IntKind.i64.wrap sq = sq := by rw [IntKind.wrap_i64]; omega
              have HP := Lib.hid (fun Z (h : Becomes F ((rowE 9 1 (.slice a2 k c2) ss.length (strs ss)).star (GX q qb qd most T d J (.slice aj J.all.length cj))) w Z) => Becomes.opN (drput qb most T (⟨sq, J.boot, l2, x⟩ : Rc) (by omega)) (X' := ((rowE 9 1 (.slice a2 k c2) ss.length (strs ss)).star (GX q qb qd most (rcT most T (⟨sq, J.boot, l2, x⟩ : Rc)) d J (.slice aj J.all.length cj)))) (Ass.imp.up3 _ _ _ _ _) (Ass.imp.dn3 _ _ _ _ _) ((rowE_good _ _ _ _ _).star ((ownA_good _ _ _).star ((rowE_good _ _ _ _ _).star ((dkA_good _ _ _).star emp_good)))) h)
              have HSt := Lib.hid hstep
              have HSp := Lib.hid hstop
              clear hstep hstop hp hrow hsq2 hx HE0 hsq
              go_wp2
              refine region_held (S := fun Z8 => ∃ T8, Becomes F ((rowE 9 1 (.slice a2 k c2) ss.length (strs ss)).star (GX q qb qd most T8 d J (.slice aj J.all.length cj))) w Z8) 30 [false, false, false, false, false, false, false, false, false, false, false, false, false, false, false, false, false, false, false, false, false, false, false, false, false, false, false, false, false, false] rfl rfl (by kernel_rfl) fun V0 hW => ?_
              have hV0 := And.intro (hS.lay ((rowE_good _ _ _ _ _).star (GX_good _ _ _ _ _ _ _ _)) (bdrew wr)) trivial
              rw [← hW] at hV0
              clear hW hS
              refine run_go [(0, gpa0, (some 55)), (1, gpa1, (some 56)), (2, gpa2, (some 57)), (3, gpa3, (some 58)), (4, gpa4, (some 59)), (5, gpa5, (some 60)), (6, gpa6, (some 61)), (7, gpa7, (some 62)), (8, gpa8, (some 63)), (9, gpa9, (some 64)), (10, gpa10, (some 65)), (11, gpa11, (some 66)), (12, gpa12, (some 67)), (13, gpa13, (some 68)), (14, gpa14, (some 69)), (15, gpa15, (some 70)), (16, gpa16, (some 71)), (17, gpa17, (some 72)), (18, gpa18, (some 73)), (19, gpa19, (some 74)), (20, gpa20, (some 75)), (21, gpa21, (some 76))] (by kernel_rfl) ?_
              iterate 22 (refine run_take ?_ rfl rfl (fun _ _ _ h => h) (Or.inl ⟨by rfl, ?_⟩) ⟨_, hV0.1⟩ ?_; rotate_left; (· (intro w0 hy0; obtain ⟨T8, hy8⟩ := hy0; obtain ⟨k0, k1, k2, k3, k4, k5⟩ := GX.cells hy8.drop; obtain ⟨q0, q1, q2, q3, q4, q5, q6, q7⟩ := HE.out _ _ hy8; clear hy8; (go_simp <;> with_reducible rfl))); simp only [Act.put, List.setIfInBounds_toArray, List.set_cons_zero, List.set_cons_succ])
              refine run_end ?_
              refine held_call 22 gpa22 (some 77) (.tuple #[.string (rcS most T (⟨sq, J.boot, l2, x⟩ : Rc)), .int .i64 (rcN most T (⟨sq, J.boot, l2, x⟩ : Rc)), .int .i64 (rcE most T (⟨sq, J.boot, l2, x⟩ : Rc))]) (fun Z9 => Becomes F ((rowE 9 1 (.slice a2 k c2) ss.length (strs ss)).star (GX q qb qd most (rcT most T (⟨sq, J.boot, l2, x⟩ : Rc)) d J (.slice aj J.all.length cj))) w Z9) 70 #[.pointer (some ⟨qb, 0, none⟩), .agg #[.int .i64 sq, .int .i64 J.boot, .int .i64 l2, .int .i64 x.kind, .int .i64 x.user, .int .i64 x.session, .int .i64 x.address, .int .i64 x.a, .int .i64 x.b, .int .i64 x.c, .int .i64 x.tick]] (by kernel_rfl) rfl rfl (by rfl) (gx_put (.tmp 58) (.tmp 76) rfl rfl rfl) (HP.out _ hV0.1) (fun _ h => ⟨_, h⟩) ?_
              intro V1 hV1
              simp only [Act.put, List.setIfInBounds_toArray, List.set_cons_zero, List.set_cons_succ]
              refine run_go [(23, gpa23, (some 54)), (24, gpa24, (some 78)), (25, gpa25, (some 79)), (26, gpa26, (some 80)), (27, gpa27, (some 11)), (28, gpa28, (some 12)), (29, gpa29, (some 13))] (by kernel_rfl) ?_
              iterate 7 (refine run_take ?_ rfl rfl (fun _ _ _ h => h) (Or.inl ⟨by rfl, ?_⟩) ⟨_, hV1⟩ ?_; rotate_left; (· (intro w0 hy0; clear hy0; (go_simp <;> with_reducible rfl))); simp only [Act.put, List.setIfInBounds_toArray, List.set_cons_zero, List.set_cons_succ])
              refine run_end ?_
              refine wpAnyH_done (by kernel_rfl) ?_ _
              clear HP HE hV0
              have h900 : rcE most T (⟨sq, J.boot, l2, x⟩ : Rc) = 0 ∨ rcE most T (⟨sq, J.boot, l2, x⟩ : Rc) = 900 := by unfold rcE; split; exact .inl rfl; exact .inr rfl
              by_cases hE : rcE most T (⟨sq, J.boot, l2, x⟩ : Rc) = 0
              · have hK := HSt.out hE
                rw [hE]
                generalize rcS most T (⟨sq, J.boot, l2, x⟩ : Rc) = SS at *
                generalize rcN most T (⟨sq, J.boot, l2, x⟩ : Rc) = NN at *
                generalize rcT most T (⟨sq, J.boot, l2, x⟩ : Rc) = TT at *
                have HK := Lib.hid hK
                clear HSp HSt hK hE h900
                go_wp2_with (at_builtin; refine app_str1 (GX_good _ _ _ _ _ _ _ _) rfl _ _ rfl _ ss SS rfl rfl hV1 (by omega) ?_; intro v7 w7 h7; obtain ⟨a7, c7, e7⟩ := rowE_shape h7.erow; subst e7)
                have hq7 : (ss ++ [SS]).length = k + 1 := by rw [List.length_append, hpl]; rfl
                have H7 : Becomes F ((rowE 9 1 (.slice a7 (k + 1) c7) (ss ++ [SS]).length (strs (ss ++ [SS]))).star (GX q qb qd most TT d J (.slice aj J.all.length cj))) w w7 := by rw [hq7] at h7 ⊢; exact h7
                clear hq7 h7
                go_round
                case rel => exact ⟨k + 1, by omega, by go_num, TT, ss ++ [SS], NN, a7, c7, rfl, rfl, HK.out, H7⟩
                case measure => simp [intOf]; omega
              · have hK := HSp.out hE
                have h9 := h900.resolve_left hE
                rw [h9]
                generalize rcS most T (⟨sq, J.boot, l2, x⟩ : Rc) = SS at *
                generalize rcN most T (⟨sq, J.boot, l2, x⟩ : Rc) = NN at *
                generalize rcT most T (⟨sq, J.boot, l2, x⟩ : Rc) = TT at *
                have HK := Lib.hid hK
                clear HSp HSt hK hE h900 h9
                have H5 := Lib.hid hV1.drop
                clear hV1
                go_wp2
                go_ret3
                obtain ⟨g1, g2⟩ := HN.out
                have hrm : ¬ (d.kept.length : Int) - 2 - (J.all.length : Int) < (es.length : Int) := by have := HRm.out; omega
                rw [HA.out, if_neg (by decide), if_neg hrm, HK.out] at g1 g2
                exact HFin.out _ _ (.inr ⟨by rw [g1]; exact (show (1101 : Int) ≠ 0 by decide), by rw [g1]; rfl, by rw [g2]; exact H5.out⟩)
            · obtain rfl : k = es.length := by omega
              have hltI : ¬ (es.length : Int) < (es.length : Int) := by omega
              have hd := hp.done (by omega)
              have hpl := hp.1
              clear hp
              have HS := Lib.hid hS
              clear hS
              go_wp2
              go_ret3
              obtain ⟨g1, g2⟩ := HN.out
              have hrm : ¬ (d.kept.length : Int) - 2 - (J.all.length : Int) < (es.length : Int) := by have := HRm.out; omega
              rw [HA.out, if_neg (by decide), if_neg hrm, hd] at g1 g2
              have s1 : jpS most ts J es = ss := by unfold jpS; rw [hd]; rfl
              have s2 : jpL most ts J es = l2 := by unfold jpL; rw [hd]; rfl
              refine HFin.out _ _ (.inl ⟨by rw [g1]; rfl, by rw [hd, s1, s2], HOD.out.1, HOD.out.2, by omega, a2, c2, by rw [s1, s2, hpl]; rfl, ?_⟩)
              rw [g2, s1, hpl]
              have := HS.out
              rw [hpl] at this
              exact this
end
open Go Go.RowKit
abbrev gwa0 : Oper := ⟨some 25, .move (.tmp 0), 33, "log.go:400", #[], none⟩
abbrev gwa1 : Oper := ⟨some 26, .nilCheck (.tmp 25), 0, "log.go:400", #[⟨0, .data⟩], none⟩
abbrev gwa2 : Oper := ⟨some 27, .fieldAddr 53 (.tmp 26) 1, 0, "log.go:400", #[⟨1, .data⟩], none⟩
abbrev gwa3 : Oper := ⟨some 28, .load 28 (.tmp 27), 28, "log.go:400", #[⟨2, .data⟩], none⟩
abbrev gwa4 : Oper := ⟨some 29, .move (.tmp 0), 33, "log.go:400", #[], none⟩
abbrev gwa5 : Oper := ⟨some 30, .nilCheck (.tmp 29), 0, "log.go:400", #[⟨4, .data⟩], none⟩
abbrev gwa6 : Oper := ⟨some 31, .fieldAddr 53 (.tmp 30) 5, 0, "log.go:400", #[⟨5, .data⟩], none⟩
abbrev gwa7 : Oper := ⟨some 32, .load 36 (.tmp 31), 36, "log.go:400", #[⟨6, .data⟩], none⟩
abbrev gwa8 : Oper := ⟨some 33, .call { callee := .builtin .len, args := #[.tmp 32], argTypes := #[36] }, 3, "log.go:400", #[⟨7, .data⟩], none⟩
abbrev gwa9 : Oper := ⟨some 34, .binOp .add 3 (.const (.int .i64 2)) (.tmp 33) 3, 3, "log.go:400", #[⟨8, .data⟩], none⟩
abbrev gwa10 : Oper := ⟨some 35, .move (.tmp 8), 3, "log.go:400", #[], none⟩
abbrev gwa11 : Oper := ⟨some 36, .binOp .add 3 (.tmp 34) (.tmp 35) 3, 3, "log.go:400", #[⟨9, .data⟩, ⟨10, .data⟩], none⟩
abbrev gwa12 : Oper := ⟨some 37, .move (.tmp 5), 80, "log.go:400", #[], none⟩
abbrev gwa13 : Oper := ⟨some 38, .move (.tmp 8), 3, "log.go:400", #[], none⟩
abbrev gwa14 : Oper := ⟨some 39, .indexAddr 80 (.tmp 37) (.tmp 38), 0, "log.go:400", #[⟨12, .data⟩, ⟨13, .data⟩], none⟩
abbrev gwa15 : Oper := ⟨some 40, .load 9 (.tmp 39), 9, "log.go:400", #[⟨14, .data⟩], none⟩
abbrev gwa16 : Oper := ⟨some 41, .call { callee := .value (.func 21), args := #[.tmp 28, .tmp 36, .tmp 40], argTypes := #[28, 3, 9] }, 3, "log.go:400", #[⟨3, .data⟩, ⟨11, .data⟩, ⟨15, .data⟩], none⟩
abbrev gap0 : Oper := ⟨some 25, .move (.tmp 0), 33, "log.go:385", #[], none⟩
abbrev gap1 : Oper := ⟨some 26, .nilCheck (.tmp 25), 0, "log.go:385", #[⟨0, .data⟩], none⟩
abbrev gap2 : Oper := ⟨some 27, .fieldAddr 53 (.tmp 26) 1, 0, "log.go:385", #[⟨1, .data⟩], none⟩
abbrev gap3 : Oper := ⟨some 28, .load 28 (.tmp 27), 28, "log.go:385", #[⟨2, .data⟩], none⟩
abbrev gap4 : Oper := ⟨some 29, .move (.tmp 0), 33, "log.go:385", #[], none⟩
abbrev gap5 : Oper := ⟨some 30, .nilCheck (.tmp 29), 0, "log.go:385", #[⟨4, .data⟩], none⟩
abbrev gap6 : Oper := ⟨some 31, .fieldAddr 53 (.tmp 30) 5, 0, "log.go:385", #[⟨5, .data⟩], none⟩
abbrev gap7 : Oper := ⟨some 32, .load 36 (.tmp 31), 36, "log.go:385", #[⟨6, .data⟩], none⟩
abbrev gap8 : Oper := ⟨some 33, .call { callee := .builtin .len, args := #[.tmp 32], argTypes := #[36] }, 3, "log.go:385", #[⟨7, .data⟩], none⟩
abbrev gap9 : Oper := ⟨some 34, .binOp .add 3 (.const (.int .i64 2)) (.tmp 33) 3, 3, "log.go:385", #[⟨8, .data⟩], none⟩
abbrev gap10 : Oper := ⟨some 35, .move (.tmp 8), 3, "log.go:385", #[], none⟩
abbrev gap11 : Oper := ⟨some 36, .binOp .add 3 (.tmp 34) (.tmp 35) 3, 3, "log.go:385", #[⟨9, .data⟩, ⟨10, .data⟩], none⟩
abbrev gap12 : Oper := ⟨some 37, .move (.tmp 5), 80, "log.go:385", #[], none⟩
abbrev gap13 : Oper := ⟨some 38, .move (.tmp 8), 3, "log.go:385", #[], none⟩
abbrev gap14 : Oper := ⟨some 39, .indexAddr 80 (.tmp 37) (.tmp 38), 0, "log.go:385", #[⟨12, .data⟩, ⟨13, .data⟩], none⟩
abbrev gap15 : Oper := ⟨some 40, .load 9 (.tmp 39), 9, "log.go:385", #[⟨14, .data⟩], none⟩
abbrev gap16 : Oper := ⟨some 41, .call { callee := .value (.func 21), args := #[.tmp 28, .tmp 36, .tmp 40], argTypes := #[28, 3, 9] }, 3, "log.go:385", #[⟨3, .data⟩, ⟨11, .data⟩, ⟨15, .data⟩], none⟩
theorem gx_write {a : Act} {w : World} {op : Oper} (x y z : Operand) (ho : op.op = .call { callee := .value (.func 21), args := #[x, y, z], argTypes := #[28, 3, 9] }) {u v t : Value} (hx : a.eval x = u) (hy : a.eval y = v) (hz : a.eval z = t) : (execOp a.eval op).run Tryz.prog w = .ok (.enter 21 #[u, v, t]) w := by
  unfold execOp
  simp only [ho, resolve, Sem.run_bind, List.map_toArray, List.map_cons, List.map_nil, hx, hy, hz]
  go_simp
theorem jpE_zero {most : Int} {ts : List ByteArray} {J : Jn} {d : Dk} {es : List Ev} (hE : jpE most ts J d es = 0) : J.over = false ∧ d.down = false ∧ (es.length : Int) + J.all.length + 2 ≤ d.kept.length ∧ (jpGo most J.boot ts J.all.length J.last es).2 = some (jpS most ts J es, jpL most ts J es) := by
  unfold jpE at hE
  split at hE
  · cases hE
  · rename_i hod
    split at hE
    · cases hE
    · split at hE
      · cases hE
      · rename_i hr
        split at hE
        · rename_i hs
          obtain ⟨⟨a, b⟩, hz⟩ := Option.isSome_iff_exists.1 hs
          have e1 : jpS most ts J es = a := by unfold jpS; rw [hz]; rfl
          have e2 : jpL most ts J es = b := by unfold jpL; rw [hz]; rfl
          refine ⟨by cases c : J.over <;> simp [c] at hod ⊢, by cases c : d.down <;> simp [c] at hod ⊢, by omega, by rw [hz, e1, e2]⟩
        · cases hE
section
variable {F : List Nat} {w W : World} {q qb qd : Nat} {most : Int} {ts : List ByteArray} {d : Dk} {m : Int} {J : Jn} {v : Value}
set_option maxRecDepth 100000 in
set_option maxHeartbeats 8000000 in
theorem gwrt (h : Becomes F (GX q qb qd most ts d J v) w W) {ao : Option Addr} {n cap : Nat} {es : List Ev} (hes : EsIn F w ao n es) (hb : JOk ts d m J) :
    Calls Tryz.prog 19 #[.pointer (some ⟨q, 0, none⟩), .slice ao n cap] W fun e w' => e = .returned (.int .i64 (jpE most ts J d es)) ∧ Becomes F (GA q qb qd most (jpT most ts J d es) (wtD most ts J d es) (wtJ most ts J d es)) w w' := by
  have hP := gput (cap := cap) h hes hb.tl hb.fit
  have hok := hb.ok
  have hmost := hok.most
  have hwl := hb.wl
  by_cases hE : jpE most ts J d es = 0
  · obtain ⟨z1, z2, z3, z4⟩ := jpE_zero hE
    obtain ⟨c1, c2, _⟩ := jpGo_chain z4
    have eD : wtD most ts J d es = wrAll d (2 + J.all.length) (jpS most ts J es) := by unfold wtD; rw [if_pos hE]
    have eJ : wtJ most ts J d es = ⟨J.boot, J.last, J.all, true⟩ := by unfold wtJ; rw [if_pos hE]
    rw [eD, eJ, hE]
    have hP2 := hP.mono (R' := fun e w' => ∃ a2 c2, e = .returned (.tuple #[.slice a2 (jpS most ts J es).length c2, .int .i64 (jpL most ts J es), .int .i64 0]) ∧ Becomes F ((rowE 9 1 (.slice a2 (jpS most ts J es).length c2) (jpS most ts J es).length (strs (jpS most ts J es))).star (GX q qb qd most (jpT most ts J d es) d J v)) w w') fun e w' hj => by
      rcases hj with ⟨_, _, _, _, _, g⟩ | ⟨c, _⟩
      · exact g
      · exact absurd hE c
    obtain ⟨aj, cj, rfl⟩ := GX.shape h
    generalize jpT most ts J d es = T at *
    generalize jpS most ts J es = ss at *
    generalize jpL most ts J es = l' at *
    have HP := Lib.hid hP2
    have hstep : ∀ k, k < ss.length → (wrAll d (2 + J.all.length) (ss.take k)).waits.length ≤ 1000000 := fun k hk => by
      obtain ⟨y1, y2, y3, y4⟩ := wrAll_yes (ss.take k) d (2 + J.all.length) z2 (by rw [List.length_take]; omega) (fun s hs => c2 s (List.mem_of_mem_take hs))
      rw [List.length_take] at y4
      omega
    have HS := Lib.hid hstep
    have hss : ss.length ≤ 256 := by omega
    have hJl : J.all.length ≤ 256 := by omega
    have hes2 := hes
    have hn256 : n ≤ 256 := by have := hes.len; omega
    clear h hes hb hP hP2 eD eJ hstep z1 z2 z3 z4 c1 c2 hE hok hwl hmost
    go_enter Tryz.func19, Tryz.ntmps19
    go_wp2_with (go_at_call 49; (with_reducible refine HP.out.mono ?_); rintro e w1 ⟨a2, c2, rfl, h1⟩)
    have h0 : Becomes F ((rowE 9 1 (.slice a2 ss.length c2) ss.length (strs ss)).star (GX q qb qd most T (wrAll d (2 + J.all.length) (ss.take 0)) J (.slice aj J.all.length cj))) w w1 := h1
    clear h1 HP
    go_loopw [8] (fun x wr => ∃ k : Nat, k ≤ ss.length ∧ x = .int .i64 (k : Int) ∧ Becomes F ((rowE 9 1 (.slice a2 ss.length c2) ss.length (strs ss)).star (GX q qb qd most T (wrAll d (2 + J.all.length) (ss.take k)) J (.slice aj J.all.length cj))) w wr) (fun x _ => ss.length - (intOf x).toNat)
    case atStart => exact ⟨0, Nat.zero_le _, rfl, h0⟩
    case round =>
      clear h0
      obtain ⟨k, hkn, rfl, hS⟩ := hrel
      by_cases hlt : k < ss.length
      · have hltI : (k : Int) < (ss.length : Int) := by omega
        obtain ⟨gr, rfl, -⟩ := strs_at hS hlt
        obtain ⟨SS, hSS⟩ : ∃ SS, ss.getD k ⟨#[]⟩ = SS := ⟨_, rfl⟩
        have HE := Lib.hid (fun D8 Z (h : Becomes F ((rowE 9 1 (.slice (some ⟨gr, 0, none⟩) ss.length c2) ss.length (strs ss)).star (GX q qb qd most T D8 J (.slice aj J.all.length cj))) w Z) => (show Z.cell? ⟨gr, k, none⟩ = some (.string SS) from by
          obtain ⟨g', e, hc⟩ := strs_at h hlt
          obtain rfl : gr = g' := by simpa using e
          rw [hc, hSS]))
        obtain ⟨u, hu⟩ : ∃ u : Nat, u = 2 + J.all.length + k := ⟨_, rfl⟩
        have hw1 : IntKind.i64.wrap (2 + (J.all.length : Int)) = 2 + (J.all.length : Int) := by rw [IntKind.wrap_i64]; omega
        have hw2 : IntKind.i64.wrap (2 + (J.all.length : Int) + (k : Int)) = (u : Int) := by rw [IntKind.wrap_i64]; omega
        have hd2 := wrAll_take hlt d (2 + J.all.length)
        rw [hSS, ← hu] at hd2
        have hWr := fun Z (h : Becomes F ((rowE 9 1 (.slice (some ⟨gr, 0, none⟩) ss.length c2) ss.length (strs ss)).star (GX q qb qd most T (wrAll d (2 + J.all.length) (ss.take k)) J (.slice aj J.all.length cj))) w Z) => Becomes.under (rowE_good _ _ _ _ _) h (fun F2 h2 => GX.disk (krwrite qd (wrAll d (2 + J.all.length) (ss.take k)) (u : Int) SS (HS.out k hlt)) (Becomes.refl h2))
        rw [← hd2] at hWr
        obtain ⟨D2, hD2⟩ : ∃ D2, wrAll d (2 + J.all.length) (ss.take (k + 1)) = D2 := ⟨_, rfl⟩
        rw [hD2] at hWr
        obtain ⟨E0, hE0⟩ : ∃ E0, (wrAll d (2 + J.all.length) (ss.take k)).wrE (u : Int) SS = E0 := ⟨_, rfl⟩
        rw [hE0] at hWr
        have HWr := Lib.hid hWr
        have HD2 := Lib.hid hD2
        clear hWr hd2 hE0 hSS hu hD2
        go_wp2
        refine region_held (S := fun Z8 => ∃ D8, Becomes F ((rowE 9 1 (.slice (some ⟨gr, 0, none⟩) ss.length c2) ss.length (strs ss)).star (GX q qb qd most T D8 J (.slice aj J.all.length cj))) w Z8) 17 [false, false, false, false, false, false, false, false, false, false, false, false, false, false, false, false, false] rfl rfl (by kernel_rfl) fun V0 hW => ?_
        have hV0 := And.intro (hS.lay ((rowE_good _ _ _ _ _).star (GX_good _ _ _ _ _ _ _ _)) (bdrew wr)) trivial
        rw [← hW] at hV0
        clear hW hS
        refine run_go [(0, gwa0, (some 25)), (1, gwa1, (some 26)), (2, gwa2, (some 27)), (3, gwa3, (some 28)), (4, gwa4, (some 29)), (5, gwa5, (some 30)), (6, gwa6, (some 31)), (7, gwa7, (some 32)), (8, gwa8, (some 33)), (9, gwa9, (some 34)), (10, gwa10, (some 35)), (11, gwa11, (some 36)), (12, gwa12, (some 37)), (13, gwa13, (some 38)), (14, gwa14, (some 39)), (15, gwa15, (some 40))] (by kernel_rfl) ?_
        iterate 16 (refine run_take ?_ rfl rfl (fun _ _ _ h => h) (Or.inl ⟨by rfl, ?_⟩) ⟨_, hV0.1⟩ ?_; rotate_left; (· (intro w0 hy0; obtain ⟨D8, hy8⟩ := hy0; obtain ⟨k0, k1, k2, k3, k4, k5⟩ := GX.cells hy8.drop; have q0 := HE.out _ _ hy8; clear hy8; (go_simp <;> with_reducible rfl))); simp only [Act.put, List.setIfInBounds_toArray, List.set_cons_zero, List.set_cons_succ])
        refine run_end ?_
        refine held_call 16 gwa16 (some 41) (.int .i64 E0) (fun Z9 => Becomes F ((rowE 9 1 (.slice (some ⟨gr, 0, none⟩) ss.length c2) ss.length (strs ss)).star (GX q qb qd most T D2 J (.slice aj J.all.length cj))) w Z9) 21 #[.pointer (some ⟨qd, 0, none⟩), .int .i64 (u : Int), .string SS] (by kernel_rfl) rfl rfl (by rfl) (gx_write (.tmp 28) (.tmp 36) (.tmp 40) rfl rfl rfl rfl) (HWr.out _ hV0.1) (fun _ h => ⟨_, h⟩) ?_
        intro V1 hV1
        simp only [Act.put, List.setIfInBounds_toArray, List.set_cons_zero, List.set_cons_succ]
        refine wpAnyH_done (by kernel_rfl) ?_ _
        clear HWr HE hV0
        go_wp2
        go_round
        case rel => exact ⟨k + 1, by omega, by go_num, by rw [HD2.out]; exact hV1⟩
        case measure => simp [intOf]; omega
      · obtain rfl : k = ss.length := by omega
        have hltI : ¬ (ss.length : Int) < (ss.length : Int) := by omega
        rw [List.take_length] at hS
        have hX := hS.drop
        clear hS
        have k2 := (GX.cells hX).2.2.1
        have f2 := GX.frz hX 2
        have h2 := GY.set hX 2 (.bool true)
        have H2 := Lib.hid h2
        clear hX h2
        go_wp2
        go_ret
        exact ⟨rfl, Becomes.hidg (v := .slice aj J.all.length cj) H2.out⟩
  · have eD : wtD most ts J d es = d := by unfold wtD; rw [if_neg hE]
    have eJ : wtJ most ts J d es = J := by unfold wtJ; rw [if_neg hE]
    rw [eD, eJ]
    have HP := Lib.hid (hP.mono (R' := fun e w' => e = .returned (.tuple #[.slice none 0 0, .int .i64 0, .int .i64 (jpE most ts J d es)]) ∧ Becomes F (GX q qb qd most (jpT most ts J d es) d J v) w w') fun e w' hj => by
      rcases hj with ⟨c, _⟩ | ⟨_, g1, g2⟩
      · exact absurd c hE
      · exact ⟨g1, g2⟩)
    generalize jpT most ts J d es = T at *
    generalize jpE most ts J d es = E at *
    have hE' : ¬ E = 0 := hE
    clear h hes hb hP eD eJ hok hwl hmost
    go_enter Tryz.func19, Tryz.ntmps19
    go_wp2_with (go_at_call 49; (with_reducible refine HP.out.mono ?_); rintro e w1 ⟨rfl, h1⟩)
    go_ret
    exact ⟨rfl, Becomes.hidg h1⟩
set_option maxRecDepth 100000 in
set_option maxHeartbeats 8000000 in
theorem gapp (h : Becomes F (GX q qb qd most ts d J v) w W) {ao : Option Addr} {n cap : Nat} {es : List Ev} (hes : EsIn F w ao n es) (hc : ao = none → cap = 0) (hb : JOk ts d m J) :
    Calls Tryz.prog 17 #[.pointer (some ⟨q, 0, none⟩), .slice ao n cap] W fun e w' => e = .returned (.int .i64 (jpE most ts J d es)) ∧ Becomes F (GA q qb qd most (jpT most ts J d es) (apD most ts J d es) (apJ most ts J d es)) w w' := by
  have hP := gput (cap := cap) h hes hb.tl hb.fit
  have hok := hb.ok
  have hmost := hok.most
  have hwl := hb.wl
  by_cases hE : jpE most ts J d es = 0
  · obtain ⟨z1, z2, z3, z4⟩ := jpE_zero hE
    obtain ⟨c1, c2, _⟩ := jpGo_chain z4
    have eD : apD most ts J d es = (wrAll d (2 + J.all.length) (jpS most ts J es)).fl := by unfold apD; rw [if_pos hE]
    have eJ : apJ most ts J d es = ⟨J.boot, jpL most ts J es, J.all ++ es, J.over⟩ := by unfold apJ; rw [if_pos hE]
    rw [eD, eJ, hE]
    obtain ⟨D3, hD3⟩ : ∃ D3, (wrAll d (2 + J.all.length) (jpS most ts J es)).fl = D3 := ⟨_, rfl⟩
    rw [hD3]
    have hP2 := hP.mono (R' := fun e w' => ∃ a2 c2, e = .returned (.tuple #[.slice a2 (jpS most ts J es).length c2, .int .i64 (jpL most ts J es), .int .i64 0]) ∧ Becomes F ((rowE 9 1 (.slice a2 (jpS most ts J es).length c2) (jpS most ts J es).length (strs (jpS most ts J es))).star (GX q qb qd most (jpT most ts J d es) d J v)) w w') fun e w' hj => by
      rcases hj with ⟨_, _, _, _, _, g⟩ | ⟨c, _⟩
      · exact g
      · exact absurd hE c
    obtain ⟨aj, cj, rfl⟩ := GX.shape h
    generalize jpT most ts J d es = T at *
    generalize jpS most ts J es = ss at *
    generalize jpL most ts J es = l' at *
    have HP := Lib.hid hP2
    have hstep : ∀ k, k < ss.length → (wrAll d (2 + J.all.length) (ss.take k)).waits.length ≤ 1000000 := fun k hk => by
      obtain ⟨y1, y2, y3, y4⟩ := wrAll_yes (ss.take k) d (2 + J.all.length) z2 (by rw [List.length_take]; omega) (fun s hs => c2 s (List.mem_of_mem_take hs))
      rw [List.length_take] at y4
      omega
    have HS := Lib.hid hstep
    have HD3 := Lib.hid hD3
    clear hD3
    have hup : (wrAll d (2 + J.all.length) ss).down = false := (wrAll_yes ss d _ z2 (by omega) c2).2.1
    have hss : ss.length ≤ 256 := by omega
    have hJl : J.all.length ≤ 256 := by omega
    have hes2 := hes
    have hn256 : n ≤ 256 := by have := hes.len; omega
    clear h hes hb hP hP2 eD eJ hstep z1 z2 z3 z4 c1 c2 hE hok hwl hmost
    go_enter Tryz.func17, Tryz.ntmps17
    go_wp2_with (go_at_call 49; (with_reducible refine HP.out.mono ?_); rintro e w1 ⟨a2, c2, rfl, h1⟩)
    have h0 : Becomes F ((rowE 9 1 (.slice a2 ss.length c2) ss.length (strs ss)).star (GX q qb qd most T (wrAll d (2 + J.all.length) (ss.take 0)) J (.slice aj J.all.length cj))) w w1 := h1
    clear h1 HP
    go_loopw [8] (fun x wr => ∃ k : Nat, k ≤ ss.length ∧ x = .int .i64 (k : Int) ∧ Becomes F ((rowE 9 1 (.slice a2 ss.length c2) ss.length (strs ss)).star (GX q qb qd most T (wrAll d (2 + J.all.length) (ss.take k)) J (.slice aj J.all.length cj))) w wr) (fun x _ => ss.length - (intOf x).toNat)
    case atStart => exact ⟨0, Nat.zero_le _, rfl, h0⟩
    case round =>
      clear h0
      obtain ⟨k, hkn, rfl, hS⟩ := hrel
      by_cases hlt : k < ss.length
      · have hltI : (k : Int) < (ss.length : Int) := by omega
        obtain ⟨gr, rfl, -⟩ := strs_at hS hlt
        obtain ⟨SS, hSS⟩ : ∃ SS, ss.getD k ⟨#[]⟩ = SS := ⟨_, rfl⟩
        have HE := Lib.hid (fun D8 Z (h : Becomes F ((rowE 9 1 (.slice (some ⟨gr, 0, none⟩) ss.length c2) ss.length (strs ss)).star (GX q qb qd most T D8 J (.slice aj J.all.length cj))) w Z) => (show Z.cell? ⟨gr, k, none⟩ = some (.string SS) from by
          obtain ⟨g', e, hc⟩ := strs_at h hlt
          obtain rfl : gr = g' := by simpa using e
          rw [hc, hSS]))
        obtain ⟨u, hu⟩ : ∃ u : Nat, u = 2 + J.all.length + k := ⟨_, rfl⟩
        have hw1 : IntKind.i64.wrap (2 + (J.all.length : Int)) = 2 + (J.all.length : Int) := by rw [IntKind.wrap_i64]; omega
        have hw2 : IntKind.i64.wrap (2 + (J.all.length : Int) + (k : Int)) = (u : Int) := by rw [IntKind.wrap_i64]; omega
        have hd2 := wrAll_take hlt d (2 + J.all.length)
        rw [hSS, ← hu] at hd2
        have hWr := fun Z (h : Becomes F ((rowE 9 1 (.slice (some ⟨gr, 0, none⟩) ss.length c2) ss.length (strs ss)).star (GX q qb qd most T (wrAll d (2 + J.all.length) (ss.take k)) J (.slice aj J.all.length cj))) w Z) => Becomes.under (rowE_good _ _ _ _ _) h (fun F2 h2 => GX.disk (krwrite qd (wrAll d (2 + J.all.length) (ss.take k)) (u : Int) SS (HS.out k hlt)) (Becomes.refl h2))
        rw [← hd2] at hWr
        obtain ⟨D2, hD2⟩ : ∃ D2, wrAll d (2 + J.all.length) (ss.take (k + 1)) = D2 := ⟨_, rfl⟩
        rw [hD2] at hWr
        obtain ⟨E0, hE0⟩ : ∃ E0, (wrAll d (2 + J.all.length) (ss.take k)).wrE (u : Int) SS = E0 := ⟨_, rfl⟩
        rw [hE0] at hWr
        have HWr := Lib.hid hWr
        have HD2 := Lib.hid hD2
        clear hWr hd2 hE0 hSS hu hD2
        go_wp2
        refine region_held (S := fun Z8 => ∃ D8, Becomes F ((rowE 9 1 (.slice (some ⟨gr, 0, none⟩) ss.length c2) ss.length (strs ss)).star (GX q qb qd most T D8 J (.slice aj J.all.length cj))) w Z8) 17 [false, false, false, false, false, false, false, false, false, false, false, false, false, false, false, false, false] rfl rfl (by kernel_rfl) fun V0 hW => ?_
        have hV0 := And.intro (hS.lay ((rowE_good _ _ _ _ _).star (GX_good _ _ _ _ _ _ _ _)) (bdrew wr)) trivial
        rw [← hW] at hV0
        clear hW hS
        refine run_go [(0, gap0, (some 25)), (1, gap1, (some 26)), (2, gap2, (some 27)), (3, gap3, (some 28)), (4, gap4, (some 29)), (5, gap5, (some 30)), (6, gap6, (some 31)), (7, gap7, (some 32)), (8, gap8, (some 33)), (9, gap9, (some 34)), (10, gap10, (some 35)), (11, gap11, (some 36)), (12, gap12, (some 37)), (13, gap13, (some 38)), (14, gap14, (some 39)), (15, gap15, (some 40))] (by kernel_rfl) ?_
        iterate 16 (refine run_take ?_ rfl rfl (fun _ _ _ h => h) (Or.inl ⟨by rfl, ?_⟩) ⟨_, hV0.1⟩ ?_; rotate_left; (· (intro w0 hy0; obtain ⟨D8, hy8⟩ := hy0; obtain ⟨k0, k1, k2, k3, k4, k5⟩ := GX.cells hy8.drop; have q0 := HE.out _ _ hy8; clear hy8; (go_simp <;> with_reducible rfl))); simp only [Act.put, List.setIfInBounds_toArray, List.set_cons_zero, List.set_cons_succ])
        refine run_end ?_
        refine held_call 16 gap16 (some 41) (.int .i64 E0) (fun Z9 => Becomes F ((rowE 9 1 (.slice (some ⟨gr, 0, none⟩) ss.length c2) ss.length (strs ss)).star (GX q qb qd most T D2 J (.slice aj J.all.length cj))) w Z9) 21 #[.pointer (some ⟨qd, 0, none⟩), .int .i64 (u : Int), .string SS] (by kernel_rfl) rfl rfl (by rfl) (gx_write (.tmp 28) (.tmp 36) (.tmp 40) rfl rfl rfl rfl) (HWr.out _ hV0.1) (fun _ h => ⟨_, h⟩) ?_
        intro V1 hV1
        simp only [Act.put, List.setIfInBounds_toArray, List.set_cons_zero, List.set_cons_succ]
        refine wpAnyH_done (by kernel_rfl) ?_ _
        clear HWr HE hV0
        go_wp2
        go_round
        case rel => exact ⟨k + 1, by omega, by go_num, by rw [HD2.out]; exact hV1⟩
        case measure => simp [intOf]; omega
      · obtain rfl : k = ss.length := by omega
        have hltI : ¬ (ss.length : Int) < (ss.length : Int) := by omega
        rw [List.take_length] at hS
        have hX := hS.drop
        clear hS
        have k1 := (GX.cells hX).2.1
        have hFl := fun W (h : Becomes F (GX q qb qd most T (wrAll d (2 + J.all.length) ss) J (.slice aj J.all.length cj)) w W) => GX.disk (krflush qd (wrAll d (2 + J.all.length) ss)) h
        have hfl : (wrAll d (2 + J.all.length) ss).flE = 0 := by unfold Dk.flE; rw [hup]; rfl
        rw [hfl, HD3.out] at hFl
        have HFl := Lib.hid hFl
        clear hFl HD3
        generalize wrAll d (2 + J.all.length) ss = D4 at *
        have HA := Lib.hid (fun W (h : Becomes F (GY q qb qd most T D3 (gcs qb qd J.over l' J.boot (.slice aj J.all.length cj)) (.slice aj J.all.length cj) J.all) w W) => (show ∃ a2 c2 w', (Builtin.append_ #[36, 36] 36 #[.slice aj J.all.length cj, .slice ao n cap]).run Tryz.prog W = .ok (.slice a2 (J.all.length + n) c2) w' ∧ Becomes F (GY q qb qd most T D3 (gcs qb qd J.over l' J.boot (.slice aj J.all.length cj)) (.slice a2 (J.all.length + n) c2) (J.all ++ es)) w w' from by
          obtain ⟨v', w', hr, hrow, hgr, _, hlo⟩ := app_in 36 J.all (GY.row h) (hes2.tn h.tn) hc (by omega)
          obtain ⟨a2, c2, rfl⟩ := rowE_shape hrow
          exact ⟨a2, c2, w', hr, GY.appended h hes2.len hrow hgr (hlo.imp id fun e => ⟨_, Nat.le_refl _, e⟩)⟩))
        clear hes2 hfl hup
        go_wp2_with (first
          | (go_at_call 50; (with_reducible refine (HFl.out _ hX).mono ?_); rintro e w2 ⟨rfl, h2⟩; have k3 := (GX.cells h2).2.2.2.1; have f3 := GX.frz h2 3; have h3 := GY.set h2 3 (.int .i64 l'); obtain ⟨a5, c5, w5, hr, h5⟩ := HA.out _ h3; have x5 := h3.own.1 5; have y5 := h5.own.1 5; have g5 := h5.own.2.1 5; have h6 := GY.set h5 5 (.slice a5 (J.all.length + n) c5))
          | (at_builtin; refine app_ev rfl _ _ rfl rfl rfl hr ?_))
        go_ret
        exact ⟨rfl, Becomes.hidg (v := .slice a5 (J.all.length + n) c5) h6⟩
  · have eD : apD most ts J d es = d := by unfold apD; rw [if_neg hE]
    have eJ : apJ most ts J d es = J := by unfold apJ; rw [if_neg hE]
    rw [eD, eJ]
    have HP := Lib.hid (hP.mono (R' := fun e w' => e = .returned (.tuple #[.slice none 0 0, .int .i64 0, .int .i64 (jpE most ts J d es)]) ∧ Becomes F (GX q qb qd most (jpT most ts J d es) d J v) w w') fun e w' hj => by
      rcases hj with ⟨c, _⟩ | ⟨_, g1, g2⟩
      · exact absurd c hE
      · exact ⟨g1, g2⟩)
    generalize jpT most ts J d es = T at *
    generalize jpE most ts J d es = E at *
    have hE' : ¬ E = 0 := hE
    clear h hes hb hP eD eJ hok hwl hmost hc
    go_enter Tryz.func17, Tryz.ntmps17
    go_wp2_with (go_at_call 49; (with_reducible refine HP.out.mono ?_); rintro e w1 ⟨rfl, h1⟩)
    go_ret
    exact ⟨rfl, Becomes.hidg h1⟩
end
open Go Go.RowKit
abbrev gga0 : Oper := ⟨some 97, .move (.tmp 0), 24, "log.go:339", #[], none⟩
abbrev gga1 : Oper := ⟨some 98, .move (.tmp 18), 9, "log.go:339", #[], none⟩
abbrev gga2 : Oper := ⟨some 99, .move (.tmp 17), 33, "log.go:339", #[], none⟩
abbrev gga3 : Oper := ⟨some 100, .nilCheck (.tmp 99), 0, "log.go:339", #[⟨2, .data⟩], none⟩
abbrev gga4 : Oper := ⟨some 101, .fieldAddr 53 (.tmp 100) 5, 0, "log.go:339", #[⟨3, .data⟩], none⟩
abbrev gga5 : Oper := ⟨some 102, .load 36 (.tmp 101), 36, "log.go:339", #[⟨4, .data⟩], none⟩
abbrev gga6 : Oper := ⟨some 103, .call { callee := .builtin .len, args := #[.tmp 102], argTypes := #[36] }, 3, "log.go:339", #[⟨5, .data⟩], none⟩
abbrev gga7 : Oper := ⟨some 104, .binOp .add 3 (.tmp 103) (.const (.int .i64 1)) 3, 3, "log.go:339", #[⟨6, .data⟩], none⟩
abbrev gga8 : Oper := ⟨some 105, .move (.tmp 17), 33, "log.go:339", #[], none⟩
abbrev gga9 : Oper := ⟨some 106, .nilCheck (.tmp 105), 0, "log.go:339", #[⟨8, .data⟩], none⟩
abbrev gga10 : Oper := ⟨some 107, .fieldAddr 53 (.tmp 106) 3, 0, "log.go:339", #[⟨9, .data⟩], none⟩
abbrev gga11 : Oper := ⟨some 108, .load 3 (.tmp 107), 3, "log.go:339", #[⟨10, .data⟩], none⟩
abbrev gga12 : Oper := { dst := some 109, op := Op.call { callee := Callee.value (Operand.func 41), args := #[Operand.tmp 97, Operand.tmp 98, Operand.tmp 104, Operand.tmp 108], argTypes := #[24, 9, 3, 3] }, type := 75, pos := "log.go:339", after := #[{ on := 0, ground := Ground.data }, { on := 1, ground := Ground.data }, { on := 7, ground := Ground.data }, { on := 11, ground := Ground.data }], guard := none }
abbrev gga13 : Oper := { dst := some 96, op := Op.move (Operand.tmp 109), type := 75, pos := "log.go:339", after := #[{ on := 12, ground := Ground.data }], guard := none }
abbrev gga14 : Oper := ⟨some 110, .extract (.tmp 96) 0, 74, "log.go:339", #[⟨13, .data⟩], none⟩
abbrev gga15 : Oper := ⟨some 111, .extract (.tmp 96) 1, 3, "log.go:339", #[⟨13, .data⟩, ⟨18, .gcOnly .lateStores⟩], none⟩
abbrev gga16 : Oper := ⟨some 112, .extract (.tmp 96) 2, 3, "log.go:339", #[⟨13, .data⟩, ⟨19, .gcOnly .lateStores⟩], none⟩
abbrev gga17 : Oper := ⟨some 20, .alloc 74, 0, "log.go:339", #[], none⟩
abbrev gga18 : Oper := ⟨none, .store 74 (.tmp 20) (.tmp 110), 0, "log.go:339", #[⟨17, .data⟩, ⟨14, .data⟩, ⟨12, .chain⟩, ⟨0, .phase⟩, ⟨1, .phase⟩, ⟨2, .phase⟩, ⟨3, .phase⟩, ⟨4, .phase⟩, ⟨5, .phase⟩, ⟨6, .phase⟩, ⟨7, .phase⟩, ⟨8, .phase⟩, ⟨9, .phase⟩, ⟨10, .phase⟩, ⟨11, .phase⟩, ⟨12, .phase⟩, ⟨13, .phase⟩, ⟨14, .phase⟩, ⟨15, .textOnly .lateStores⟩, ⟨16, .textOnly .lateStores⟩, ⟨17, .phase⟩], none⟩
abbrev gga19 : Oper := ⟨some 21, .assign (.tmp 111), 3, "log.go:339", #[⟨15, .data⟩, ⟨18, .chain⟩, ⟨0, .phase⟩, ⟨1, .phase⟩, ⟨2, .phase⟩, ⟨3, .phase⟩, ⟨4, .phase⟩, ⟨5, .phase⟩, ⟨6, .phase⟩, ⟨7, .phase⟩, ⟨8, .phase⟩, ⟨9, .phase⟩, ⟨10, .phase⟩, ⟨11, .phase⟩, ⟨12, .phase⟩, ⟨13, .phase⟩, ⟨14, .phase⟩, ⟨15, .phase⟩, ⟨16, .textOnly .lateStores⟩, ⟨17, .phase⟩, ⟨18, .phase⟩], none⟩
abbrev gga20 : Oper := ⟨some 22, .assign (.tmp 112), 3, "log.go:339", #[⟨16, .data⟩, ⟨19, .chain⟩, ⟨0, .phase⟩, ⟨1, .phase⟩, ⟨2, .phase⟩, ⟨3, .phase⟩, ⟨4, .phase⟩, ⟨5, .phase⟩, ⟨6, .phase⟩, ⟨7, .phase⟩, ⟨8, .phase⟩, ⟨9, .phase⟩, ⟨10, .phase⟩, ⟨11, .phase⟩, ⟨12, .phase⟩, ⟨13, .phase⟩, ⟨14, .phase⟩, ⟨15, .phase⟩, ⟨16, .phase⟩, ⟨17, .phase⟩, ⟨18, .phase⟩, ⟨19, .phase⟩], none⟩
abbrev ggb0 : Oper := ⟨some 115, .move (.tmp 17), 33, "log.go:343", #[], none⟩
abbrev ggb1 : Oper := ⟨some 116, .move (.tmp 17), 33, "log.go:343", #[], none⟩
abbrev ggb2 : Oper := ⟨some 117, .nilCheck (.tmp 116), 0, "log.go:343", #[⟨1, .data⟩], none⟩
abbrev ggb3 : Oper := ⟨some 118, .fieldAddr 53 (.tmp 117) 5, 0, "log.go:343", #[⟨2, .data⟩], none⟩
abbrev ggb4 : Oper := ⟨some 119, .load 36 (.tmp 118), 36, "log.go:343", #[⟨3, .data⟩], none⟩
abbrev ggb5 : Oper := ⟨some 120, .fieldAddr 74 (.tmp 20) 3, 0, "log.go:343", #[], none⟩
abbrev ggb6 : Oper := ⟨some 121, .load 61 (.tmp 120), 61, "log.go:343", #[⟨5, .data⟩], none⟩
abbrev ggb7 : Oper := ⟨some 122, .buildSlice 36 1 #[(0, .tmp 121)], 36, "log.go:343", #[⟨6, .data⟩], none⟩
abbrev ggb8 : Oper := ⟨some 123, .call { callee := .builtin .append, args := #[.tmp 119, .tmp 122], argTypes := #[36, 36] }, 36, "log.go:343", #[⟨4, .data⟩, ⟨7, .data⟩], none⟩
abbrev ggb9 : Oper := ⟨some 124, .nilCheck (.tmp 115), 0, "log.go:343", #[⟨0, .data⟩, ⟨0, .phase⟩, ⟨1, .phase⟩, ⟨2, .phase⟩, ⟨3, .phase⟩, ⟨4, .phase⟩, ⟨5, .phase⟩, ⟨6, .phase⟩, ⟨7, .phase⟩, ⟨8, .phase⟩], none⟩
abbrev ggb10 : Oper := ⟨some 125, .fieldAddr 53 (.tmp 124) 5, 0, "log.go:343", #[⟨9, .data⟩, ⟨0, .phase⟩, ⟨1, .phase⟩, ⟨2, .phase⟩, ⟨3, .phase⟩, ⟨4, .phase⟩, ⟨5, .phase⟩, ⟨6, .phase⟩, ⟨7, .phase⟩, ⟨8, .phase⟩], none⟩
abbrev ggb11 : Oper := ⟨none, .store 36 (.tmp 125) (.tmp 123), 0, "log.go:343", #[⟨10, .data⟩, ⟨8, .data⟩, ⟨8, .chain⟩, ⟨0, .phase⟩, ⟨1, .phase⟩, ⟨2, .phase⟩, ⟨3, .phase⟩, ⟨4, .phase⟩, ⟨5, .phase⟩, ⟨6, .phase⟩, ⟨7, .phase⟩, ⟨8, .phase⟩], none⟩
theorem gx_get {a : Act} {w : World} {op : Oper} (x y z t : Operand) (ho : op.op = .call { callee := .value (.func 41), args := #[x, y, z, t], argTypes := #[24, 9, 3, 3] }) {u v r q : Value} (hx : a.eval x = u) (hy : a.eval y = v) (hz : a.eval z = r) (ht : a.eval t = q) : (execOp a.eval op).run Tryz.prog w = .ok (.enter 41 #[u, v, r, q]) w := by
  unfold execOp
  simp only [ho, resolve, Sem.run_bind, List.map_toArray, List.map_cons, List.map_nil, hx, hy, hz, ht]
  go_simp
def rowN : Option Value → Nat
  | some (.slice _ n _) => n
  | _ => 0
abbrev RB (qb qd : Nat) (most : Int) (ts : List ByteArray) (d : Dk) : Ass := (refA qb most ts).star ((dkA TR qd d).star emp)
theorem RB_good (qb qd : Nat) (most : Int) (ts : List ByteArray) (d : Dk) : (RB qb qd most ts d).Good := (refA_good _ _ _).star ((dkA_good _ _ _).star emp_good)
def GOpen (F : List Nat) (qb qd : Nat) (most : Int) (ts : List ByteArray) (d : Dk) (w : World) (e : Ending) (w' : World) : Prop :=
  (joE most ts d = 0 ∧ ∃ q, e = .returned (.tuple #[.pointer (some ⟨q, 0, none⟩), .int .i64 0]) ∧ Becomes F (GA q qb qd most (joT most ts d) (joD most ts d) (joJ most ts d)) w w') ∨
  (joE most ts d ≠ 0 ∧ e = .returned (.tuple #[.pointer none, .int .i64 (joE most ts d)]) ∧ Becomes F (RB qb qd most (joT most ts d) d) w w')
section
variable {F : List Nat} {w W : World} {q qb qd : Nat} {most : Int} {ts : List ByteArray} {d : Dk} {J : Jn} {v : Value}
theorem RB.disk {f : FuncId} {args : Array Value} {u : Ending} {d' : Dk} (hd : Does Tryz.prog (dkA TR qd d) f args u (dkA TR qd d')) (h : Becomes F (RB qb qd most ts d) w W) : Calls Tryz.prog f args W fun e w' => e = u ∧ Becomes F (RB qb qd most ts d') w w' :=
  Becomes.opN hd (Ass.imp.swap _ _ _) (Ass.imp.swap _ _ _) ((refA_good _ _ _).star emp_good) h
theorem RB.book {f : FuncId} {args : Array Value} {u : Ending} {ts' : List ByteArray} (hd : Does Tryz.prog (refA qb most ts) f args u (refA qb most ts')) (h : Becomes F (RB qb qd most ts d) w W) : Calls Tryz.prog f args W fun e w' => e = u ∧ Becomes F (RB qb qd most ts' d) w w' :=
  Becomes.opN hd (Ass.imp.refl _) (Ass.imp.refl _) ((dkA_good _ _ _).star emp_good) h
set_option maxRecDepth 100000 in
set_option maxHeartbeats 4000000 in
theorem gopen_down (h : Becomes F (RB qb qd most ts d) w W) (hd : d.down = true) : Calls Tryz.prog 46 #[.pointer (some ⟨qb, 0, none⟩), .pointer (some ⟨qd, 0, none⟩)] W fun e w' => e = .returned (.tuple #[.pointer none, .int .i64 1102]) ∧ Becomes F (RB qb qd most ts d) w w' := by
  have HR := Lib.hid (fun i W (h : Becomes F (RB qb qd most ts d) w W) => (show Calls Tryz.prog 64 #[.pointer (some ⟨qd, 0, none⟩), .int .i64 i] W (fun e w' => (∃ s, e = .returned (.tuple #[.string s, .int .i64 801])) ∧ Becomes F (RB qb qd most ts d) w w') from (RB.disk (krread qd d i) h).mono fun e w' ⟨g1, g2⟩ => ⟨⟨d.rdS i, by rw [g1, Dk.rd_down hd]⟩, g2⟩))
  clear hd
  go_enter Tryz.func46, Tryz.ntmps46
  go_wp2_with (go_at_call 64; (with_reducible refine (HR.out _ _ h).mono ?_); rintro e w1 ⟨⟨s, rfl⟩, h1⟩; replace h := h1; clear h1)
  go_ret2
  exact ⟨rfl, h⟩
set_option maxRecDepth 100000 in
set_option maxHeartbeats 4000000 in
theorem gopen_small (h : Becomes F (RB qb qd most ts d) w W) (ho : d.Ok) (hd : d.down = false) (hk : d.kept.length < 3) : Calls Tryz.prog 46 #[.pointer (some ⟨qb, 0, none⟩), .pointer (some ⟨qd, 0, none⟩)] W fun e w' => e = .returned (.tuple #[.pointer none, .int .i64 1100]) ∧ Becomes F (RB qb qd most ts d) w w' := by
  have h1 := ho.one
  have HR := fun i W (h : Becomes F (RB qb qd most ts d) w W) => RB.disk (krread qd d i) h
  have e0 : d.rdE 0 = 0 := (Dk.rd_up ho hd (i := 0) (by omega)).2
  have e2 : d.rdE 2 = 800 := Dk.rd_end hd (i := 2) (by omega)
  have e1 : d.rdE 1 = 0 ∨ d.rdE 1 = 800 := by
    by_cases c : d.kept.length = 1
    · exact .inr (Dk.rd_end hd (i := 1) (by omega))
    · exact .inl (Dk.rd_up ho hd (i := 1) (by omega)).2
  have HR0 := HR 0
  have HR1 := HR 1
  have HR2 := HR 2
  rw [e0] at HR0
  rw [e2] at HR2
  generalize d.rdS 0 = s0 at *
  generalize d.rdS 1 = s1 at *
  generalize d.rdS 2 = s2 at *
  have HR0 := Lib.hid HR0
  have HR2 := Lib.hid HR2
  rcases e1 with e1 | e1
  all_goals
    rw [e1] at HR1
    have HR1 := Lib.hid HR1
    clear HR e0 e1 e2 ho hd hk h1
    go_enter Tryz.func46, Tryz.ntmps46
    go_wp2_with (go_at_call 64; first
      | ((with_reducible refine (HR0.out _ h).mono ?_); rintro e w1 ⟨rfl, h1⟩; replace h := h1; clear h1)
      | ((with_reducible refine (HR1.out _ h).mono ?_); rintro e w1 ⟨rfl, h1⟩; replace h := h1; clear h1)
      | ((with_reducible refine (HR2.out _ h).mono ?_); rintro e w1 ⟨rfl, h1⟩; replace h := h1; clear h1))
    go_ret2
    exact ⟨rfl, h⟩
theorem wr_up {d : Dk} (hd : d.down = false) (P : Int) (S : ByteArray) : (d.wr P S).down = false := by
  unfold Dk.wr
  rw [hd]
  split
  · exact hd
  · split
    · rfl
    · exact hd
section
variable {B X P E : Int} {T : List ByteArray} {D1 D2 : Dk} {s0 s1 s2 SS : ByteArray}
structure Ahead (F : List Nat) (qb qd : Nat) (most : Int) (ts : List ByteArray) (d : Dk) (w : World) (X P E : Int) (s0 s1 s2 : ByteArray) : Prop where
  r0 : ∀ W, Becomes F (RB qb qd most ts d) w W → Calls Tryz.prog 64 #[.pointer (some ⟨qd, 0, none⟩), .int .i64 0] W fun e w' => e = .returned (.tuple #[.string s0, .int .i64 0]) ∧ Becomes F (RB qb qd most ts d) w w'
  r1 : ∀ W, Becomes F (RB qb qd most ts d) w W → Calls Tryz.prog 64 #[.pointer (some ⟨qd, 0, none⟩), .int .i64 1] W fun e w' => e = .returned (.tuple #[.string s1, .int .i64 0]) ∧ Becomes F (RB qb qd most ts d) w w'
  r2 : ∀ W, Becomes F (RB qb qd most ts d) w W → Calls Tryz.prog 64 #[.pointer (some ⟨qd, 0, none⟩), .int .i64 2] W fun e w' => e = .returned (.tuple #[.string s2, .int .i64 0]) ∧ Becomes F (RB qb qd most ts d) w w'
  pk : ∀ W, Becomes F (RB qb qd most ts d) w W → Calls Tryz.prog 65 #[.pointer (some ⟨qb, 0, none⟩), .string s0, .string s1] W fun e w' => e = .returned (.tuple #[.int .i64 X, .int .i64 P, .int .i64 E]) ∧ Becomes F (RB qb qd most ts d) w w'
set_option maxRecDepth 100000 in
set_option maxHeartbeats 4000000 in
theorem gopen_full (h : Becomes F (RB qb qd most ts d) w W) (hA : Ahead F qb qd most ts d w X P E s0 s1 s2) (hpk : (E = 1001 ∧ X = 0 ∧ P = 0) ∨ (E = 0 ∧ 1 ≤ X ∧ X ≤ 1023)) (hB : B = X + 1)
    (hSu : ∀ W, Becomes F (RB qb qd most ts d) w W → Calls Tryz.prog 66 #[.pointer (some ⟨qb, 0, none⟩), .int .i64 B] W fun e w' => e = .returned (.tuple #[.string SS, .int .i64 1000]) ∧ Becomes F (RB qb qd most T d) w w') :
    Calls Tryz.prog 46 #[.pointer (some ⟨qb, 0, none⟩), .pointer (some ⟨qd, 0, none⟩)] W fun e w' => e = .returned (.tuple #[.pointer none, .int .i64 1101]) ∧ Becomes F (RB qb qd most T d) w w' := by
  have HA := Lib.hid hA
  have HSu := Lib.hid hSu
  have hw : IntKind.i64.wrap (X + 1) = B := by rw [IntKind.wrap_i64]; rcases hpk with c | c <;> omega
  have hw1 : IntKind.i64.wrap 1 = 1 := by rw [IntKind.wrap_i64]; omega
  clear hA hSu
  rcases hpk with ⟨rfl, rfl, rfl⟩ | ⟨rfl, hx1, hx2⟩
  case' inl =>
    obtain rfl : B = 1 := hB
    clear hw
  case' inr => clear hB hx1 hx2
  all_goals
    go_enter Tryz.func46, Tryz.ntmps46
    go_wp2_with (first
      | (go_at_call 64; first
          | ((with_reducible refine (HA.out.r0 _ h).mono ?_); rintro e w1 ⟨rfl, h1⟩; replace h := h1; clear h1)
          | ((with_reducible refine (HA.out.r1 _ h).mono ?_); rintro e w1 ⟨rfl, h1⟩; replace h := h1; clear h1)
          | ((with_reducible refine (HA.out.r2 _ h).mono ?_); rintro e w1 ⟨rfl, h1⟩; replace h := h1; clear h1))
      | (go_at_call 65; (with_reducible refine (HA.out.pk _ h).mono ?_); rintro e w2 ⟨rfl, h1⟩; replace h := h1; clear h1)
      | (go_at_call 66; (with_reducible refine (HSu.out _ h).mono ?_); rintro e w3 ⟨rfl, h1⟩; replace h := h1; clear h1))
    go_ret2
    exact ⟨rfl, h⟩
set_option maxRecDepth 100000 in
set_option maxHeartbeats 16000000 in
theorem gopen_yes (h : Becomes F (RB qb qd most ts d) w W) (hA : Ahead F qb qd most ts d w X P E s0 s1 s2) (hpk : (E = 1001 ∧ X = 0 ∧ P = 0) ∨ (E = 0 ∧ 1 ≤ X ∧ X ≤ 1023)) (hB : B = X + 1)
    (hSu : ∀ W, Becomes F (RB qb qd most ts d) w W → Calls Tryz.prog 66 #[.pointer (some ⟨qb, 0, none⟩), .int .i64 B] W fun e w' => e = .returned (.tuple #[.string SS, .int .i64 0]) ∧ Becomes F (RB qb qd most T d) w w')
    (hWr : ∀ W, Becomes F (RB qb qd most T d) w W → Calls Tryz.prog 21 #[.pointer (some ⟨qd, 0, none⟩), .int .i64 P, .string SS] W fun e w' => (∃ x, e = .returned (.int .i64 x)) ∧ Becomes F (RB qb qd most T D1) w w')
    (hFl : ∀ W, Becomes F (RB qb qd most T D1) w W → Calls Tryz.prog 50 #[.pointer (some ⟨qd, 0, none⟩)] W fun e w' => (∃ x, e = .returned (.int .i64 x)) ∧ Becomes F (RB qb qd most T D2) w w')
    (hup : D2.down = false) (hk : 3 ≤ D2.kept.length) (hk2 : D2.kept.length ≤ 256) :
    Calls Tryz.prog 46 #[.pointer (some ⟨qb, 0, none⟩), .pointer (some ⟨qd, 0, none⟩)] W fun e w' => ∃ q, e = .returned (.tuple #[.pointer (some ⟨q, 0, none⟩), .int .i64 0]) ∧ Becomes F (GA q qb qd most T D2 ⟨B, (jnGo T (D2.see.drop 2) 0 0).2, (jnGo T (D2.see.drop 2) 0 0).1, false⟩) w w' := by
  have HA := Lib.hid hA
  have HSu := Lib.hid hSu
  have HWr := Lib.hid hWr
  have HFl := Lib.hid hFl
  have hw : IntKind.i64.wrap (X + 1) = B := by rw [IntKind.wrap_i64]; rcases hpk with c | c <;> omega
  have hw1 : IntKind.i64.wrap 1 = 1 := by rw [IntKind.wrap_i64]; omega
  have HUp := Lib.hid hup
  have hlen : D2.see.length = D2.kept.length := keepAll_len _ _
  have HLen := Lib.hid hlen
  clear hA hSu hWr hFl hup hlen
  obtain ⟨b0, hb0⟩ : ∃ b0 : Int, B = b0 := ⟨_, rfl⟩
  have HFin := Lib.hid (show ∀ (e : Ending) (w' : World), (∃ q, e = .returned (.tuple #[.pointer (some ⟨q, 0, none⟩), .int .i64 0]) ∧ Becomes F (GA q qb qd most T D2 ⟨b0, (jnGo T (D2.see.drop 2) 0 0).2, (jnGo T (D2.see.drop 2) 0 0).1, false⟩) w w') → (∃ q, e = .returned (.tuple #[.pointer (some ⟨q, 0, none⟩), .int .i64 0]) ∧ Becomes F (GA q qb qd most T D2 ⟨B, (jnGo T (D2.see.drop 2) 0 0).2, (jnGo T (D2.see.drop 2) 0 0).1, false⟩) w w') from fun e w' h => by rw [hb0]; exact h)
  have HB0 := Lib.hid hb0
  clear hb0
  rcases hpk with ⟨rfl, rfl, rfl⟩ | ⟨rfl, hx1, hx2⟩
  case' inl =>
    obtain rfl : B = 1 := hB
    clear hw
    go_enter Tryz.func46, Tryz.ntmps46
    go_wp2_with (first
      | (go_at_call 64; first
          | ((with_reducible refine (HA.out.r0 _ h).mono ?_); rintro e w1 ⟨rfl, h1⟩; replace h := h1; clear h1)
          | ((with_reducible refine (HA.out.r1 _ h).mono ?_); rintro e w1 ⟨rfl, h1⟩; replace h := h1; clear h1)
          | ((with_reducible refine (HA.out.r2 _ h).mono ?_); rintro e w1 ⟨rfl, h1⟩; replace h := h1; clear h1))
      | (go_at_call 65; (with_reducible refine (HA.out.pk _ h).mono ?_); rintro e w2 ⟨rfl, h1⟩; replace h := h1; clear h1)
      | (go_at_call 66; (with_reducible refine (HSu.out _ h).mono ?_); rintro e w3 ⟨rfl, h1⟩; replace h := h1; clear h1)
      | (go_at_call 21; (with_reducible refine (HWr.out _ h).mono ?_); rintro e w4 ⟨⟨x4, rfl⟩, h1⟩; replace h := h1; clear h1)
      | (go_at_call 50; (with_reducible refine (HFl.out _ h).mono ?_); rintro e w5 ⟨⟨x5, rfl⟩, h1⟩; replace h := h1; clear h1))
    have hG1 : Becomes F (GX w5.heap.size qb qd most T D2 ⟨b0, 0, [], false⟩ (.slice none 0 0)) w (w5.alloc (.cells (gcs qb qd false 0 1 (.slice none 0 0)) TG)) := by
      rw [← HB0.out]
      exact ((h.hold (RB_good _ _ _ _ _) (gcs qb qd false 0 1 (.slice none 0 0)) TG).erow0 TE 8).imp (Ass.imp.swap _ _ _)
    clear hw1
  case' inr =>
    clear hB hx1 hx2 hw1
    go_enter Tryz.func46, Tryz.ntmps46
    go_wp2_with (first
      | (go_at_call 64; first
          | ((with_reducible refine (HA.out.r0 _ h).mono ?_); rintro e w1 ⟨rfl, h1⟩; replace h := h1; clear h1)
          | ((with_reducible refine (HA.out.r1 _ h).mono ?_); rintro e w1 ⟨rfl, h1⟩; replace h := h1; clear h1)
          | ((with_reducible refine (HA.out.r2 _ h).mono ?_); rintro e w1 ⟨rfl, h1⟩; replace h := h1; clear h1))
      | (go_at_call 65; (with_reducible refine (HA.out.pk _ h).mono ?_); rintro e w2 ⟨rfl, h1⟩; replace h := h1; clear h1)
      | (go_at_call 66; (with_reducible refine (HSu.out _ h).mono ?_); rintro e w3 ⟨rfl, h1⟩; replace h := h1; clear h1)
      | (go_at_call 21; (with_reducible refine (HWr.out _ h).mono ?_); rintro e w4 ⟨⟨x4, rfl⟩, h1⟩; replace h := h1; clear h1)
      | (go_at_call 50; (with_reducible refine (HFl.out _ h).mono ?_); rintro e w5 ⟨⟨x5, rfl⟩, h1⟩; replace h := h1; clear h1))
    have hG1 : Becomes F (GX w5.heap.size qb qd most T D2 ⟨b0, 0, [], false⟩ (.slice none 0 0)) w (w5.alloc (.cells (gcs qb qd false 0 B (.slice none 0 0)) TG)) := by
      rw [← HB0.out]
      exact ((h.hold (RB_good _ _ _ _ _) (gcs qb qd false 0 B (.slice none 0 0)) TG).erow0 TE 8).imp (Ass.imp.swap _ _ _)
    clear hw
  all_goals
    obtain ⟨q, hq⟩ : ∃ q, w5.heap.size = q := ⟨_, rfl⟩
    rw [hq] at hG1
    rw [hq]
    clear h HA HSu HWr HFl hq HB0
    go_loopw [19] (fun _ wr => ∃ es l aj cj, Part T (D2.see.drop 2) es.length true es l ∧ es.length + 2 ≤ D2.kept.length ∧ Becomes F (GX q qb qd most T D2 ⟨b0, l, es, false⟩ (.slice aj es.length cj)) w wr) (fun _ wr => 300 - rowN (wr.cell? ⟨q, 5, none⟩))
    case atStart => exact ⟨[], 0, none, 0, Part.start _ _, by show 0 + 2 ≤ _; omega, hG1⟩
    case round =>
      clear hG1
      obtain ⟨es, l, aj, cj, hp, hle, hS⟩ := hrel
      have HB := Lib.hid (And.intro hle hk2)
      have k5 := (GX.cells hS).2.2.2.2.2
      have HM := Lib.hid k5
      obtain ⟨-, -, hok⟩ := GX.dk hS
      obtain ⟨un, hu⟩ : ∃ un : Nat, un = es.length + 2 := ⟨_, rfl⟩
      have hw2 : IntKind.i64.wrap (2 + (es.length : Int)) = (un : Int) := by rw [IntKind.wrap_i64]; omega
      have hRd := fun W (h : Becomes F (GX q qb qd most T D2 ⟨b0, l, es, false⟩ (.slice aj es.length cj)) w W) => GX.disk (krread qd D2 (un : Int)) h
      by_cases hlt : es.length + 2 < D2.kept.length
      · obtain ⟨z, e⟩ := Dk.rd_up hok HUp.out (i := un) (by omega)
        have hs1 := Dk.rd_see HUp.out (i := un) (by omega)
        have hs2 : D2.rdS (un : Int) = (D2.see.drop 2).getD es.length ⟨#[]⟩ := by rw [hs1, getD_dropJ, hu, Nat.add_comm]
        have hnl : es.length < (D2.see.drop 2).length := by rw [List.length_drop, HLen.out]; omega
        rw [e, hs2] at hRd
        rw [hs2] at z
        have hno := hp.no hnl
        have hyes := fun x => hp.yes hnl (x := x)
        have hG := fun W (h : Becomes F (GX q qb qd most T D2 ⟨b0, l, es, false⟩ (.slice aj es.length cj)) w W) => GX.book (drget qb most T ((D2.see.drop 2).getD es.length ⟨#[]⟩) ((es.length : Int) + 1) l (by omega)) h
        have hGo := fun F2 W (h : (GX q qb qd most T D2 ⟨b0, l, es, false⟩ (.slice aj es.length cj)) W F2) => GX.book (F := F2) (drget qb most T ((D2.see.drop 2).getD es.length ⟨#[]⟩) ((es.length : Int) + 1) l (by omega)) (Becomes.refl h)
        have hw3 : IntKind.i64.wrap ((es.length : Int) + 1) = (es.length : Int) + 1 := by rw [IntKind.wrap_i64]; omega
        clear hs1 hs2 e z hnl hp hle hu hok
        cases hx : rgOk T ((D2.see.drop 2).getD es.length ⟨#[]⟩) ((es.length : Int) + 1) l with
        | none =>
          obtain ⟨en, _, _⟩ := rgOk_no hx
          obtain ⟨R, hR⟩ : ∃ R, rgR T ((D2.see.drop 2).getD es.length ⟨#[]⟩) ((es.length : Int) + 1) l = R := ⟨_, rfl⟩
          rw [hR] at hG hGo
          have HNo := Lib.hid ((hno hx).2.2 rfl)
          clear hno hyes hR hx
          generalize rgN T ((D2.see.drop 2).getD es.length ⟨#[]⟩) ((es.length : Int) + 1) l = own at *
          generalize rgE T ((D2.see.drop 2).getD es.length ⟨#[]⟩) ((es.length : Int) + 1) l = er at *
          generalize (D2.see.drop 2).getD es.length ⟨#[]⟩ = s at *
          obtain ⟨x1, x2, x3, ⟨k, u, p, a, x, y, z, t⟩⟩ := R
          have HRd := Lib.hid hRd
          have HG := Lib.hid (show ∀ W, Becomes F (GX q qb qd most T D2 ⟨b0, l, es, false⟩ (.slice aj es.length cj)) w W → Calls Tryz.prog 41 #[.pointer (some ⟨qb, 0, none⟩), .string s, .int .i64 ((es.length : Int) + 1), .int .i64 l] W (fun e w' => e = .returned (.tuple #[.agg #[.int .i64 x1, .int .i64 x2, .int .i64 x3, .int .i64 k, .int .i64 u, .int .i64 p, .int .i64 a, .int .i64 x, .int .i64 y, .int .i64 z, .int .i64 t], .int .i64 own, .int .i64 er]) ∧ Becomes F (GX q qb qd most T D2 ⟨b0, l, es, false⟩ (.slice aj es.length cj)) w w') from hG)
          have HGo := Lib.hid (show ∀ F2 W, (GX q qb qd most T D2 ⟨b0, l, es, false⟩ (.slice aj es.length cj)) W F2 → Calls Tryz.prog 41 #[.pointer (some ⟨qb, 0, none⟩), .string s, .int .i64 ((es.length : Int) + 1), .int .i64 l] W (fun e w' => e = .returned (.tuple #[.agg #[.int .i64 x1, .int .i64 x2, .int .i64 x3, .int .i64 k, .int .i64 u, .int .i64 p, .int .i64 a, .int .i64 x, .int .i64 y, .int .i64 z, .int .i64 t], .int .i64 own, .int .i64 er]) ∧ Becomes F2 (GX q qb qd most T D2 ⟨b0, l, es, false⟩ (.slice aj es.length cj)) W w') from hGo)
          clear hRd hG hGo
          have he' : (er != 0) = true := by simpa using en
          go_wp2_with (go_at_call 64; (with_reducible refine (HRd.out _ hS).mono ?_); rintro e w4 ⟨rfl, h4⟩)
          refine region_held (S := fun Z8 => Becomes F (GX q qb qd most T D2 ⟨b0, l, es, false⟩ (.slice aj es.length cj)) w Z8) 21 [false, false, false, false, false, false, false, false, false, false, false, false, false, false, false, false, false, false, false, false, false] rfl rfl (by kernel_rfl) fun W0 hW => ?_
          have hS0 := GX.lay h4 (bdrew w4)
          rw [← hW] at hS0
          clear hW h4
          refine run_go [(0, gga0, (some 97)), (1, gga1, (some 98)), (2, gga2, (some 99)), (3, gga3, (some 100)), (4, gga4, (some 101)), (5, gga5, (some 102)), (6, gga6, (some 103)), (7, gga7, (some 104)), (8, gga8, (some 105)), (9, gga9, (some 106)), (10, gga10, (some 107)), (11, gga11, (some 108))] (by kernel_rfl) ?_
          iterate 12 (refine run_take ?_ rfl rfl (fun _ _ _ h => h) (Or.inl ⟨by rfl, ?_⟩) hS0 ?_; rotate_left; (· (intro w0 hy0; obtain ⟨k0, k1, k2, k3, k4, k5⟩ := GX.cells hy0; (go_simp <;> with_reducible rfl))); simp only [Act.put, List.setIfInBounds_toArray, List.set_cons_zero, List.set_cons_succ])
          refine run_end ?_
          refine jtwo 12 17 (by kernel_rfl) ?_ ?_
          · refine jop_call 12 gga12 (some 109) (.tuple #[.agg #[.int .i64 x1, .int .i64 x2, .int .i64 x3, .int .i64 k, .int .i64 u, .int .i64 p, .int .i64 a, .int .i64 x, .int .i64 y, .int .i64 z, .int .i64 t], .int .i64 own, .int .i64 er]) (fun Z9 => Becomes F (GX q qb qd most T D2 ⟨b0, l, es, false⟩ (.slice aj es.length cj)) w Z9) 41 #[.pointer (some ⟨qb, 0, none⟩), .string s, .int .i64 ((es.length : Int) + 1), .int .i64 l] ?_ rfl (by rfl) (gx_get (.tmp 97) (.tmp 98) (.tmp 104) (.tmp 108) rfl rfl rfl rfl rfl) (HG.out _ hS0) (fun _ hX => hX) ?_
            · rfl
            intro W2 hS2
            simp only [Act.put, List.setIfInBounds_toArray, List.set_cons_zero, List.set_cons_succ]
            refine run_go [(13, gga13, (some 96)), (14, gga14, (some 110)), (15, gga15, (some 111)), (16, gga16, (some 112))] (by kernel_rfl) ?_
            iterate 4 (refine run_take ?_ rfl rfl (fun _ _ _ h => h) (Or.inl ⟨by rfl, ?_⟩) hS2 ?_; rotate_left; (· (intro w0 hy0; obtain ⟨k0, k1, k2, k3, k4, k5⟩ := GX.cells hy0; (go_simp <;> with_reducible rfl))); simp only [Act.put, List.setIfInBounds_toArray, List.set_cons_zero, List.set_cons_succ])
            refine run_end ?_
            have hS3 := GX.lay hS2 (balloc W2 (.cells Z11 74))
            have hS4 := GX.lay hS2 (balloc W2 (.cells #[.int .i64 x1, .int .i64 x2, .int .i64 x3, .int .i64 k, .int .i64 u, .int .i64 p, .int .i64 a, .int .i64 x, .int .i64 y, .int .i64 z, .int .i64 t] 74))
            refine held_one 17 gga17 (some 20) (.pointer (some ⟨W2.heap.size, 0, none⟩)) _ (by kernel_rfl) rfl rfl (by rfl) (jexec_alloc_rc rfl) hS3 ?_
            simp only [Act.put, List.setIfInBounds_toArray, List.set_cons_zero, List.set_cons_succ]
            refine held_void 18 gga18 _ (by kernel_rfl) rfl (by rfl) (jexec_store_rc (.tmp 20) (.tmp 110) rfl x1 x2 x3 k u p a x y z t rfl rfl) hS4 ?_
            simp only [Act.put, List.setIfInBounds_toArray, List.set_cons_zero, List.set_cons_succ]
            refine run_go [(19, gga19, (some 21)), (20, gga20, (some 22))] (by kernel_rfl) ?_
            iterate 2 (refine run_take ?_ rfl rfl (fun _ _ _ h => h) (Or.inl ⟨by rfl, ?_⟩) hS4 ?_; rotate_left; (· (intro w0 hy0; obtain ⟨k0, k1, k2, k3, k4, k5⟩ := GX.cells hy0; (go_simp <;> with_reducible rfl))); simp only [Act.put, List.setIfInBounds_toArray, List.set_cons_zero, List.set_cons_succ])
            refine run_end ?_
            refine wpAnyH_done (by kernel_rfl) ?_ _
            have hY := hS2.hold (GX_good _ _ _ _ _ _ _ _) #[.int .i64 x1, .int .i64 x2, .int .i64 x3, .int .i64 k, .int .i64 u, .int .i64 p, .int .i64 a, .int .i64 x, .int .i64 y, .int .i64 z, .int .i64 t] 74
            clear hS0 hS2 hS3 hS4
            have HY := Lib.hid hY.drop
            clear hY HG HGo HRd
            go_wp2
            go_ret2
            refine HFin.out _ _ ⟨q, rfl, ?_⟩
            rw [HNo.out]
            exact Becomes.hidg (v := .slice aj es.length cj) HY.out
          · have hH := hS0.hold (GX_good _ _ _ _ _ _ _ _) Z11 74
            refine jop_one 17 gga17 (some 20) (.pointer (some ⟨W0.heap.size, 0, none⟩)) _ ?_ rfl (by rfl) (jexec_alloc_rc rfl) hH.drop ?_
            · rfl
            simp only [Act.put, List.setIfInBounds_toArray, List.set_cons_zero, List.set_cons_succ]
            have hGo := Becomes.under (ownA_good _ _ _) hH (R := fun e _ => e = .returned (.tuple #[.agg #[.int .i64 x1, .int .i64 x2, .int .i64 x3, .int .i64 k, .int .i64 u, .int .i64 p, .int .i64 a, .int .i64 x, .int .i64 y, .int .i64 z, .int .i64 t], .int .i64 own, .int .i64 er])) (fun F2 h2 => HGo.out F2 _ h2)
            refine held_call 12 gga12 (some 109) (.tuple #[.agg #[.int .i64 x1, .int .i64 x2, .int .i64 x3, .int .i64 k, .int .i64 u, .int .i64 p, .int .i64 a, .int .i64 x, .int .i64 y, .int .i64 z, .int .i64 t], .int .i64 own, .int .i64 er]) (fun Z9 => Becomes F ((ownA W0.heap.size Z11 74).star (GX q qb qd most T D2 ⟨b0, l, es, false⟩ (.slice aj es.length cj))) w Z9) 41 #[.pointer (some ⟨qb, 0, none⟩), .string s, .int .i64 ((es.length : Int) + 1), .int .i64 l] (by kernel_rfl) rfl rfl (by rfl) (gx_get (.tmp 97) (.tmp 98) (.tmp 104) (.tmp 108) rfl rfl rfl rfl rfl) hGo (fun _ hX => hX.drop) ?_
            intro W3 hT
            simp only [Act.put, List.setIfInBounds_toArray, List.set_cons_zero, List.set_cons_succ]
            have hS5 := hT.drop
            refine run_go [(13, gga13, (some 96)), (14, gga14, (some 110)), (15, gga15, (some 111)), (16, gga16, (some 112))] (by kernel_rfl) ?_
            iterate 4 (refine run_take ?_ rfl rfl (fun _ _ _ h => h) (Or.inl ⟨by rfl, ?_⟩) hS5 ?_; rotate_left; (· (intro w0 hy0; obtain ⟨k0, k1, k2, k3, k4, k5⟩ := GX.cells hy0; (go_simp <;> with_reducible rfl))); simp only [Act.put, List.setIfInBounds_toArray, List.set_cons_zero, List.set_cons_succ])
            refine run_end ?_
            obtain ⟨e1, f1, g1⟩ := hT.own
            have hY := Becomes.poke_all (GX_good _ _ _ _ _ _ _ _) x1 x2 x3 k u p a x y z t hT
            have hS6 := hY.drop
            refine held_void 18 gga18 _ (by kernel_rfl) rfl (by rfl) (jexec_store_own (.tmp 20) (.tmp 110) rfl W0.heap.size e1 f1 g1 x1 x2 x3 k u p a x y z t rfl rfl) hS6 ?_
            simp only [Act.put, List.setIfInBounds_toArray, List.set_cons_zero, List.set_cons_succ]
            refine run_go [(19, gga19, (some 21)), (20, gga20, (some 22))] (by kernel_rfl) ?_
            iterate 2 (refine run_take ?_ rfl rfl (fun _ _ _ h => h) (Or.inl ⟨by rfl, ?_⟩) hS6 ?_; rotate_left; (· (intro w0 hy0; obtain ⟨k0, k1, k2, k3, k4, k5⟩ := GX.cells hy0; (go_simp <;> with_reducible rfl))); simp only [Act.put, List.setIfInBounds_toArray, List.set_cons_zero, List.set_cons_succ])
            refine run_end ?_
            refine wpAnyH_done (by kernel_rfl) ?_ _
            clear hS0 hH hT hS5 hS6 e1 f1 g1 hGo
            have HY := Lib.hid hY.drop
            clear hY HG HGo HRd
            go_wp2
            go_ret2
            refine HFin.out _ _ ⟨q, rfl, ?_⟩
            rw [HNo.out]
            exact Becomes.hidg (v := .slice aj es.length cj) HY.out
        | some x =>
          obtain ⟨e1, e2, e3⟩ := rgOk_yes hx
          rw [e1, e2, e3] at hG hGo
          have HYes0 := Lib.hid (hyes x hx)
          clear hno hyes hx e1 e2 e3
          generalize (D2.see.drop 2).getD es.length ⟨#[]⟩ = s at *
          obtain ⟨⟨x1, x2, x3, ⟨k, u, p, a, x, y, z, t⟩⟩, own⟩ := x
          have HRd := Lib.hid hRd
          have HG := Lib.hid (show ∀ W, Becomes F (GX q qb qd most T D2 ⟨b0, l, es, false⟩ (.slice aj es.length cj)) w W → Calls Tryz.prog 41 #[.pointer (some ⟨qb, 0, none⟩), .string s, .int .i64 ((es.length : Int) + 1), .int .i64 l] W (fun e w' => e = .returned (.tuple #[.agg #[.int .i64 x1, .int .i64 x2, .int .i64 x3, .int .i64 k, .int .i64 u, .int .i64 p, .int .i64 a, .int .i64 x, .int .i64 y, .int .i64 z, .int .i64 t], .int .i64 own, .int .i64 0]) ∧ Becomes F (GX q qb qd most T D2 ⟨b0, l, es, false⟩ (.slice aj es.length cj)) w w') from hG)
          have HGo := Lib.hid (show ∀ F2 W, (GX q qb qd most T D2 ⟨b0, l, es, false⟩ (.slice aj es.length cj)) W F2 → Calls Tryz.prog 41 #[.pointer (some ⟨qb, 0, none⟩), .string s, .int .i64 ((es.length : Int) + 1), .int .i64 l] W (fun e w' => e = .returned (.tuple #[.agg #[.int .i64 x1, .int .i64 x2, .int .i64 x3, .int .i64 k, .int .i64 u, .int .i64 p, .int .i64 a, .int .i64 x, .int .i64 y, .int .i64 z, .int .i64 t], .int .i64 own, .int .i64 0]) ∧ Becomes F2 (GX q qb qd most T D2 ⟨b0, l, es, false⟩ (.slice aj es.length cj)) W w') from hGo)
          clear hRd hG hGo
          have HYes := Lib.hid (show Part T (D2.see.drop 2) (es ++ [(⟨k, u, p, a, x, y, z, t⟩ : Ev)]).length true (es ++ [(⟨k, u, p, a, x, y, z, t⟩ : Ev)]) own from by rw [List.length_append]; exact HYes0.out)
          have HLt := Lib.hid hlt
          clear HYes0 hlt
          go_wp2_with (go_at_call 64; (with_reducible refine (HRd.out _ hS).mono ?_); rintro e w4 ⟨rfl, h4⟩)
          refine region_held (S := fun Z8 => Becomes F (GX q qb qd most T D2 ⟨b0, l, es, false⟩ (.slice aj es.length cj)) w Z8) 21 [false, false, false, false, false, false, false, false, false, false, false, false, false, false, false, false, false, false, false, false, false] rfl rfl (by kernel_rfl) fun W0 hW => ?_
          have hS0 := GX.lay h4 (bdrew w4)
          rw [← hW] at hS0
          clear hW h4
          refine run_go [(0, gga0, (some 97)), (1, gga1, (some 98)), (2, gga2, (some 99)), (3, gga3, (some 100)), (4, gga4, (some 101)), (5, gga5, (some 102)), (6, gga6, (some 103)), (7, gga7, (some 104)), (8, gga8, (some 105)), (9, gga9, (some 106)), (10, gga10, (some 107)), (11, gga11, (some 108))] (by kernel_rfl) ?_
          iterate 12 (refine run_take ?_ rfl rfl (fun _ _ _ h => h) (Or.inl ⟨by rfl, ?_⟩) hS0 ?_; rotate_left; (· (intro w0 hy0; obtain ⟨k0, k1, k2, k3, k4, k5⟩ := GX.cells hy0; (go_simp <;> with_reducible rfl))); simp only [Act.put, List.setIfInBounds_toArray, List.set_cons_zero, List.set_cons_succ])
          refine run_end ?_
          refine jtwo 12 17 (by kernel_rfl) ?_ ?_
          · refine jop_call 12 gga12 (some 109) (.tuple #[.agg #[.int .i64 x1, .int .i64 x2, .int .i64 x3, .int .i64 k, .int .i64 u, .int .i64 p, .int .i64 a, .int .i64 x, .int .i64 y, .int .i64 z, .int .i64 t], .int .i64 own, .int .i64 0]) (fun Z9 => Becomes F (GX q qb qd most T D2 ⟨b0, l, es, false⟩ (.slice aj es.length cj)) w Z9) 41 #[.pointer (some ⟨qb, 0, none⟩), .string s, .int .i64 ((es.length : Int) + 1), .int .i64 l] ?_ rfl (by rfl) (gx_get (.tmp 97) (.tmp 98) (.tmp 104) (.tmp 108) rfl rfl rfl rfl rfl) (HG.out _ hS0) (fun _ hX => hX) ?_
            · rfl
            intro W2 hS2
            simp only [Act.put, List.setIfInBounds_toArray, List.set_cons_zero, List.set_cons_succ]
            refine run_go [(13, gga13, (some 96)), (14, gga14, (some 110)), (15, gga15, (some 111)), (16, gga16, (some 112))] (by kernel_rfl) ?_
            iterate 4 (refine run_take ?_ rfl rfl (fun _ _ _ h => h) (Or.inl ⟨by rfl, ?_⟩) hS2 ?_; rotate_left; (· (intro w0 hy0; obtain ⟨k0, k1, k2, k3, k4, k5⟩ := GX.cells hy0; (go_simp <;> with_reducible rfl))); simp only [Act.put, List.setIfInBounds_toArray, List.set_cons_zero, List.set_cons_succ])
            refine run_end ?_
            have hS3 := GX.lay hS2 (balloc W2 (.cells Z11 74))
            have hS4 := GX.lay hS2 (balloc W2 (.cells #[.int .i64 x1, .int .i64 x2, .int .i64 x3, .int .i64 k, .int .i64 u, .int .i64 p, .int .i64 a, .int .i64 x, .int .i64 y, .int .i64 z, .int .i64 t] 74))
            refine held_one 17 gga17 (some 20) (.pointer (some ⟨W2.heap.size, 0, none⟩)) _ (by kernel_rfl) rfl rfl (by rfl) (jexec_alloc_rc rfl) hS3 ?_
            simp only [Act.put, List.setIfInBounds_toArray, List.set_cons_zero, List.set_cons_succ]
            refine held_void 18 gga18 _ (by kernel_rfl) rfl (by rfl) (jexec_store_rc (.tmp 20) (.tmp 110) rfl x1 x2 x3 k u p a x y z t rfl rfl) hS4 ?_
            simp only [Act.put, List.setIfInBounds_toArray, List.set_cons_zero, List.set_cons_succ]
            refine run_go [(19, gga19, (some 21)), (20, gga20, (some 22))] (by kernel_rfl) ?_
            iterate 2 (refine run_take ?_ rfl rfl (fun _ _ _ h => h) (Or.inl ⟨by rfl, ?_⟩) hS4 ?_; rotate_left; (· (intro w0 hy0; obtain ⟨k0, k1, k2, k3, k4, k5⟩ := GX.cells hy0; (go_simp <;> with_reducible rfl))); simp only [Act.put, List.setIfInBounds_toArray, List.set_cons_zero, List.set_cons_succ])
            refine run_end ?_
            refine wpAnyH_done (by kernel_rfl) ?_ _
            have hY := hS2.hold (GX_good _ _ _ _ _ _ _ _) #[.int .i64 x1, .int .i64 x2, .int .i64 x3, .int .i64 k, .int .i64 u, .int .i64 p, .int .i64 a, .int .i64 x, .int .i64 y, .int .i64 z, .int .i64 t] 74
            clear hS0 hS2 hS3 hS4
            have k50 := (GX.cells hY.drop).2.2.2.2.2
            clear HG HGo HRd
            go_wp2
            refine region_held (S := fun Z8 => ∀ i, Z8.cell? ⟨W2.heap.size, i, none⟩ = (#[.int .i64 x1, .int .i64 x2, .int .i64 x3, .int .i64 k, .int .i64 u, .int .i64 p, .int .i64 a, .int .i64 x, .int .i64 y, .int .i64 z, .int .i64 t] : Array Value)[i]?) 12 [false, false, false, false, false, false, false, false, false, false, false, false] rfl rfl (by kernel_rfl) fun V0 hV => ?_
            have hV0 := Becomes.lay ((ownA_good _ _ _).star (GX_good _ _ _ _ _ _ _ _)) hY (bdrew _)
            rw [← hV] at hV0
            have hC0 := hV0.own.1
            have k5 := (GX.cells hV0.drop).2.2.2.2.2
            clear hV hY
            refine run_go [(0, ggb0, (some 115)), (1, ggb1, (some 116)), (2, ggb2, (some 117)), (3, ggb3, (some 118)), (5, ggb5, (some 120)), (6, ggb6, (some 121))] (by kernel_rfl) ?_
            iterate 6 (refine run_take ?_ rfl rfl (fun _ _ _ h => h) (Or.inl ⟨by rfl, ?_⟩) hC0 ?_; rotate_left; (· (intro w0 hy0; have e3 := hy0 3; have e4 := hy0 4; have e5 := hy0 5; have e6 := hy0 6; have e7 := hy0 7; have e8 := hy0 8; have e9 := hy0 9; have e10 := hy0 10; (go_simp <;> with_reducible rfl))); simp only [Act.put, List.setIfInBounds_toArray, List.set_cons_zero, List.set_cons_succ])
            refine run_end ?_
            have hV1 := hV0.lay ((ownA_good _ _ _).star (GX_good _ _ _ _ _ _ _ _)) (balloc V0 (.cells (Ev.cs (⟨k, u, p, a, x, y, z, t⟩ : Ev)).toArray TE))
            have hC1 := hV1.own.1
            have k51 := (GX.cells hV1.drop).2.2.2.2.2
            have hE1 := EsAt.new V0 (⟨k, u, p, a, x, y, z, t⟩ : Ev)
            obtain ⟨v', V2, hr, hrow, hgr, hnil, hlo⟩ := run_app_ev (es := [(⟨k, u, p, a, x, y, z, t⟩ : Ev)]) ggb8.type es (GY.row hV1.drop) (some ⟨V0.heap.size, 0, none⟩) 1 1 rfl (by have := HLt.out; omega) (.inr ⟨_, _, rfl, hE1⟩)
            have hV2 := GY.appended1 (ownA_good _ _ _) hV1 (n := 1) (es := [(⟨k, u, p, a, x, y, z, t⟩ : Ev)]) rfl hrow hgr (hlo.imp id fun e => ⟨_, Nat.le_refl _, e⟩)
            have hC2 := hV2.own.1
            obtain ⟨a2, c2, hv2⟩ := rowE_shape hrow
            subst hv2
            have hst := store_es (w := V2) q 5 a2 (es.length + 1) c2 (hV2.drop.own.1 5) (hV2.drop.own.2.1 5)
            have hV3 := GY.set1 (ownA_good _ _ _) hV2 5 (.slice a2 (es.length + 1) c2)
            have hC3 := hV3.own.1
            have j3 := hV3.drop.own.1 3
            have g3 := hV3.drop.own.2.1 3
            have hV4 := GY.set hV3.drop 3 (.int .i64 own)
            have m5 : World.cell? _ ⟨q, 5, none⟩ = some (.slice a2 (es.length + 1) c2) := hV4.own.1 5
            clear hV0 hV1 hV2 hrow hgr hlo hnil hE1
            refine jtwo 4 7 (by kernel_rfl) ?_ ?_
            · refine jop_one 4 ggb4 (some 119) (.slice aj es.length cj) V0 ?_ rfl (by rfl) (jexec_load_es (.tmp 118) rfl q 5 rfl k5) hC0 ?_
              · rfl
              simp only [Act.put, List.setIfInBounds_toArray, List.set_cons_zero, List.set_cons_succ]
              refine held_one 7 ggb7 (some 122) (.slice (some ⟨V0.heap.size, 0, none⟩) 1 1) _ (by kernel_rfl) rfl rfl (by rfl) (jexec_slice_ev (.tmp 121) rfl (⟨k, u, p, a, x, y, z, t⟩ : Ev) rfl) hC1 ?_
              simp only [Act.put, List.setIfInBounds_toArray, List.set_cons_zero, List.set_cons_succ]
              refine held_one 8 ggb8 (some 123) (.slice a2 (es.length + 1) c2) V2 (by kernel_rfl) rfl rfl (by rfl) (exec_append (.tmp 119) (.tmp 122) 36 rfl rfl rfl hr) hC2 ?_
              simp only [Act.put, List.setIfInBounds_toArray, List.set_cons_zero, List.set_cons_succ]
              refine run_go [(9, ggb9, (some 124)), (10, ggb10, (some 125))] (by kernel_rfl) ?_
              iterate 2 (refine run_take ?_ rfl rfl (fun _ _ _ h => h) (Or.inl ⟨by rfl, ?_⟩) hC2 ?_; rotate_left; (· (intro w0 hy0; have e3 := hy0 3; have e4 := hy0 4; have e5 := hy0 5; have e6 := hy0 6; have e7 := hy0 7; have e8 := hy0 8; have e9 := hy0 9; have e10 := hy0 10; (go_simp <;> with_reducible rfl))); simp only [Act.put, List.setIfInBounds_toArray, List.set_cons_zero, List.set_cons_succ])
              refine run_end ?_
              refine held_void 11 ggb11 _ (by kernel_rfl) rfl (by rfl) (exec_store 36 (.tmp 125) (.tmp 123) rfl rfl rfl hst) hC3 ?_
              simp only [Act.put, List.setIfInBounds_toArray, List.set_cons_zero, List.set_cons_succ]
              refine wpAnyH_done (by kernel_rfl) ?_ _
              clear hC0 hC1 hC2 hC3 k5 k51 hst hr
              go_wp2
              go_round
              case rel => exact ⟨es ++ [(⟨k, u, p, a, x, y, z, t⟩ : Ev)], own, a2, c2, HYes.out, by rw [List.length_append]; have := HLt.out; show es.length + 1 + 2 ≤ _; omega, by rw [List.length_append]; exact hV4⟩
              case measure => rw [m5, HM.out]; simp only [rowN]; have := HB.out; omega
            · refine jop_one 7 ggb7 (some 122) (.slice (some ⟨V0.heap.size, 0, none⟩) 1 1) _ ?_ rfl (by rfl) (jexec_slice_ev (.tmp 121) rfl (⟨k, u, p, a, x, y, z, t⟩ : Ev) rfl) hC1 ?_
              · rfl
              simp only [Act.put, List.setIfInBounds_toArray, List.set_cons_zero, List.set_cons_succ]
              refine held_one 4 ggb4 (some 119) (.slice aj es.length cj) _ (by kernel_rfl) rfl rfl (by rfl) (jexec_load_es (.tmp 118) rfl q 5 rfl k51) hC1 ?_
              simp only [Act.put, List.setIfInBounds_toArray, List.set_cons_zero, List.set_cons_succ]
              refine held_one 8 ggb8 (some 123) (.slice a2 (es.length + 1) c2) V2 (by kernel_rfl) rfl rfl (by rfl) (exec_append (.tmp 119) (.tmp 122) 36 rfl rfl rfl hr) hC2 ?_
              simp only [Act.put, List.setIfInBounds_toArray, List.set_cons_zero, List.set_cons_succ]
              refine run_go [(9, ggb9, (some 124)), (10, ggb10, (some 125))] (by kernel_rfl) ?_
              iterate 2 (refine run_take ?_ rfl rfl (fun _ _ _ h => h) (Or.inl ⟨by rfl, ?_⟩) hC2 ?_; rotate_left; (· (intro w0 hy0; have e3 := hy0 3; have e4 := hy0 4; have e5 := hy0 5; have e6 := hy0 6; have e7 := hy0 7; have e8 := hy0 8; have e9 := hy0 9; have e10 := hy0 10; (go_simp <;> with_reducible rfl))); simp only [Act.put, List.setIfInBounds_toArray, List.set_cons_zero, List.set_cons_succ])
              refine run_end ?_
              refine held_void 11 ggb11 _ (by kernel_rfl) rfl (by rfl) (exec_store 36 (.tmp 125) (.tmp 123) rfl rfl rfl hst) hC3 ?_
              simp only [Act.put, List.setIfInBounds_toArray, List.set_cons_zero, List.set_cons_succ]
              refine wpAnyH_done (by kernel_rfl) ?_ _
              clear hC0 hC1 hC2 hC3 k5 k51 hst hr
              go_wp2
              go_round
              case rel => exact ⟨es ++ [(⟨k, u, p, a, x, y, z, t⟩ : Ev)], own, a2, c2, HYes.out, by rw [List.length_append]; have := HLt.out; show es.length + 1 + 2 ≤ _; omega, by rw [List.length_append]; exact hV4⟩
              case measure => rw [m5, HM.out]; simp only [rowN]; have := HB.out; omega
          · have hH := hS0.hold (GX_good _ _ _ _ _ _ _ _) Z11 74
            refine jop_one 17 gga17 (some 20) (.pointer (some ⟨W0.heap.size, 0, none⟩)) _ ?_ rfl (by rfl) (jexec_alloc_rc rfl) hH.drop ?_
            · rfl
            simp only [Act.put, List.setIfInBounds_toArray, List.set_cons_zero, List.set_cons_succ]
            have hGo := Becomes.under (ownA_good _ _ _) hH (R := fun e _ => e = .returned (.tuple #[.agg #[.int .i64 x1, .int .i64 x2, .int .i64 x3, .int .i64 k, .int .i64 u, .int .i64 p, .int .i64 a, .int .i64 x, .int .i64 y, .int .i64 z, .int .i64 t], .int .i64 own, .int .i64 0])) (fun F2 h2 => HGo.out F2 _ h2)
            refine held_call 12 gga12 (some 109) (.tuple #[.agg #[.int .i64 x1, .int .i64 x2, .int .i64 x3, .int .i64 k, .int .i64 u, .int .i64 p, .int .i64 a, .int .i64 x, .int .i64 y, .int .i64 z, .int .i64 t], .int .i64 own, .int .i64 0]) (fun Z9 => Becomes F ((ownA W0.heap.size Z11 74).star (GX q qb qd most T D2 ⟨b0, l, es, false⟩ (.slice aj es.length cj))) w Z9) 41 #[.pointer (some ⟨qb, 0, none⟩), .string s, .int .i64 ((es.length : Int) + 1), .int .i64 l] (by kernel_rfl) rfl rfl (by rfl) (gx_get (.tmp 97) (.tmp 98) (.tmp 104) (.tmp 108) rfl rfl rfl rfl rfl) hGo (fun _ hX => hX.drop) ?_
            intro W3 hT
            simp only [Act.put, List.setIfInBounds_toArray, List.set_cons_zero, List.set_cons_succ]
            have hS5 := hT.drop
            refine run_go [(13, gga13, (some 96)), (14, gga14, (some 110)), (15, gga15, (some 111)), (16, gga16, (some 112))] (by kernel_rfl) ?_
            iterate 4 (refine run_take ?_ rfl rfl (fun _ _ _ h => h) (Or.inl ⟨by rfl, ?_⟩) hS5 ?_; rotate_left; (· (intro w0 hy0; obtain ⟨k0, k1, k2, k3, k4, k5⟩ := GX.cells hy0; (go_simp <;> with_reducible rfl))); simp only [Act.put, List.setIfInBounds_toArray, List.set_cons_zero, List.set_cons_succ])
            refine run_end ?_
            obtain ⟨e1, f1, g1⟩ := hT.own
            have hY := Becomes.poke_all (GX_good _ _ _ _ _ _ _ _) x1 x2 x3 k u p a x y z t hT
            have hS6 := hY.drop
            refine held_void 18 gga18 _ (by kernel_rfl) rfl (by rfl) (jexec_store_own (.tmp 20) (.tmp 110) rfl W0.heap.size e1 f1 g1 x1 x2 x3 k u p a x y z t rfl rfl) hS6 ?_
            simp only [Act.put, List.setIfInBounds_toArray, List.set_cons_zero, List.set_cons_succ]
            refine run_go [(19, gga19, (some 21)), (20, gga20, (some 22))] (by kernel_rfl) ?_
            iterate 2 (refine run_take ?_ rfl rfl (fun _ _ _ h => h) (Or.inl ⟨by rfl, ?_⟩) hS6 ?_; rotate_left; (· (intro w0 hy0; obtain ⟨k0, k1, k2, k3, k4, k5⟩ := GX.cells hy0; (go_simp <;> with_reducible rfl))); simp only [Act.put, List.setIfInBounds_toArray, List.set_cons_zero, List.set_cons_succ])
            refine run_end ?_
            refine wpAnyH_done (by kernel_rfl) ?_ _
            clear hS0 hH hT hS5 hS6 e1 f1 g1 hGo
            have k50 := (GX.cells hY.drop).2.2.2.2.2
            clear HG HGo HRd
            go_wp2
            refine region_held (S := fun Z8 => ∀ i, Z8.cell? ⟨W0.heap.size, i, none⟩ = (#[.int .i64 x1, .int .i64 x2, .int .i64 x3, .int .i64 k, .int .i64 u, .int .i64 p, .int .i64 a, .int .i64 x, .int .i64 y, .int .i64 z, .int .i64 t] : Array Value)[i]?) 12 [false, false, false, false, false, false, false, false, false, false, false, false] rfl rfl (by kernel_rfl) fun V0 hV => ?_
            have hV0 := Becomes.lay ((ownA_good _ _ _).star (GX_good _ _ _ _ _ _ _ _)) hY (bdrew _)
            rw [← hV] at hV0
            have hC0 := hV0.own.1
            have k5 := (GX.cells hV0.drop).2.2.2.2.2
            clear hV hY
            refine run_go [(0, ggb0, (some 115)), (1, ggb1, (some 116)), (2, ggb2, (some 117)), (3, ggb3, (some 118)), (5, ggb5, (some 120)), (6, ggb6, (some 121))] (by kernel_rfl) ?_
            iterate 6 (refine run_take ?_ rfl rfl (fun _ _ _ h => h) (Or.inl ⟨by rfl, ?_⟩) hC0 ?_; rotate_left; (· (intro w0 hy0; have e3 := hy0 3; have e4 := hy0 4; have e5 := hy0 5; have e6 := hy0 6; have e7 := hy0 7; have e8 := hy0 8; have e9 := hy0 9; have e10 := hy0 10; (go_simp <;> with_reducible rfl))); simp only [Act.put, List.setIfInBounds_toArray, List.set_cons_zero, List.set_cons_succ])
            refine run_end ?_
            have hV1 := hV0.lay ((ownA_good _ _ _).star (GX_good _ _ _ _ _ _ _ _)) (balloc V0 (.cells (Ev.cs (⟨k, u, p, a, x, y, z, t⟩ : Ev)).toArray TE))
            have hC1 := hV1.own.1
            have k51 := (GX.cells hV1.drop).2.2.2.2.2
            have hE1 := EsAt.new V0 (⟨k, u, p, a, x, y, z, t⟩ : Ev)
            obtain ⟨v', V2, hr, hrow, hgr, hnil, hlo⟩ := run_app_ev (es := [(⟨k, u, p, a, x, y, z, t⟩ : Ev)]) ggb8.type es (GY.row hV1.drop) (some ⟨V0.heap.size, 0, none⟩) 1 1 rfl (by have := HLt.out; omega) (.inr ⟨_, _, rfl, hE1⟩)
            have hV2 := GY.appended1 (ownA_good _ _ _) hV1 (n := 1) (es := [(⟨k, u, p, a, x, y, z, t⟩ : Ev)]) rfl hrow hgr (hlo.imp id fun e => ⟨_, Nat.le_refl _, e⟩)
            have hC2 := hV2.own.1
            obtain ⟨a2, c2, hv2⟩ := rowE_shape hrow
            subst hv2
            have hst := store_es (w := V2) q 5 a2 (es.length + 1) c2 (hV2.drop.own.1 5) (hV2.drop.own.2.1 5)
            have hV3 := GY.set1 (ownA_good _ _ _) hV2 5 (.slice a2 (es.length + 1) c2)
            have hC3 := hV3.own.1
            have j3 := hV3.drop.own.1 3
            have g3 := hV3.drop.own.2.1 3
            have hV4 := GY.set hV3.drop 3 (.int .i64 own)
            have m5 : World.cell? _ ⟨q, 5, none⟩ = some (.slice a2 (es.length + 1) c2) := hV4.own.1 5
            clear hV0 hV1 hV2 hrow hgr hlo hnil hE1
            refine jtwo 4 7 (by kernel_rfl) ?_ ?_
            · refine jop_one 4 ggb4 (some 119) (.slice aj es.length cj) V0 ?_ rfl (by rfl) (jexec_load_es (.tmp 118) rfl q 5 rfl k5) hC0 ?_
              · rfl
              simp only [Act.put, List.setIfInBounds_toArray, List.set_cons_zero, List.set_cons_succ]
              refine held_one 7 ggb7 (some 122) (.slice (some ⟨V0.heap.size, 0, none⟩) 1 1) _ (by kernel_rfl) rfl rfl (by rfl) (jexec_slice_ev (.tmp 121) rfl (⟨k, u, p, a, x, y, z, t⟩ : Ev) rfl) hC1 ?_
              simp only [Act.put, List.setIfInBounds_toArray, List.set_cons_zero, List.set_cons_succ]
              refine held_one 8 ggb8 (some 123) (.slice a2 (es.length + 1) c2) V2 (by kernel_rfl) rfl rfl (by rfl) (exec_append (.tmp 119) (.tmp 122) 36 rfl rfl rfl hr) hC2 ?_
              simp only [Act.put, List.setIfInBounds_toArray, List.set_cons_zero, List.set_cons_succ]
              refine run_go [(9, ggb9, (some 124)), (10, ggb10, (some 125))] (by kernel_rfl) ?_
              iterate 2 (refine run_take ?_ rfl rfl (fun _ _ _ h => h) (Or.inl ⟨by rfl, ?_⟩) hC2 ?_; rotate_left; (· (intro w0 hy0; have e3 := hy0 3; have e4 := hy0 4; have e5 := hy0 5; have e6 := hy0 6; have e7 := hy0 7; have e8 := hy0 8; have e9 := hy0 9; have e10 := hy0 10; (go_simp <;> with_reducible rfl))); simp only [Act.put, List.setIfInBounds_toArray, List.set_cons_zero, List.set_cons_succ])
              refine run_end ?_
              refine held_void 11 ggb11 _ (by kernel_rfl) rfl (by rfl) (exec_store 36 (.tmp 125) (.tmp 123) rfl rfl rfl hst) hC3 ?_
              simp only [Act.put, List.setIfInBounds_toArray, List.set_cons_zero, List.set_cons_succ]
              refine wpAnyH_done (by kernel_rfl) ?_ _
              clear hC0 hC1 hC2 hC3 k5 k51 hst hr
              go_wp2
              go_round
              case rel => exact ⟨es ++ [(⟨k, u, p, a, x, y, z, t⟩ : Ev)], own, a2, c2, HYes.out, by rw [List.length_append]; have := HLt.out; show es.length + 1 + 2 ≤ _; omega, by rw [List.length_append]; exact hV4⟩
              case measure => rw [m5, HM.out]; simp only [rowN]; have := HB.out; omega
            · refine jop_one 7 ggb7 (some 122) (.slice (some ⟨V0.heap.size, 0, none⟩) 1 1) _ ?_ rfl (by rfl) (jexec_slice_ev (.tmp 121) rfl (⟨k, u, p, a, x, y, z, t⟩ : Ev) rfl) hC1 ?_
              · rfl
              simp only [Act.put, List.setIfInBounds_toArray, List.set_cons_zero, List.set_cons_succ]
              refine held_one 4 ggb4 (some 119) (.slice aj es.length cj) _ (by kernel_rfl) rfl rfl (by rfl) (jexec_load_es (.tmp 118) rfl q 5 rfl k51) hC1 ?_
              simp only [Act.put, List.setIfInBounds_toArray, List.set_cons_zero, List.set_cons_succ]
              refine held_one 8 ggb8 (some 123) (.slice a2 (es.length + 1) c2) V2 (by kernel_rfl) rfl rfl (by rfl) (exec_append (.tmp 119) (.tmp 122) 36 rfl rfl rfl hr) hC2 ?_
              simp only [Act.put, List.setIfInBounds_toArray, List.set_cons_zero, List.set_cons_succ]
              refine run_go [(9, ggb9, (some 124)), (10, ggb10, (some 125))] (by kernel_rfl) ?_
              iterate 2 (refine run_take ?_ rfl rfl (fun _ _ _ h => h) (Or.inl ⟨by rfl, ?_⟩) hC2 ?_; rotate_left; (· (intro w0 hy0; have e3 := hy0 3; have e4 := hy0 4; have e5 := hy0 5; have e6 := hy0 6; have e7 := hy0 7; have e8 := hy0 8; have e9 := hy0 9; have e10 := hy0 10; (go_simp <;> with_reducible rfl))); simp only [Act.put, List.setIfInBounds_toArray, List.set_cons_zero, List.set_cons_succ])
              refine run_end ?_
              refine held_void 11 ggb11 _ (by kernel_rfl) rfl (by rfl) (exec_store 36 (.tmp 125) (.tmp 123) rfl rfl rfl hst) hC3 ?_
              simp only [Act.put, List.setIfInBounds_toArray, List.set_cons_zero, List.set_cons_succ]
              refine wpAnyH_done (by kernel_rfl) ?_ _
              clear hC0 hC1 hC2 hC3 k5 k51 hst hr
              go_wp2
              go_round
              case rel => exact ⟨es ++ [(⟨k, u, p, a, x, y, z, t⟩ : Ev)], own, a2, c2, HYes.out, by rw [List.length_append]; have := HLt.out; show es.length + 1 + 2 ≤ _; omega, by rw [List.length_append]; exact hV4⟩
              case measure => rw [m5, HM.out]; simp only [rowN]; have := HB.out; omega
      · have e800 := Dk.rd_end HUp.out (i := un) (by omega)
        have hdn := hp.done (by rw [List.length_drop, HLen.out]; omega)
        rw [e800] at hRd
        have HRd := Lib.hid hRd
        have HDn := Lib.hid hdn
        generalize D2.rdS (un : Int) = s at *
        clear hRd hdn e800 hp hle hlt hu hok
        go_wp2_with (go_at_call 64; (with_reducible refine (HRd.out _ hS).mono ?_); rintro e w4 ⟨rfl, h4⟩)
        go_ret2
        refine HFin.out _ _ ⟨q, rfl, ?_⟩
        rw [HDn.out]
        exact Becomes.hidg (v := .slice aj es.length cj) h4
end
theorem gopen (h : Becomes F (RB qb qd most ts d) w W) (ho : d.Ok) (hl : ts.length ≤ 1000000) (hn : d.waits.length ≤ 1000000) :
    Calls Tryz.prog 46 #[.pointer (some ⟨qb, 0, none⟩), .pointer (some ⟨qd, 0, none⟩)] W (GOpen F qb qd most ts d w) := by
  cases hd : d.down with
  | true =>
    have e1 : joE most ts d = 1102 := by unfold joE; rw [hd]; rfl
    have e2 : joT most ts d = ts := by unfold joT; rw [hd]; rfl
    exact (gopen_down h hd).mono fun e w' ⟨g1, g2⟩ => .inr ⟨by rw [e1]; decide, by rw [e1, g1], by rw [e2]; exact g2⟩
  | false =>
    by_cases hk : d.kept.length < 3
    · have e1 : joE most ts d = 1100 := by unfold joE; rw [hd, if_neg (by decide), if_pos hk]
      have e2 : joT most ts d = ts := by unfold joT; rw [hd, if_neg (by decide), if_pos hk]
      exact (gopen_small h ho hd hk).mono fun e w' ⟨g1, g2⟩ => .inr ⟨by rw [e1]; decide, by rw [e1, g1], by rw [e2]; exact g2⟩
    · have hmost := ho.most
      obtain ⟨z0, e0⟩ := Dk.rd_up ho hd (i := 0) (by omega)
      obtain ⟨z1, e1⟩ := Dk.rd_up ho hd (i := 1) (by omega)
      obtain ⟨z2, e2⟩ := Dk.rd_up ho hd (i := 2) (by omega)
      have hT : joT most ts d = suT most ts (joB ts d) := by unfold joT; rw [hd, if_neg (by decide), if_neg hk]
      have hA : Ahead F qb qd most ts d w (pkX ts (d.rdS ((0 : Nat) : Int)) (d.rdS ((1 : Nat) : Int))) (pkP ts (d.rdS ((0 : Nat) : Int)) (d.rdS ((1 : Nat) : Int))) (pkE ts (d.rdS ((0 : Nat) : Int)) (d.rdS ((1 : Nat) : Int))) (d.rdS ((0 : Nat) : Int)) (d.rdS ((1 : Nat) : Int)) (d.rdS ((2 : Nat) : Int)) :=
        ⟨fun W h => by have := RB.disk (krread qd d ((0 : Nat) : Int)) h; rw [e0] at this; exact this, fun W h => by have := RB.disk (krread qd d ((1 : Nat) : Int)) h; rw [e1] at this; exact this, fun W h => by have := RB.disk (krread qd d ((2 : Nat) : Int)) h; rw [e2] at this; exact this, fun W h => RB.book (drpick qb most ts _ _ (by omega) (by omega)) h⟩
      have hpk : (pkE ts (d.rdS ((0 : Nat) : Int)) (d.rdS ((1 : Nat) : Int)) = 1001 ∧ pkX ts (d.rdS ((0 : Nat) : Int)) (d.rdS ((1 : Nat) : Int)) = 0 ∧ pkP ts (d.rdS ((0 : Nat) : Int)) (d.rdS ((1 : Nat) : Int)) = 0) ∨ (pkE ts (d.rdS ((0 : Nat) : Int)) (d.rdS ((1 : Nat) : Int)) = 0 ∧ 1 ≤ pkX ts (d.rdS ((0 : Nat) : Int)) (d.rdS ((1 : Nat) : Int)) ∧ pkX ts (d.rdS ((0 : Nat) : Int)) (d.rdS ((1 : Nat) : Int)) ≤ 1023) := by
        rcases pk_cases ts (d.rdS ((0 : Nat) : Int)) (d.rdS ((1 : Nat) : Int)) with c | ⟨c1, c2, c3, _⟩
        · exact .inl c
        · exact .inr ⟨c1, c2, c3⟩
      have hSu := fun W (h : Becomes F (RB qb qd most ts d) w W) => RB.book (drsput qb most ts (joB ts d) hl) h
      by_cases hS : suE most ts (joB ts d) = 0
      · have hE : joE most ts d = 0 := by unfold joE; rw [hd, if_neg (by decide), if_neg hk, if_pos hS]
        have hJD : joD most ts d = (d.wr (joP ts d) (suS most ts (joB ts d))).fl := by unfold joD; rw [if_pos hE]
        rw [hS] at hSu
        have hup := wr_up hd (joP ts d) (suS most ts (joB ts d))
        have hkl : (d.wr (joP ts d) (suS most ts (joB ts d))).fl.kept.length = d.kept.length := (Dk.len_fl _).trans (Dk.len_wr _ _ _)
        refine (gopen_yes (B := joB ts d) (T := suT most ts (joB ts d)) (D1 := d.wr (joP ts d) (suS most ts (joB ts d))) (D2 := (d.wr (joP ts d) (suS most ts (joB ts d))).fl) h hA hpk rfl hSu (fun W h => (RB.disk (krwrite qd d (joP ts d) (suS most ts (joB ts d)) hn) h).mono fun e w' ⟨g1, g2⟩ => ⟨⟨_, g1⟩, g2⟩) (fun W h => (RB.disk (krflush qd _) h).mono fun e w' ⟨g1, g2⟩ => ⟨⟨_, g1⟩, g2⟩) (by unfold Dk.fl; rw [hup, if_neg (by decide)]) (by omega) (by omega)).mono ?_
        rintro e w' ⟨q, g1, g2⟩
        refine .inl ⟨hE, q, g1, ?_⟩
        unfold joJ
        rw [hT, hJD]
        exact g2
      · have hE : joE most ts d = 1101 := by unfold joE; rw [hd, if_neg (by decide), if_neg hk, if_neg hS]
        rw [(su_no hS).1] at hSu
        exact (gopen_full h hA hpk rfl hSu).mono fun e w' ⟨g1, g2⟩ => .inr ⟨by rw [hE]; decide, by rw [hE, g1], by rw [hT]; exact g2⟩
end
end Go.Proofs.YtbfpfmidjdonjaaGreatDoor
