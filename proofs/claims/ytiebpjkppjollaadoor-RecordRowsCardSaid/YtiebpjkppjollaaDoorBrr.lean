/- Put together: Rcr0, Rcr1. Conditions: each theorem's own. -/
import Derived.Test.YtiebpjkppjollaaDoorRcaw
import Derived.Test.YtiebpjkppjollaaDoorBrs
import Derived.Test.YtiebpjkppjollaaDoorRcin
import Derived.Test.YtiebpjkppjollaaDoorReg
import Derived.Test.YtiebpjkppjollaaDoorIArg
import Derived.IntWalk
import Derived.Laws.BitsLemmas
import Derived.RegionTactic
namespace Go.Proofs.YtiebpjkppjollaaDoor
open Go Go.RowKit Go.Maps

/-- A row that the call itself makes, K cells an element. -/
def rowW (e : TypeId) (K : Nat) (v : Value) (n : Nat) (xs : List Value) : Ass := fun w F => w.ownsRow 0 e K v n xs ∧ F = v.ownBlock.toList
theorem rowW_good (e : TypeId) (K : Nat) (v : Value) (n : Nat) (xs : List Value) : (rowW e K v n xs).Good := by
  rintro w F ⟨h, rfl⟩
  refine ⟨fun k hk => (h.lt k (Option.mem_toList.1 hk)).2, fun w' hw' => ⟨⟨h.1, ?_⟩, rfl⟩⟩
  rcases h.2 with hn | ⟨g, cap, cur, rfl, hb, hgg, rest⟩
  · exact .inl hn
  · exact .inr ⟨g, cap, cur, rfl, hb, (hw' g (by simp [Value.ownBlock])).trans hgg, rest⟩
theorem At.wrow {e : TypeId} {K : Nat} {v : Value} {n : Nat} {xs : List Value} {C : Ass} {w0 w : World} (h : At w0 ((rowW e K v n xs).star C) w) : w.ownsRow 0 e K v n xs := by
  obtain ⟨_, ⟨_, _, _, ⟨h, _⟩, _⟩, _⟩ := h
  exact h
theorem At.wrow0 (e : TypeId) (K : Nat) {C : Ass} {w0 w : World} (h : At w0 C w) : At w0 ((rowW e K (.slice Option.none 0 0) 0 []).star C) w := by
  obtain ⟨F, h1, h2, h3⟩ := h
  exact ⟨F, ⟨[], F, rfl, ⟨World.ownsRow_nil _ _ _ _, rfl⟩, h1, fun k hk => by cases hk⟩, h2, h3⟩
theorem At.appendedW {e : TypeId} {K : Nat} {v v' : Value} {n m : Nat} {xs ys : List Value} {C : Ass} {w0 w w2 : World} (hC : C.Good) (h : At w0 ((rowW e K v n xs).star C) w) (hg : w.grownBy w2 v.ownBlock) (hr : w2.ownsRow 0 e K v' m ys)
    (hloc : v'.ownBlock = v.ownBlock ∨ ∃ k, w.heap.size ≤ k ∧ v'.ownBlock = some k) : At w0 ((rowW e K v' m ys).star C) w2 := by
  obtain ⟨F, ⟨F1, F2, rfl, ⟨h1, rfl⟩, h2, hd⟩, hB, hb⟩ := h
  have hbec : Becomes v.ownBlock.toList (rowW e K v' m ys) w w2 := by
    refine ⟨_, ⟨hr, rfl⟩, (Tn.refl _ _).grown hg (fun k hk => .inl (Option.mem_toList.2 hk)), fun k hk => ?_⟩
    have hk' := Option.mem_toList.1 hk
    rcases hloc with c | ⟨j, hj, c⟩
    · rw [c] at hk'; exact .inl (Option.mem_toList.2 hk')
    · rw [c] at hk'; cases hk'; exact .inr hj
  obtain ⟨F', g1, g2, g3⟩ := hbec.frameL hC h2 hd
  refine ⟨F', g1, fun k hk => ?_, hb.trans (g2.below hB hb.size)⟩
  rcases g3 k hk with c | c
  · exact hB k c
  · exact Nat.le_trans hb.size c
theorem infoRc : (Tryd.prog.info? 34).map (fun i => (i.zero, i.size, i.bytes)) = some (some (.agg #[.int .i64 0, .int .i64 0, .int .i64 0, .int .i64 0, .int .i64 0, .int .i64 0, .int .i64 0, .int .i64 0, .int .i64 0, .int .i64 0, .int .i64 0]), 11, 88) := by kernel_rfl
/-- A record's cells. -/
def Rc.cs (r : Rc) : List Value := [.int .i64 r.seq, .int .i64 r.boot, .int .i64 r.prev, .int .i64 r.ev.kind, .int .i64 r.ev.user, .int .i64 r.ev.session, .int .i64 r.ev.address, .int .i64 r.ev.a, .int .i64 r.ev.b, .int .i64 r.ev.c, .int .i64 r.ev.tick]
theorem Rc.cs_len (r : Rc) : r.cs.length = 11 := rfl
def rcells : List Rc → List Value
  | [] => []
  | r :: rs => r.cs ++ rcells rs
theorem rcells_len (rs : List Rc) : (rcells rs).length = rs.length * 11 := by
  induction rs with
  | nil => rfl
  | cons r rs ih => rw [rcells, List.length_append, ih, Rc.cs_len, List.length_cons]; omega
theorem rcells_app (rs : List Rc) (r : Rc) : rcells (rs ++ [r]) = rcells rs ++ r.cs := by
  induction rs with
  | nil => simp [rcells]
  | cons x rs ih => rw [List.cons_append, rcells, ih, rcells, List.append_assoc]
theorem rcells_at (rs : List Rc) {j : Nat} (hj : j < rs.length) {i : Nat} (hi : i < 11) : (rcells rs)[j * 11 + i]? = (rs.getD j Rc.zero).cs[i]? := by
  induction rs generalizing j with
  | nil => cases hj
  | cons r rs ih =>
    rw [rcells]
    cases j with
    | zero => rw [Nat.zero_mul, Nat.zero_add, List.getElem?_append_left (by rw [Rc.cs_len]; exact hi)]; rfl
    | succ j =>
      rw [List.getElem?_append_right (by rw [Rc.cs_len]; omega), Rc.cs_len, show (j + 1) * 11 + i - 11 = j * 11 + i by omega, ih (by simpa using hj)]
      rfl
theorem At.rec {v : Value} {rs : List Rc} {C : Ass} {w0 w : World} (h : At w0 ((rowW 34 11 v rs.length (rcells rs)).star C) w) {j : Nat} (hj : j < rs.length) : ∃ g cap, v = .slice (some ⟨g, 0, Option.none⟩) rs.length cap ∧ ∀ i, i < 11 → w.cell? ⟨g, j * 11 + i, Option.none⟩ = (rs.getD j Rc.zero).cs[i]? := by
  have hr := h.wrow
  rcases hr.2 with ⟨rfl, h0⟩ | ⟨g, cap, _, rfl, _⟩
  · omega
  · refine ⟨g, cap, rfl, fun i hi => ?_⟩
    have hx : ∃ u, (rs.getD j Rc.zero).cs[i]? = some u := ⟨_, List.getElem?_eq_getElem (by rw [Rc.cs_len]; exact hi)⟩
    obtain ⟨u, hu⟩ := hx
    have hc := hr.cells (g := g) rfl (j * 11 + i) u (by rw [rcells_at rs hj hi]; exact hu)
    rw [Addr.add_lit, Nat.zero_add] at hc
    rw [hu]; exact hc
theorem rowW_shape {w : World} {e : TypeId} {K : Nat} {v : Value} {n : Nat} {xs : List Value} (h : w.ownsRow 0 e K v n xs) : ∃ ao cap, v = .slice ao n cap := by
  rcases h.2 with ⟨rfl, h0⟩ | ⟨g, cap, _, rfl, _⟩
  · exact ⟨Option.none, 0, by rw [h0]⟩
  · exact ⟨_, cap, rfl⟩
theorem app_rec {w0 W : World} {C : Ass} (hC : C.Good) {ops : Array Oper} {rest : List Oper} {o : Oper} {a : Act} {Q : Exit → Act → World → Prop} (hgd : o.guard = Option.none) (s x : Operand)
    (ho : o.op = .call { callee := .builtin .append, args := #[s, x], argTypes := #[22, 22] }) (v : Value) (rs : List Rc) (r : Rc) (hs : a.eval s = v) (hx : a.eval x = .slice (some ⟨W.heap.size, 0, Option.none⟩) 1 1)
    (hS : At w0 ((rowW 34 11 v rs.length (rcells rs)).star C) W) (hn : rs.length ≤ 1000) (h : ∀ v' w', At w0 ((rowW 34 11 v' (rs ++ [r]).length (rcells (rs ++ [r]))).star C) w' → wpList Tryd.prog ops Q rest (a.put o.dst v') w') :
    wpList Tryd.prog ops Q (o :: rest) a (W.alloc (.cells r.cs.toArray 34)) := by
  obtain ⟨i, hi, hz0, hz1, hz2⟩ := info_parts infoRc
  refine wpList_append_own_at _ hgd s x 22 ho 0 34 i _ 11 88 Tryd.underlying22 hi hz0 hz1 hz2 rfl (by decide) v _ _ hs (hS.wrow.alloc _) ⟨W.heap.size, 0, Option.none⟩ 1 1 r.cs hx rfl (fun j u hu => ?_) ?_ ?_ ?_ (Nat.zero_le _) ?_
  · rw [Addr.add_lit, Nat.zero_add, cell_of_row _ W.heap.size j _ _ _ (heap_alloc_new W _), List.getElem?_toArray]
    exact hu
  · intro u hu; simp [Rc.cs] at hu; rcases hu with rfl | rfl | rfl | rfl | rfl | rfl | rfl | rfl | rfl | rfl | rfl <;> rfl
  · unfold maxLen; omega
  · omega
  · intro v' w' h1 h2 _ h4
    have hg := (World.grownBy_alloc W (.cells r.cs.toArray 34) _).trans h2
    refine h v' w' (At.appendedW hC hS hg ?_ ?_)
    · rw [rcells_app, List.length_append]; exact h1
    · rcases h4 with e | e
      · exact .inl e
      · exact .inr ⟨_, by simp, e⟩

/-- Chained records, so far. -/
structure Ch (T : List ByteArray) (ss : List ByteArray) (rs : List Rc) (ps : List Int) : Prop where
  l1 : ss.length = rs.length
  l2 : ps.length = rs.length + 1
  each : ∀ i, i < rs.length → (rs.getD i Rc.zero).may = true ∧ (rs.getD i Rc.zero).seq = (i : Int) + 1 ∧ (rs.getD i Rc.zero).prev = ps.getD i 0 ∧ (rs.getD i Rc.zero).tm ∈ T ∧ ps.getD (i + 1) 0 = (idx T (rs.getD i Rc.zero).tm : Nat) ∧ ss.getD i ⟨#[]⟩ = (rs.getD i Rc.zero).sec (ps.getD (i + 1) 0)
theorem Ch.start (T : List ByteArray) : Ch T [] [] [0] := ⟨rfl, rfl, fun i hi => by cases hi⟩
theorem Ch.keep {T : List ByteArray} {ss : List ByteArray} {rs : List Rc} {ps : List Int} (h : Ch T ss rs ps) (most : Int) (r : Rc) : Ch (rcT most T r) ss rs ps := by
  refine ⟨h.l1, h.l2, fun i hi => ?_⟩
  obtain ⟨a, b, c, d, e, f⟩ := h.each i hi
  obtain ⟨k1, k2⟩ := rcT_keep (most := most) r d
  exact ⟨a, b, c, k1, by rw [k2]; exact e, f⟩
theorem getD_app_left {α : Type} {l : List α} {x z : α} {i : Nat} (h : i < l.length) : (l ++ [x]).getD i z = l.getD i z := by simp [List.getD, List.getElem?_append_left h]
theorem getD_app_last {α : Type} {l : List α} {x z : α} : (l ++ [x]).getD l.length z = x := by simp [List.getD]
theorem Ch.push {T : List ByteArray} {ss : List ByteArray} {rs : List Rc} {ps : List Int} (h : Ch T ss rs ps) {most : Int} {r : Rc} (h1 : r.seq = (rs.length : Int) + 1) (h2 : r.prev = ps.getD rs.length 0) (he : rcE most T r = 0) :
    Ch (rcT most T r) (ss ++ [rcS most T r]) (rs ++ [r]) (ps ++ [rcN most T r]) := by
  obtain ⟨p1, p2, p3, p4⟩ := put_in he
  have hk := h.keep most r
  have l1 := h.l1
  have l2 := h.l2
  refine ⟨by simp [l1], by simp [l2], fun i hi => ?_⟩
  rw [List.length_append, List.length_singleton] at hi
  by_cases c : i < rs.length
  · obtain ⟨a, b, d, e, f, g⟩ := hk.each i c
    rw [getD_app_left c, getD_app_left (l := ps) (by omega), getD_app_left (l := ps) (by omega), getD_app_left (l := ss) (by omega)]
    exact ⟨a, b, d, e, f, g⟩
  · obtain rfl : i = rs.length := by omega
    rw [getD_app_last, getD_app_left (l := ps) (by omega), show rs.length + 1 = ps.length from l2.symm, getD_app_last, show rs.length = ss.length from l1.symm, getD_app_last, l1]
    exact ⟨p1, h1, h2, p2, p3, p4⟩
/-- What Get finds of the i-th in the j-th place. -/
theorem Ch.find {T : List ByteArray} {ss : List ByteArray} {rs : List Rc} {ps : List Int} (h : Ch T ss rs ps) (hT : T.length ≤ 1000000) {i j : Nat} (hi : i < rs.length) :
    (ss.getD i ⟨#[]⟩).size = 64 ∧ (i = j → rgR T (ss.getD i ⟨#[]⟩) ((j : Int) + 1) (ps.getD j 0) = rs.getD i Rc.zero ∧ rgN T (ss.getD i ⟨#[]⟩) ((j : Int) + 1) (ps.getD j 0) = ps.getD (i + 1) 0 ∧ rgE T (ss.getD i ⟨#[]⟩) ((j : Int) + 1) (ps.getD j 0) = 0) ∧
    (i ≠ j → rgR T (ss.getD i ⟨#[]⟩) ((j : Int) + 1) (ps.getD j 0) = Rc.zero ∧ rgN T (ss.getD i ⟨#[]⟩) ((j : Int) + 1) (ps.getD j 0) = 0 ∧ rgE T (ss.getD i ⟨#[]⟩) ((j : Int) + 1) (ps.getD j 0) = 901) := by
  obtain ⟨a, b, c, d, e, f⟩ := h.each i hi
  have ho : okNum (ps.getD (i + 1) 0) = true := by rw [e]; exact idx_ok d hT
  have hc : ckI T true (rs.getD i Rc.zero).tm (ps.getD (i + 1) 0) = true := by rw [e]; exact ckI_of d
  obtain ⟨_, f1, f2⟩ := find_of a ho hc ((j : Int) + 1) (ps.getD j 0)
  rw [← f] at f1 f2
  refine ⟨by rw [f]; exact Rc.sec_size _ _, fun hij => f1 ⟨by rw [b, hij], by rw [c, hij]⟩, fun hij => f2 (fun q => hij (by have := q.1; rw [b] at this; omega))⟩
end Go.Proofs.YtiebpjkppjollaaDoor

namespace Go.Proofs.YtiebpjkppjollaaDoor
open Go Go.RowKit

theorem EvIn.at {w : World} {ao : Option Addr} {xs : List Ev} (h : EvIn w ao xs) {j : Nat} (hj : j < xs.length) : ∃ b off, ao = some ⟨b, off, Option.none⟩ ∧ ∀ W, Below w.heap.size w W → W.cell? ⟨b, off + j * 8, Option.none⟩ = some (.int .i64 (xs.getD j Ev.zero).kind) ∧ W.cell? ⟨b, off + j * 8 + 1, Option.none⟩ = some (.int .i64 (xs.getD j Ev.zero).user) ∧ W.cell? ⟨b, off + j * 8 + 2, Option.none⟩ = some (.int .i64 (xs.getD j Ev.zero).session) ∧ W.cell? ⟨b, off + j * 8 + 3, Option.none⟩ = some (.int .i64 (xs.getD j Ev.zero).address) ∧ W.cell? ⟨b, off + j * 8 + 4, Option.none⟩ = some (.int .i64 (xs.getD j Ev.zero).a) ∧ W.cell? ⟨b, off + j * 8 + 5, Option.none⟩ = some (.int .i64 (xs.getD j Ev.zero).b) ∧ W.cell? ⟨b, off + j * 8 + 6, Option.none⟩ = some (.int .i64 (xs.getD j Ev.zero).c) ∧ W.cell? ⟨b, off + j * 8 + 7, Option.none⟩ = some (.int .i64 (xs.getD j Ev.zero).tick) := by
  obtain ⟨b, off, e, c0, c1, c2, c3, c4, c5, c6, c7⟩ := h.cell j hj
  have hl := World.block_lt_of_cell? w ⟨b, off + j * 8, Option.none⟩ c0
  refine ⟨b, off, e, fun W hb => ?_⟩
  have hk := fun i => World.cell?_of_block (a := ⟨b, i, Option.none⟩) (hb.block b hl)
  exact ⟨(hk _).trans c0, (hk _).trans c1, (hk _).trans c2, (hk _).trans c3, (hk _).trans c4, (hk _).trans c5, (hk _).trans c6, (hk _).trans c7⟩
abbrev ra0 : Oper := { dst := some 55, op := Op.move (Operand.tmp 8), type := 22, pos := "more.go:66", after := #[], guard := none }
abbrev ra1 : Oper := { dst := some 56, op := Op.call { callee := Callee.builtin Builtin.len, args := #[Operand.tmp 55], argTypes := #[22] }, type := 3, pos := "more.go:66", after := #[{ on := 0, ground := Ground.data }], guard := none }
abbrev ra2 : Oper := { dst := some 57, op := Op.binOp BinOp.add 3 (Operand.tmp 56) (Operand.const (Value.int IntKind.i64 1)) 3, type := 3, pos := "more.go:66", after := #[{ on := 1, ground := Ground.data }], guard := none }
abbrev ra3 : Oper := { dst := some 58, op := Op.move (Operand.tmp 11), type := 3, pos := "more.go:66", after := #[], guard := none }
abbrev ra4 : Oper := { dst := some 59, op := Op.move (Operand.tmp 9), type := 52, pos := "more.go:66", after := #[], guard := none }
abbrev ra5 : Oper := { dst := some 60, op := Op.move (Operand.tmp 9), type := 52, pos := "more.go:66", after := #[], guard := none }
abbrev ra6 : Oper := { dst := some 61, op := Op.call { callee := Callee.builtin Builtin.len, args := #[Operand.tmp 60], argTypes := #[52] }, type := 3, pos := "more.go:66", after := #[{ on := 5, ground := Ground.data }], guard := none }
abbrev ra7 : Oper := { dst := some 62, op := Op.binOp BinOp.sub 3 (Operand.tmp 61) (Operand.const (Value.int IntKind.i64 1)) 3, type := 3, pos := "more.go:66", after := #[{ on := 6, ground := Ground.data }], guard := none }
abbrev ra8 : Oper := { dst := some 63, op := Op.indexAddr 52 (Operand.tmp 59) (Operand.tmp 62), type := 0, pos := "more.go:66", after := #[{ on := 4, ground := Ground.data }, { on := 7, ground := Ground.data }], guard := none }
abbrev ra9 : Oper := { dst := some 64, op := Op.load 3 (Operand.tmp 63), type := 3, pos := "more.go:66", after := #[{ on := 8, ground := Ground.data }], guard := none }
abbrev ra10 : Oper := { dst := some 65, op := Op.move (Operand.tmp 0), type := 51, pos := "more.go:66", after := #[], guard := none }
abbrev ra11 : Oper := { dst := some 66, op := Op.move (Operand.tmp 10), type := 3, pos := "more.go:66", after := #[], guard := none }
abbrev ra12 : Oper := { dst := some 67, op := Op.indexAddr 51 (Operand.tmp 65) (Operand.tmp 66), type := 0, pos := "more.go:66", after := #[{ on := 10, ground := Ground.data }, { on := 11, ground := Ground.data }], guard := none }
abbrev ra13 : Oper := { dst := some 68, op := Op.load 32 (Operand.tmp 67), type := 32, pos := "more.go:66", after := #[{ on := 12, ground := Ground.data }], guard := none }
abbrev ra14 : Oper := { dst := some 69, op := Op.build 34 #[(0, Operand.tmp 57), (1, Operand.tmp 58), (2, Operand.tmp 64), (3, Operand.tmp 68)], type := 34, pos := "more.go:66", after := #[{ on := 2, ground := Ground.data }, { on := 3, ground := Ground.data }, { on := 9, ground := Ground.data }, { on := 13, ground := Ground.data }], guard := none }
abbrev ra15 : Oper := { dst := some 12, op := Op.alloc 34, type := 0, pos := "more.go:66", after := #[], guard := none }
abbrev ra16 : Oper := { dst := none, op := Op.store 34 (Operand.tmp 12) (Operand.tmp 69), type := 0, pos := "more.go:66", after := #[{ on := 15, ground := Ground.data }, { on := 14, ground := Ground.data }, { on := 0, ground := Ground.phase }, { on := 1, ground := Ground.phase }, { on := 2, ground := Ground.phase }, { on := 3, ground := Ground.phase }, { on := 4, ground := Ground.phase }, { on := 5, ground := Ground.phase }, { on := 6, ground := Ground.phase }, { on := 7, ground := Ground.phase }, { on := 8, ground := Ground.phase }, { on := 9, ground := Ground.phase }, { on := 10, ground := Ground.phase }, { on := 11, ground := Ground.phase }, { on := 12, ground := Ground.phase }, { on := 13, ground := Ground.phase }, { on := 14, ground := Ground.phase }, { on := 15, ground := Ground.phase }], guard := none }
abbrev rb0 : Oper := { dst := some 105, op := Op.move (Operand.tmp 5), type := 23, pos := "more.go:77", after := #[], guard := none }
abbrev rb1 : Oper := { dst := some 106, op := Op.move (Operand.tmp 7), type := 53, pos := "more.go:77", after := #[], guard := none }
abbrev rb2 : Oper := { dst := some 107, op := Op.move (Operand.tmp 16), type := 3, pos := "more.go:77", after := #[], guard := none }
abbrev rb3 : Oper := { dst := some 108, op := Op.indexAddr 53 (Operand.tmp 106) (Operand.tmp 107), type := 0, pos := "more.go:77", after := #[{ on := 1, ground := Ground.data }, { on := 2, ground := Ground.data }], guard := none }
abbrev rb4 : Oper := { dst := some 109, op := Op.load 9 (Operand.tmp 108), type := 9, pos := "more.go:77", after := #[{ on := 3, ground := Ground.data }], guard := none }
abbrev rb5 : Oper := { dst := some 110, op := Op.move (Operand.tmp 17), type := 3, pos := "more.go:77", after := #[], guard := none }
abbrev rb6 : Oper := { dst := some 111, op := Op.binOp BinOp.add 3 (Operand.tmp 110) (Operand.const (Value.int IntKind.i64 1)) 3, type := 3, pos := "more.go:77", after := #[{ on := 5, ground := Ground.data }], guard := none }
abbrev rb7 : Oper := { dst := some 112, op := Op.move (Operand.tmp 9), type := 52, pos := "more.go:77", after := #[], guard := none }
abbrev rb8 : Oper := { dst := some 113, op := Op.move (Operand.tmp 17), type := 3, pos := "more.go:77", after := #[], guard := none }
abbrev rb9 : Oper := { dst := some 114, op := Op.indexAddr 52 (Operand.tmp 112) (Operand.tmp 113), type := 0, pos := "more.go:77", after := #[{ on := 7, ground := Ground.data }, { on := 8, ground := Ground.data }], guard := none }
abbrev rb10 : Oper := { dst := some 115, op := Op.load 3 (Operand.tmp 114), type := 3, pos := "more.go:77", after := #[{ on := 9, ground := Ground.data }], guard := none }
abbrev rb11 : Oper := { dst := some 116, op := Op.call { callee := Callee.value (Operand.func 17), args := #[Operand.tmp 105, Operand.tmp 109, Operand.tmp 111, Operand.tmp 115], argTypes := #[23, 9, 3, 3] }, type := 38, pos := "more.go:77", after := #[{ on := 0, ground := Ground.data }, { on := 4, ground := Ground.data }, { on := 6, ground := Ground.data }, { on := 10, ground := Ground.data }], guard := none }
abbrev rb12 : Oper := { dst := some 104, op := Op.move (Operand.tmp 116), type := 38, pos := "more.go:77", after := #[{ on := 11, ground := Ground.data }], guard := none }
abbrev rb13 : Oper := { dst := some 117, op := Op.extract (Operand.tmp 104) 0, type := 34, pos := "more.go:77", after := #[{ on := 12, ground := Ground.data }], guard := none }
abbrev rb14 : Oper := { dst := some 118, op := Op.extract (Operand.tmp 104) 1, type := 3, pos := "more.go:77", after := #[{ on := 12, ground := Ground.data }, { on := 17, ground := Ground.gcOnly Departure.lateStores }], guard := none }
abbrev rb15 : Oper := { dst := some 119, op := Op.extract (Operand.tmp 104) 2, type := 28, pos := "more.go:77", after := #[{ on := 12, ground := Ground.data }, { on := 18, ground := Ground.gcOnly Departure.lateStores }], guard := none }
abbrev rb16 : Oper := { dst := some 18, op := Op.alloc 34, type := 0, pos := "more.go:77", after := #[], guard := none }
abbrev rb17 : Oper := { dst := none, op := Op.store 34 (Operand.tmp 18) (Operand.tmp 117), type := 0, pos := "more.go:77", after := #[{ on := 16, ground := Ground.data }, { on := 13, ground := Ground.data }, { on := 11, ground := Ground.chain }, { on := 0, ground := Ground.phase }, { on := 1, ground := Ground.phase }, { on := 2, ground := Ground.phase }, { on := 3, ground := Ground.phase }, { on := 4, ground := Ground.phase }, { on := 5, ground := Ground.phase }, { on := 6, ground := Ground.phase }, { on := 7, ground := Ground.phase }, { on := 8, ground := Ground.phase }, { on := 9, ground := Ground.phase }, { on := 10, ground := Ground.phase }, { on := 11, ground := Ground.phase }, { on := 12, ground := Ground.phase }, { on := 13, ground := Ground.phase }, { on := 14, ground := Ground.textOnly Departure.lateStores }, { on := 15, ground := Ground.textOnly Departure.lateStores }, { on := 16, ground := Ground.phase }], guard := none }
abbrev rb18 : Oper := { dst := some 19, op := Op.assign (Operand.tmp 118), type := 3, pos := "more.go:77", after := #[{ on := 14, ground := Ground.data }, { on := 17, ground := Ground.chain }, { on := 0, ground := Ground.phase }, { on := 1, ground := Ground.phase }, { on := 2, ground := Ground.phase }, { on := 3, ground := Ground.phase }, { on := 4, ground := Ground.phase }, { on := 5, ground := Ground.phase }, { on := 6, ground := Ground.phase }, { on := 7, ground := Ground.phase }, { on := 8, ground := Ground.phase }, { on := 9, ground := Ground.phase }, { on := 10, ground := Ground.phase }, { on := 11, ground := Ground.phase }, { on := 12, ground := Ground.phase }, { on := 13, ground := Ground.phase }, { on := 14, ground := Ground.phase }, { on := 15, ground := Ground.textOnly Departure.lateStores }, { on := 16, ground := Ground.phase }, { on := 17, ground := Ground.phase }], guard := none }
abbrev rb19 : Oper := { dst := some 20, op := Op.assign (Operand.tmp 119), type := 28, pos := "more.go:77", after := #[{ on := 15, ground := Ground.data }, { on := 18, ground := Ground.chain }, { on := 0, ground := Ground.phase }, { on := 1, ground := Ground.phase }, { on := 2, ground := Ground.phase }, { on := 3, ground := Ground.phase }, { on := 4, ground := Ground.phase }, { on := 5, ground := Ground.phase }, { on := 6, ground := Ground.phase }, { on := 7, ground := Ground.phase }, { on := 8, ground := Ground.phase }, { on := 9, ground := Ground.phase }, { on := 10, ground := Ground.phase }, { on := 11, ground := Ground.phase }, { on := 12, ground := Ground.phase }, { on := 13, ground := Ground.phase }, { on := 14, ground := Ground.phase }, { on := 15, ground := Ground.phase }, { on := 16, ground := Ground.phase }, { on := 17, ground := Ground.phase }, { on := 18, ground := Ground.phase }], guard := none }
abbrev rx0 : Oper := { dst := some 120, op := Op.move (Operand.tmp 16), type := 3, pos := "more.go:78", after := #[], guard := none }
abbrev rx1 : Oper := { dst := some 121, op := Op.move (Operand.tmp 17), type := 3, pos := "more.go:78", after := #[], guard := none }
abbrev rx2 : Oper := { dst := some 122, op := Op.binOp BinOp.eql 3 (Operand.tmp 120) (Operand.tmp 121) 3, type := 4, pos := "more.go:78", after := #[{ on := 0, ground := Ground.data }, { on := 1, ground := Ground.data }], guard := none }
abbrev rx3 : Oper := { dst := some 123, op := Op.move (Operand.tmp 122), type := 4, pos := "more.go:78", after := #[{ on := 2, ground := Ground.data }], guard := none }
abbrev rx4 : Oper := { dst := some 124, op := Op.move (Operand.tmp 20), type := 28, pos := "more.go:78", after := #[{ on := 3, ground := Ground.guard }], guard := some (3, true) }
abbrev rx5 : Oper := { dst := some 125, op := Op.call { callee := Callee.value (Operand.func 16), args := #[Operand.tmp 124], argTypes := #[28] }, type := 3, pos := "more.go:78", after := #[{ on := 4, ground := Ground.data }, { on := 3, ground := Ground.chain }, { on := 3, ground := Ground.guard }], guard := some (3, true) }
abbrev rx6 : Oper := { dst := some 126, op := Op.binOp BinOp.neq 3 (Operand.tmp 125) (Operand.const (Value.int IntKind.i64 0)) 3, type := 4, pos := "more.go:78", after := #[{ on := 5, ground := Ground.data }, { on := 3, ground := Ground.guard }], guard := some (3, true) }
abbrev rx7 : Oper := { dst := some 127, op := Op.move (Operand.tmp 126), type := 4, pos := "more.go:78", after := #[{ on := 6, ground := Ground.data }, { on := 5, ground := Ground.chain }, { on := 3, ground := Ground.guard }], guard := some (3, true) }
abbrev rx8 : Oper := { dst := some 128, op := Op.load 34 (Operand.tmp 18), type := 34, pos := "more.go:78", after := #[{ on := 7, ground := Ground.guard }], guard := some (7, false) }
abbrev rx9 : Oper := { dst := some 129, op := Op.move (Operand.tmp 8), type := 22, pos := "more.go:78", after := #[{ on := 7, ground := Ground.guard }], guard := some (7, false) }
abbrev rx10 : Oper := { dst := some 130, op := Op.move (Operand.tmp 16), type := 3, pos := "more.go:78", after := #[{ on := 7, ground := Ground.guard }], guard := some (7, false) }
abbrev rx11 : Oper := { dst := some 131, op := Op.indexAddr 22 (Operand.tmp 129) (Operand.tmp 130), type := 0, pos := "more.go:78", after := #[{ on := 9, ground := Ground.data }, { on := 10, ground := Ground.data }, { on := 7, ground := Ground.guard }], guard := some (7, false) }
abbrev rx12 : Oper := { dst := some 132, op := Op.load 34 (Operand.tmp 131), type := 34, pos := "more.go:78", after := #[{ on := 11, ground := Ground.data }, { on := 7, ground := Ground.guard }], guard := some (7, false) }
abbrev rx13 : Oper := { dst := some 133, op := Op.binOp BinOp.neq 34 (Operand.tmp 128) (Operand.tmp 132) 34, type := 4, pos := "more.go:78", after := #[{ on := 8, ground := Ground.data }, { on := 12, ground := Ground.data }, { on := 7, ground := Ground.guard }], guard := some (7, false) }
abbrev rx14 : Oper := { dst := some 134, op := Op.pick (Operand.tmp 127) (Operand.const (Value.bool true)) (Operand.tmp 133), type := 4, pos := "more.go:78", after := #[{ on := 7, ground := Ground.data }, { on := 13, ground := Ground.data }, { on := 3, ground := Ground.guard }], guard := some (3, true) }
abbrev rx15 : Oper := { dst := some 135, op := Op.move (Operand.tmp 134), type := 4, pos := "more.go:78", after := #[{ on := 14, ground := Ground.data }, { on := 7, ground := Ground.chain }, { on := 3, ground := Ground.guard }], guard := some (3, true) }
abbrev rx16 : Oper := { dst := some 136, op := Op.move (Operand.tmp 19), type := 3, pos := "more.go:78", after := #[{ on := 15, ground := Ground.guard }], guard := some (15, false) }
abbrev rx17 : Oper := { dst := some 137, op := Op.move (Operand.tmp 9), type := 52, pos := "more.go:78", after := #[{ on := 15, ground := Ground.guard }], guard := some (15, false) }
abbrev rx18 : Oper := { dst := some 138, op := Op.move (Operand.tmp 16), type := 3, pos := "more.go:78", after := #[{ on := 15, ground := Ground.guard }], guard := some (15, false) }
abbrev rx19 : Oper := { dst := some 139, op := Op.binOp BinOp.add 3 (Operand.tmp 138) (Operand.const (Value.int IntKind.i64 1)) 3, type := 3, pos := "more.go:78", after := #[{ on := 18, ground := Ground.data }, { on := 15, ground := Ground.guard }], guard := some (15, false) }
abbrev rx20 : Oper := { dst := some 140, op := Op.indexAddr 52 (Operand.tmp 137) (Operand.tmp 139), type := 0, pos := "more.go:78", after := #[{ on := 17, ground := Ground.data }, { on := 19, ground := Ground.data }, { on := 15, ground := Ground.guard }], guard := some (15, false) }
abbrev rx21 : Oper := { dst := some 141, op := Op.load 3 (Operand.tmp 140), type := 3, pos := "more.go:78", after := #[{ on := 20, ground := Ground.data }, { on := 15, ground := Ground.guard }], guard := some (15, false) }
abbrev rx22 : Oper := { dst := some 142, op := Op.binOp BinOp.neq 3 (Operand.tmp 136) (Operand.tmp 141) 3, type := 4, pos := "more.go:78", after := #[{ on := 16, ground := Ground.data }, { on := 21, ground := Ground.data }, { on := 15, ground := Ground.guard }], guard := some (15, false) }
abbrev rx23 : Oper := { dst := some 143, op := Op.pick (Operand.tmp 135) (Operand.const (Value.bool true)) (Operand.tmp 142), type := 4, pos := "more.go:78", after := #[{ on := 15, ground := Ground.data }, { on := 22, ground := Ground.data }, { on := 3, ground := Ground.guard }], guard := some (3, true) }
abbrev rx24 : Oper := { dst := some 144, op := Op.pick (Operand.tmp 123) (Operand.tmp 143) (Operand.const (Value.bool false)), type := 4, pos := "more.go:78", after := #[{ on := 3, ground := Ground.data }, { on := 23, ground := Ground.data }], guard := none }
abbrev rx25 : Oper := { dst := some 145, op := Op.move (Operand.tmp 144), type := 4, pos := "more.go:78", after := #[{ on := 24, ground := Ground.data }, { on := 15, ground := Ground.chain }], guard := none }
abbrev rx26 : Oper := { dst := some 146, op := Op.move (Operand.tmp 16), type := 3, pos := "more.go:78", after := #[{ on := 25, ground := Ground.guard }], guard := some (25, false) }
abbrev rx27 : Oper := { dst := some 147, op := Op.move (Operand.tmp 17), type := 3, pos := "more.go:78", after := #[{ on := 25, ground := Ground.guard }], guard := some (25, false) }
abbrev rx28 : Oper := { dst := some 148, op := Op.binOp BinOp.neq 3 (Operand.tmp 146) (Operand.tmp 147) 3, type := 4, pos := "more.go:78", after := #[{ on := 26, ground := Ground.data }, { on := 27, ground := Ground.data }, { on := 25, ground := Ground.guard }], guard := some (25, false) }
abbrev rx29 : Oper := { dst := some 149, op := Op.move (Operand.tmp 148), type := 4, pos := "more.go:78", after := #[{ on := 28, ground := Ground.data }, { on := 25, ground := Ground.chain }, { on := 25, ground := Ground.guard }], guard := some (25, false) }
abbrev rx30 : Oper := { dst := some 150, op := Op.move (Operand.tmp 20), type := 28, pos := "more.go:78", after := #[{ on := 29, ground := Ground.guard }], guard := some (29, true) }
abbrev rx31 : Oper := { dst := some 151, op := Op.call { callee := Callee.value (Operand.func 16), args := #[Operand.tmp 150], argTypes := #[28] }, type := 3, pos := "more.go:78", after := #[{ on := 30, ground := Ground.data }, { on := 29, ground := Ground.chain }, { on := 29, ground := Ground.guard }], guard := some (29, true) }
abbrev rx32 : Oper := { dst := some 152, op := Op.binOp BinOp.neq 3 (Operand.tmp 151) (Operand.const (Value.int IntKind.i64 901)) 3, type := 4, pos := "more.go:78", after := #[{ on := 31, ground := Ground.data }, { on := 29, ground := Ground.guard }], guard := some (29, true) }
abbrev rx33 : Oper := { dst := some 153, op := Op.pick (Operand.tmp 149) (Operand.tmp 152) (Operand.const (Value.bool false)), type := 4, pos := "more.go:78", after := #[{ on := 29, ground := Ground.data }, { on := 32, ground := Ground.data }, { on := 25, ground := Ground.guard }], guard := some (25, false) }
abbrev rx34 : Oper := { dst := some 154, op := Op.pick (Operand.tmp 145) (Operand.const (Value.bool true)) (Operand.tmp 153), type := 4, pos := "more.go:78", after := #[{ on := 25, ground := Ground.data }, { on := 33, ground := Ground.data }], guard := none }
end Go.Proofs.YtiebpjkppjollaaDoor

