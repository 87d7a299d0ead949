/- Rows of sectors and of writes as cells, one byte a cell. No program is named. -/
import Derived.Test.YtiebpjkppjollaaDoorKplain
import Derived.Laws.CopyOwn
import Derived.Deep.MidRow
import Derived.Test.YtiebpjkppjollaaDoorBme
namespace Go.Proofs.YtiebpjkppjollaaDoor
open Go Go.RowKit

/-- The cells of a text. -/
def bV (s : ByteArray) : List Value := s.data.toList.map fun b => Value.int .u8 (b.toNat : Int)
theorem bV_len (s : ByteArray) : (bV s).length = s.size := by simp [bV]
theorem bV_one (s : ByteArray) : ∀ v ∈ bV s, v.oneCell' = true := by
  intro v hv
  obtain ⟨b, _, rfl⟩ := List.mem_map.1 hv
  rfl
theorem bV_extract (s : ByteArray) (i j : Nat) : bV (s.extract i j) = ((bV s).drop i).take (j - i) := by
  simp [bV, ByteArray.data_extract, Array.toList_extract, List.extract_eq_take_drop, List.map_take, List.map_drop]
theorem bV_append (a b : ByteArray) : bV (a ++ b) = bV a ++ bV b := by simp [bV, ByteArray.data_append]
theorem bV_torn {x y : ByteArray} (hy : y.size = 64) (n : Nat) : bV (x.extract 0 n ++ y.extract n 64) = (bV x).take n ++ (bV y).drop n := by
  rw [bV_append, bV_extract, bV_extract, List.drop_zero, Nat.sub_zero]
  congr 1
  apply List.take_of_length_le
  simp [bV_len, hy]
/-- The cells of a row of texts. -/
def flatS (l : List ByteArray) : List Value := (l.map bV).flatten
theorem flatS_nil : flatS [] = [] := rfl
theorem flatS_cons (s : ByteArray) (l : List ByteArray) : flatS (s :: l) = bV s ++ flatS l := by simp [flatS]
theorem flatS_append (a b : List ByteArray) : flatS (a ++ b) = flatS a ++ flatS b := by simp [flatS]
theorem flatS_len {l : List ByteArray} (h : ∀ s ∈ l, s.size = 64) : (flatS l).length = l.length * 64 := by
  induction l with
  | nil => rfl
  | cons s l ih => rw [flatS_cons, List.length_append, ih (fun t ht => h t (by simp [ht])), bV_len, h s (by simp), List.length_cons]; omega
theorem flatS_one (l : List ByteArray) : ∀ v ∈ flatS l, v.oneCell' = true := by
  intro v hv
  obtain ⟨s, hs, hv⟩ := List.mem_flatten.1 hv
  obtain ⟨t, _, rfl⟩ := List.mem_map.1 hs
  exact bV_one t v hv
theorem flatS_split {l : List ByteArray} {i : Nat} (hi : i < l.length) : flatS l = flatS (l.take i) ++ (bV (l.getD i ⟨#[]⟩) ++ flatS (l.drop (i + 1))) := by
  have e : l = l.take i ++ (l.getD i ⟨#[]⟩ :: l.drop (i + 1)) := by
    rw [show l.getD i ⟨#[]⟩ = l[i] by simp [List.getD, hi]]
    simp
  conv => lhs; rw [e]
  rw [flatS_append, flatS_cons]
theorem flatS_set {l : List ByteArray} {i : Nat} (hi : i < l.length) (s : ByteArray) : flatS (l.set i s) = flatS (l.take i) ++ (bV s ++ flatS (l.drop (i + 1))) := by
  rw [List.set_eq_take_append_cons_drop, if_pos hi, flatS_append, flatS_cons]
theorem flatS_take_len {l : List ByteArray} (h : ∀ s ∈ l, s.size = 64) {i : Nat} (hi : i < l.length) : (flatS (l.take i)).length = i * 64 := by
  rw [flatS_len (fun s hs => h s (List.mem_of_mem_take hs)), List.length_take, Nat.min_eq_left (by omega)]
/-- What stands in a sector. -/
theorem flatS_at {l : List ByteArray} (h : ∀ s ∈ l, s.size = 64) {i : Nat} (hi : i < l.length) {j : Nat} {v : Value} (hv : (bV (l.getD i ⟨#[]⟩))[j]? = some v) : (flatS l)[i * 64 + j]? = some v := by
  have hj : j < (bV (l.getD i ⟨#[]⟩)).length := (List.getElem?_eq_some_iff.1 hv).1
  rw [flatS_split hi, List.getElem?_append_right (by rw [flatS_take_len h hi]; omega), flatS_take_len h hi, Nat.add_sub_cancel_left, List.getElem?_append_left hj]
  exact hv
/-- The first bytes of a sector are laid anew. -/
theorem flatS_lay {l : List ByteArray} (h : ∀ s ∈ l, s.size = 64) {i : Nat} (hi : i < l.length) (x : ByteArray) {n : Nat} (hn : n ≤ 64) :
    (flatS l).take (i * 64) ++ ((bV x).take n ++ (flatS l).drop (i * 64 + n)) = flatS (l.set i (x.extract 0 n ++ (l.getD i ⟨#[]⟩).extract n 64)) := by
  have hl := flatS_take_len h hi
  have hg := getD_sz h hi
  rw [flatS_set hi, bV_torn hg n]
  conv => lhs; rw [flatS_split hi]
  rw [← hl, List.take_left, List.drop_append, List.drop_of_length_le (by omega), List.nil_append, Nat.add_sub_cancel_left, List.drop_append, List.append_assoc]
  congr 3
  rw [bV_len, hg, Nat.sub_eq_zero_of_le hn, List.drop_zero]
theorem flatS_lay64 {l : List ByteArray} (h : ∀ s ∈ l, s.size = 64) {i : Nat} (hi : i < l.length) (x : ByteArray) :
    (flatS l).take (i * 64) ++ (bV x ++ (flatS l).drop (i * 64 + 64)) = flatS (l.set i x) := by
  have hl := flatS_take_len h hi
  have hg := getD_sz h hi
  rw [flatS_set hi]
  conv => lhs; rw [flatS_split hi]
  rw [← hl, List.take_left, List.drop_append, List.drop_of_length_le (by omega), List.nil_append, Nat.add_sub_cancel_left, List.drop_append, List.drop_of_length_le (by rw [bV_len, hg]; omega), List.nil_append, bV_len, hg, Nat.sub_self, List.drop_zero]
/-- The cells of a write that waits. -/
def wV (x : Wt) : List Value := .int .i64 (x.1 : Int) :: bV x.2
theorem wV_len {x : Wt} (h : x.2.size = 64) : (wV x).length = 65 := by simp [wV, bV_len, h]
theorem wV_one (x : Wt) : ∀ v ∈ wV x, v.oneCell' = true := by
  intro v hv
  rcases List.mem_cons.1 hv with rfl | hv
  · rfl
  · exact bV_one x.2 v hv
def pV (ws : List Wt) : List Value := (ws.map wV).flatten
theorem pV_app (ws : List Wt) (x : Wt) : pV (ws ++ [x]) = pV ws ++ wV x := by simp [pV]
theorem pV_at {ws : List Wt} (h : ∀ x ∈ ws, x.2.size = 64) {i : Nat} (hi : i < ws.length) {j : Nat} {v : Value} (hv : (wV (ws.getD i (0, ⟨#[]⟩)))[j]? = some v) : (pV ws)[i * 65 + j]? = some v := by
  induction ws generalizing i with
  | nil => cases hi
  | cons x ws ih =>
    have hx := wV_len (h x (by simp))
    cases i with
    | zero =>
      have hj : j < (wV x).length := (List.getElem?_eq_some_iff.1 (by simpa using hv)).1
      rw [show pV (x :: ws) = wV x ++ pV ws by simp [pV], Nat.zero_mul, Nat.zero_add, List.getElem?_append_left hj]
      simpa using hv
    | succ i =>
      rw [show pV (x :: ws) = wV x ++ pV ws by simp [pV], List.getElem?_append_right (by rw [hx]; omega), hx, show (i + 1) * 65 + j - 65 = i * 65 + j by omega]
      exact ih (fun y hy => h y (by simp [hy])) (by simpa using hi) (by simpa using hv)
theorem rangeAt_row {w : World} {g : Nat} {L : List Value} {t : TypeId} (hg : w.heap[g]? = some (.cells L.toArray t (0, 0))) {o : Nat} {cs : List Value} (h : ∀ j v, cs[j]? = some v → L[o + j]? = some v) : w.rangeAt g o cs := fun j v hv => by
  rw [cell_of_row w g (o + j) _ t _ hg, List.getElem?_toArray]
  exact h j v hv
/-- A row written anew is a turn of its block alone. -/
theorem Tn.setRow {F : List Nat} {a w : World} (h : Tn F a w) {g : Nat} (hp : g ∈ F ∨ a.heap.size ≤ g) (cs : Array Value) : Tn F a (w.setRow g cs) :=
  ⟨h.os, h.tape, h.output, by rw [size_setRow]; exact h.size, fun i hi hn => (setRow_other w g i cs (fun e => by
    subst e
    rcases hp with h1 | h1
    · exact hn h1
    · omega)).trans (h.block i hi hn)⟩
/-- A store of many cells into a row that is known whole. -/
theorem run_storeVar_at {P : Program} (w : World) (g o : Nat) (t ty : TypeId) (cur : List Value) (cells : List Value) (hg : w.heap[g]? = some (.cells cur.toArray t (0, 0))) (hi : (P.info? ty).map (·.size) = some cells.length)
    (hfit : o + cells.length ≤ cur.length) (h1 : ∀ v ∈ cells, v.oneCell' = true) :
    (storeVar ty ⟨g, o, none⟩ (.agg cells.toArray)).run P w = .ok () (w.setRow g (cur.take o ++ (cells ++ cur.drop (o + cells.length))).toArray) := by
  have := run_storeCells_at P g o t cells 0 cur.toArray w hg (by simpa using hfit) h1
  cases hq : P.info? ty with
  | none => simp [hq] at hi
  | some i =>
    have hs : cells.length = i.size := by simp [hq] at hi; omega
    simp only [Nat.add_zero, List.append_assoc] at this
    simp [storeVar, sizeOf, typeInfo, hq, Value.cells, hs, this]
theorem run_storeAt_at {P : Program} (w : World) (g o : Nat) (t ty : TypeId) (cur : List Value) (cells : List Value) (hg : w.heap[g]? = some (.cells cur.toArray t (0, 0))) (hi : (P.info? ty).map (·.size) = some cells.length)
    (hfit : o + cells.length ≤ cur.length) (h1 : ∀ v ∈ cells, v.oneCell' = true) :
    (Instr.storeAt ty (.pointer (some ⟨g, o, none⟩)) (.agg cells.toArray)).run P w = .ok () (w.setRow g (cur.take o ++ (cells ++ cur.drop (o + cells.length))).toArray) := by
  simp only [Instr.storeAt, Instr.sureAddr, Sem.run_bind, Sem.run_pure, Result.andThen_ok, run_storeVar_at w g o t ty cur cells hg hi hfit h1]
theorem wpList_store_at {P : Program} {ops : Array Oper} {rest : List Oper} {op : Oper} {a : Act} {w : World} {Q : Exit → Act → World → Prop} (hgd : op.guard = none) (ty : TypeId) (x y : Operand) (ho : op.op = .store ty x y)
    (g o : Nat) (cells : List Value) (hx : a.eval x = .pointer (some ⟨g, o, none⟩)) (hy : a.eval y = .agg cells.toArray)
    (t : TypeId) (cur : List Value) (hg : w.heap[g]? = some (.cells cur.toArray t (0, 0))) (hi : (P.info? ty).map (·.size) = some cells.length) (hfit : o + cells.length ≤ cur.length) (h1 : ∀ v ∈ cells, v.oneCell' = true)
    (h : wpList P ops Q rest (a.put op.dst undef) (w.setRow g (cur.take o ++ (cells ++ cur.drop (o + cells.length))).toArray)) : wpList P ops Q (op :: rest) a w :=
  wpList_plain hgd fun K hK => by
    unfold Oper.wp execOp
    simp only [ho, hx, hy, Instr.storeAt, Instr.sureAddr, Sem.run_bind, Sem.run_pure, Result.andThen_ok, run_storeVar_at w g o t ty cur cells hg hi hfit h1]
    exact hK _ _ h
/-- A text's bytes as cells go to a row: 'copy(row[..], s)'. -/
theorem firstCells_string {P : Program} {w : World} (s : ByteArray) (size n : Nat) (hn : s.size ≤ n) : (Builtin.firstCells size n (.string s)).run P w = .ok (bV s).toArray w := by
  have e : s.extract 0 n = s := by
    apply ByteArray.ext
    rw [ByteArray.data_extract]
    simp
    exact .inr hn
  simp only [Builtin.firstCells, e]
  show Result.ok _ w = _
  congr 1
  apply Array.ext'
  simp [bV]
theorem run_copy_string {P : Program} (w : World) (dT sT ty elem : TypeId) (g o dLen dCap : Nat) (s : ByteArray) (cur : Array Value) (t : TypeId)
    (hu : P.underlying dT = some (.slice elem)) (hs : (P.info? elem).map (·.size) = some 1)
    (hg : w.heap[g]? = some (.cells cur t (0, 0))) (hn : s.size = dLen) (hfit : o + s.size ≤ cur.size) :
    (Builtin.copy_ #[dT, sT] ty #[.slice (some ⟨g, o, none⟩) dLen dCap, .string s]).run P w =
      .ok (goInt s.size) (w.setRow g (cur.toList.take o ++ (bV s ++ cur.toList.drop (o + s.size))).toArray) := by
  have hst := run_storeCells_at P g o t (bV s) 0 cur w hg (by rw [bV_len]; simpa using hfit) (bV_one s)
  rw [bV_len] at hst
  subst hn
  have hf := firstCells_string (P := P) (w := w) s 1 s.size (Nat.le_refl _)
  cases hq : P.info? elem with
  | none => simp [hq] at hs
  | some i =>
    have hi : i.size = 1 := by simpa [hq] using hs
    simp only [Nat.add_zero, List.append_assoc] at hst
    simp [Builtin.copy_, run_underlying hu, Builtin.lenOf, sizeOf, typeInfo, hq, hi, hf, hst]
theorem wpList_copy_string {P : Program} {w : World} {ops : Array Oper} {rest : List Oper} {o : Oper} {a : Act} {Q : Exit → Act → World → Prop} (hgd : o.guard = none) (d s : Operand) (dT sT : TypeId)
    (ho : o.op = .call { callee := .builtin .copy, args := #[d, s], argTypes := #[dT, sT] }) (elem : TypeId) (hu : P.underlying dT = some (.slice elem)) (hsz : (P.info? elem).map (·.size) = some 1)
    (g off dLen dCap : Nat) (str : ByteArray) (hd : a.eval d = .slice (some ⟨g, off, none⟩) dLen dCap) (hs : a.eval s = .string str)
    (cur : Array Value) (t : TypeId) (hg : w.heap[g]? = some (.cells cur t (0, 0))) (hn : str.size = dLen) (hfit : off + str.size ≤ cur.size)
    (h : wpList P ops Q rest (a.put o.dst (goInt str.size)) (w.setRow g (cur.toList.take off ++ (bV str ++ cur.toList.drop (off + str.size))).toArray)) : wpList P ops Q (o :: rest) a w := by
  refine wpList_plain hgd fun K hK => ?_
  have hrun := run_copy_string (P := P) w dT sT o.type elem g off dLen dCap str cur t hu hsz hg hn hfit
  unfold Oper.wp
  simp [execOp, ho, resolve, invoke, builtin, hd, hs, hrun, Result.andThen]
  exact hK _ _ h
/-- 'copy(dst, src)' of elements of many cells, both rows known whole, as long as each other. -/
theorem run_copy_rows {P : Program} (w : World) (dT sT ty elem : TypeId) (g n dCap : Nat) (g2 sCap : Nat) (size : Nat) (cur cs : List Value) (t t2 : TypeId)
    (hu : P.underlying dT = some (.slice elem)) (hs : (P.info? elem).map (·.size) = some size)
    (hg : w.heap[g]? = some (.cells cur.toArray t (0, 0))) (hg2 : w.heap[g2]? = some (.cells cs.toArray t2 (0, 0))) (hl : cur.length = n * size) (hl2 : cs.length = n * size) (h1 : ∀ v ∈ cs, v.oneCell' = true) :
    (Builtin.copy_ #[dT, sT] ty #[.slice (some ⟨g, 0, none⟩) n dCap, .slice (some ⟨g2, 0, none⟩) n sCap]).run P w = .ok (goInt n) (w.setRow g cs.toArray) := by
  have hld := run_loadCells_list (P := P) w ⟨g2, 0, none⟩ cs (fun j v hv => by
    rw [Addr.add_mid, Nat.zero_add, cell_of_row w g2 j _ t2 _ hg2, List.getElem?_toArray]; exact hv)
  have hst := run_storeCells_at P g 0 t cs 0 cur.toArray w hg (by simp; omega) h1
  cases hq : P.info? elem with
  | none => simp [hq] at hs
  | some i =>
    have hi : i.size = size := by simpa [hq] using hs
    rw [hl2] at hld
    have e : cur.drop cs.length = [] := List.drop_of_length_le (by omega)
    rw [Nat.zero_add, Nat.zero_add, e, List.append_nil, List.take_zero, List.nil_append] at hst
    simp [Builtin.copy_, run_underlying hu, Builtin.lenOf, Builtin.firstCells, sizeOf, typeInfo, hq, hi, hld, hst]
theorem wpList_copy_rows {P : Program} {w : World} {ops : Array Oper} {rest : List Oper} {o : Oper} {a : Act} {Q : Exit → Act → World → Prop} (hgd : o.guard = none) (d s : Operand) (dT sT : TypeId)
    (ho : o.op = .call { callee := .builtin .copy, args := #[d, s], argTypes := #[dT, sT] }) (elem : TypeId) (hu : P.underlying dT = some (.slice elem)) (size : Nat) (hsz : (P.info? elem).map (·.size) = some size)
    (g n dCap g2 sCap : Nat) (hd : a.eval d = .slice (some ⟨g, 0, none⟩) n dCap) (hs : a.eval s = .slice (some ⟨g2, 0, none⟩) n sCap)
    (cur cs : List Value) (t t2 : TypeId) (hg : w.heap[g]? = some (.cells cur.toArray t (0, 0))) (hg2 : w.heap[g2]? = some (.cells cs.toArray t2 (0, 0))) (hl : cur.length = n * size) (hl2 : cs.length = n * size) (h1 : ∀ v ∈ cs, v.oneCell' = true)
    (h : wpList P ops Q rest (a.put o.dst (goInt n)) (w.setRow g cs.toArray)) : wpList P ops Q (o :: rest) a w := by
  refine wpList_plain hgd fun K hK => ?_
  have hrun := run_copy_rows (P := P) w dT sT o.type elem g n dCap g2 sCap size cur cs t t2 hu hsz hg hg2 hl hl2 h1
  unfold Oper.wp
  simp [execOp, ho, resolve, invoke, builtin, hd, hs, hrun, Result.andThen]
  exact hK _ _ h
end Go.Proofs.YtiebpjkppjollaaDoor
