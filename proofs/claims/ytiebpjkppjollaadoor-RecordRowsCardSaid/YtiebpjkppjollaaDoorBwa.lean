/- Put together: Rcp1, Rcp2. Conditions: each theorem's own. -/
import Derived.Test.YtiebpjkppjollaaDoorKflat
import Derived.Test.YtiebpjkppjollaaDoorFnum
import Derived.Test.YtiebpjkppjollaaDoorFtext
import Derived.Test.YtiebpjkppjollaaDoorBpm
import Derived.Great.Walk
import Derived.Deep.WholeRow
import Derived.Test.YtiebpjkppjollaaDoorBlk
namespace Go.Proofs.YtiebpjkppjollaaDoor
open Go Go.RowKit

/-- field.Num, at any number. -/
theorem fnumA (x : Int) (w : World) : Calls Tryd.prog 53 #[.int .i64 x] w fun e w' => e = .returned (.tuple #[.string (numS x), .int .i64 (numE x)]) ∧ Below w.heap.size w w' := by
  by_cases h : -9223372036854775808 ≤ x ∧ x ≤ 9223372036854775807
  · exact fnum x w h.1 h.2
  · by_cases h0 : x < 0
    · rw [numS_bad (.inl h0), numE_bad (.inl h0)]
      clear h
      go_enter Tryd.func53, Tryd.ntmps53
      go_wp2
      go_ret2
      exact ⟨rfl, Below.refl _ _⟩
    · have h1 : 1073741823 < x := by omega
      have h2 : 0 ≤ x := by omega
      rw [numS_bad (.inr h1), numE_bad (.inr h1)]
      clear h h0
      go_enter Tryd.func53, Tryd.ntmps53
      go_wp2
      go_ret2
      exact ⟨rfl, Below.refl _ _⟩
theorem pframe (x : ByteArray) (w : World) (h : x.size ≤ 44) : Calls Tryd.prog 55 #[.string x] w fun e w' => e = .returned (.tuple #[.string (textS x), .bool true]) ∧ Below w.heap.size w w' := by
  have ht : ∀ w, Calls Tryd.prog 73 #[.string x] w fun e w' => e = .returned (.tuple #[.string (textS x), .int .i64 0]) ∧ Below w.heap.size w w' := fun w => by
    have := ftext x w (by omega)
    rw [show textE x = 0 by unfold textE; rw [if_pos (by omega)]] at this
    exact this
  have HT := Lib.hid ht
  clear ht
  have h44 : (x.size : Int) ≤ 44 := by omega
  generalize textS x = T at *
  go_enter Tryd.func55, Tryd.ntmps55
  go_wp2_with (go_at_call 73; (with_reducible refine (HT.out _).mono ?_); rintro e w1 ⟨rfl, hb⟩)
  go_ret2
  exact ⟨rfl, hb⟩
/-- A text's bytes go to a row that has room for them: 'copy(row[..], s)'. -/
theorem run_copy_short {P : Program} (w : World) (dT sT ty elem : TypeId) (g o dLen dCap : Nat) (s : ByteArray) (cur : Array Value) (t : TypeId)
    (hu : P.underlying dT = some (.slice elem)) (hs : (P.info? elem).map (·.size) = some 1)
    (hg : w.heap[g]? = some (.cells cur t (0, 0))) (hn : s.size ≤ dLen) (hfit : o + s.size ≤ cur.size) :
    (Builtin.copy_ #[dT, sT] ty #[.slice (some ⟨g, o, none⟩) dLen dCap, .string s]).run P w =
      .ok (goInt s.size) (w.setRow g (cur.toList.take o ++ (bV s ++ cur.toList.drop (o + s.size))).toArray) := by
  have hst := run_storeCells_at P g o t (bV s) 0 cur w hg (by rw [bV_len]; simpa using hfit) (bV_one s)
  rw [bV_len] at hst
  have hmin : s.size.min dLen = s.size := Nat.min_eq_left hn
  have hf := firstCells_string (P := P) (w := w) s 1 s.size (Nat.le_refl _)
  cases hq : P.info? elem with
  | none => simp [hq] at hs
  | some i =>
    have hi : i.size = 1 := by simpa [hq] using hs
    simp only [Nat.add_zero, List.append_assoc] at hst
    simp [Builtin.copy_, run_underlying hu, Builtin.lenOf, sizeOf, typeInfo, hq, hi, hmin, hf, hst]
theorem wpList_copy_short {P : Program} {w : World} {ops : Array Oper} {rest : List Oper} {o : Oper} {a : Act} {Q : Exit → Act → World → Prop} (hgd : o.guard = none) (d s : Operand) (dT sT : TypeId)
    (ho : o.op = .call { callee := .builtin .copy, args := #[d, s], argTypes := #[dT, sT] }) (elem : TypeId) (hu : P.underlying dT = some (.slice elem)) (hsz : (P.info? elem).map (·.size) = some 1)
    (g off dLen dCap : Nat) (str : ByteArray) (hd : a.eval d = .slice (some ⟨g, off, none⟩) dLen dCap) (hs : a.eval s = .string str)
    (cur : Array Value) (t : TypeId) (hg : w.heap[g]? = some (.cells cur t (0, 0))) (hn : str.size ≤ dLen) (hfit : off + str.size ≤ cur.size)
    (h : wpList P ops Q rest (a.put o.dst (goInt str.size)) (w.setRow g (cur.toList.take off ++ (bV str ++ cur.toList.drop (off + str.size))).toArray)) : wpList P ops Q (o :: rest) a w := by
  refine wpList_plain hgd fun K hK => ?_
  have hrun := run_copy_short (P := P) w dT sT o.type elem g off dLen dCap str cur t hu hsz hg hn hfit
  unfold Oper.wp
  simp [execOp, ho, resolve, invoke, builtin, hd, hs, hrun, Result.andThen]
  exact hK _ _ h
/-- What is laid over zeros. -/
theorem bV_zerN (k : Nat) : bV (zerN k) = List.replicate k (Value.int .u8 0) := by simp [bV, zerN]
def mid9 (body : ByteArray) : List Value := bV body ++ bV (zerN (64 - body.size))
theorem lay9a (body : ByteArray) : (List.replicate 64 (Value.int .u8 0)).take 0 ++ (bV body ++ (List.replicate 64 (Value.int .u8 0)).drop (0 + body.size)) = mid9 body := by
  rw [List.take_zero, List.nil_append, List.drop_replicate, Nat.zero_add, ← bV_zerN]
  rfl
theorem lay9b (body num : ByteArray) (h : body.size + num.size ≤ 64) : (mid9 body).take body.size ++ (bV num ++ (mid9 body).drop (body.size + num.size)) = bV (padS (body ++ num)) := by
  unfold mid9 padS
  have hl := bV_len body
  rw [bV_append, bV_append, ByteArray.size_append, List.append_assoc, ← hl, List.take_left, hl, List.drop_append, List.drop_of_length_le (by rw [hl]; omega), List.nil_append, hl, bV_zerN, bV_zerN, List.drop_replicate]
  congr 3
  omega
theorem mid9_len {body : ByteArray} (h : body.size ≤ 64) : (mid9 body).length = 64 := by unfold mid9; rw [List.length_append, bV_len, bV_len, zerN_size]; omega
abbrev T9 : TypeId := 128
def z64c : Array Value := ⟨List.replicate 64 (Value.int .u8 0)⟩
theorem run_alloc_9 (w : World) : (Instr.alloc T9 true (.tuple #[])).run Tryd.prog w = .ok (.pointer (some ⟨w.heap.size, 0, none⟩)) (w.alloc (.cells z64c T9)) := by
  simp [Instr.alloc, Sem.run_bind, newVar, newRow, Value.cells]
  kernel_rfl
theorem wpList_alloc_9 {ops : Array Oper} {rest : List Oper} {op : Oper} {a : Act} {w : World} {Q : Exit → Act → World → Prop} (hgd : op.guard = none) (ho : op.op = .alloc T9) (hK : wpList Tryd.prog ops Q rest (a.put op.dst (.pointer (some ⟨w.heap.size, 0, none⟩))) (w.alloc (.cells z64c T9))) : wpList Tryd.prog ops Q (op :: rest) a w :=
  Great.wpList_runTo hgd op.dst rfl _ _ (by unfold execOp; simp only [ho, Sem.run_bind, run_alloc_9, Result.andThen_ok]; rfl) hK
theorem conv9s (w : World) (s : ByteArray) (hs : s.size = 64) :
    (convert 45 9 (.slice (some ⟨w.heap.size, 0, none⟩) 64 64)).run Tryd.prog (w.alloc (.cells (bV s).toArray T9)) = .ok (.string s) (w.alloc (.cells (bV s).toArray T9)) := by
  have h : (w.alloc (.cells (bV s).toArray T9)).rangeAt w.heap.size 0 (bV s) := rangeAt_row (heap_alloc_new w _) (fun j u hu => by rw [Nat.zero_add]; exact hu)
  rw [run_convert_bytes_string _ 45 9 5 _ _ _ Tryd.underlying45 Tryd.underlying5 Tryd.underlying9]
  have hld := run_loadCells_list (P := Tryd.prog) (w := w.alloc (.cells (bV s).toArray T9)) ⟨w.heap.size, 0, none⟩ (bV s) (fun j v hv => by rw [Addr.add_mid]; exact h j v hv)
  have e : bV s = (s.data.toList.map fun b => (b.toNat : Int)).map (Value.int .u8) := by simp [bV]
  rw [bV_len, e, hs] at hld
  rw [e, run_bytesToString _ _ 64 64 _ hld, foldl_push_bytes]
  simp [Function.comp_def]
end Go.Proofs.YtiebpjkppjollaaDoor

namespace Go.Proofs.YtiebpjkppjollaaDoor
open Go Go.RowKit

section
variable {ops : Array Oper} {rest : List Oper} {op : Oper} {a : Act} {w : World} {Q : Exit → Act → World → Prop}
theorem wpList_copy_9a (hgd : op.guard = none) (y z : Operand) (ho : op.op = .call { callee := .builtin .copy, args := #[y, z], argTypes := #[45, 9] }) (hy : a.eval y = .slice (some ⟨w.heap.size, 0, none⟩) 64 64) {s : ByteArray} (hz : a.eval z = .string s) (hs : s.size ≤ 64)
    (hK : wpList Tryd.prog ops Q rest (a.put op.dst (goInt s.size)) (w.alloc (.cells (mid9 s).toArray T9))) : wpList Tryd.prog ops Q (op :: rest) a (w.alloc (.cells z64c T9)) := by
  refine wpList_copy_short hgd y z 45 9 ho 5 Tryd.underlying45 (by kernel_rfl) w.heap.size 0 64 64 s hy hz z64c T9 (heap_alloc_new w _) hs (by rw [show z64c.size = 64 from by kernel_rfl]; omega) ?_
  rw [show z64c.toList = List.replicate 64 (Value.int .u8 0) from rfl, lay9a s, World.setRow_alloc_new]
  exact hK
theorem wpList_copy_9b (hgd : op.guard = none) (y z : Operand) (ho : op.op = .call { callee := .builtin .copy, args := #[y, z], argTypes := #[45, 9] }) (b : ByteArray) (hy : a.eval y = .slice (some ⟨w.heap.size, b.size, none⟩) (64 - b.size) (64 - b.size)) {s : ByteArray} (hz : a.eval z = .string s) (hs : b.size + s.size ≤ 64)
    (hK : wpList Tryd.prog ops Q rest (a.put op.dst (goInt s.size)) (w.alloc (.cells (bV (padS (b ++ s))).toArray T9))) : wpList Tryd.prog ops Q (op :: rest) a (w.alloc (.cells (mid9 b).toArray T9)) := by
  refine wpList_copy_short hgd y z 45 9 ho 5 Tryd.underlying45 (by kernel_rfl) w.heap.size b.size (64 - b.size) (64 - b.size) s hy hz (mid9 b).toArray T9 (heap_alloc_new w _) (by omega) (by rw [List.size_toArray, mid9_len (by omega)]; exact hs) ?_
  rw [show (mid9 b).toArray.toList = mid9 b from rfl, lay9b b s hs, World.setRow_alloc_new]
  exact hK
end
set_option maxRecDepth 100000 in
set_option maxHeartbeats 4000000 in
theorem sfill (body : ByteArray) (own : Int) (w : World) (ho : okNum own = true) (hb : body.size + (numS own).size ≤ 64) (hb2 : body.size < 64) :
    Calls Tryd.prog 57 #[.string body, .int .i64 own] w fun e w' => e = .returned (.tuple #[.string (padS (body ++ numS own)), .bool true]) ∧ Below w.heap.size w w' := by
  have hn : ∀ w, Calls Tryd.prog 53 #[.int .i64 own] w fun e w' => e = .returned (.tuple #[.string (numS own), .int .i64 0]) ∧ Below w.heap.size w w' := fun w => by
    have := fnumA own w
    rw [show numE own = 0 by unfold numE; rw [ho]; rfl] at this
    exact this
  have HN := Lib.hid hn
  clear hn
  generalize numS own = S at *
  have h1 : (body.size : Int) + (S.size : Int) ≤ 64 := by omega
  have h2 : (body.size : Int) ≤ 64 := by omega
  have h4 : ¬ 64 = body.size := by omega
  have h3 : (padS (body ++ S)).size = 64 := padS_size (by rw [ByteArray.size_append]; omega)
  have hcv := fun w => conv9s w (padS (body ++ S)) h3
  go_enter Tryd.func57, Tryd.ntmps57
  go_wp2_with (first
    | (go_at_call 53; (with_reducible refine (HN.out _).mono ?_); rintro e w1 ⟨rfl, hbw⟩)
    | (refine wpList_alloc_9 rfl rfl ?_)
    | (refine wpList_copy_9a rfl (.tmp 24) (.tmp 25) rfl rfl rfl (by omega) ?_)
    | (refine wpList_copy_9b rfl (.tmp 29) (.tmp 30) rfl body rfl rfl hb ?_))

  go_ret2
  exact ⟨rfl, hbw.alloc hbw.size _⟩
end Go.Proofs.YtiebpjkppjollaaDoor

