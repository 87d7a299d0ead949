/- Put together: Rcp1, Rcp2, Sct, Suq, Suk. Conditions: each theorem's own. -/
import Derived.Test.YtbfpfmidjdonjaaGreatDoorKflat
import Derived.Test.YtbfpfmidjdonjaaGreatDoorFnum
import Derived.Test.YtbfpfmidjdonjaaGreatDoorFtext
import Derived.Test.YtbfpfmidjdonjaaGreatDoorBpm
import Derived.Great.Walk
import Derived.Deep.WholeRow
import Derived.Test.YtbfpfmidjdonjaaGreatDoorBlk
import Derived.Test.YtbfpfmidjdonjaaGreatDoorDoesG
import Derived.Test.YtbfpfmidjdonjaaGreatDoorBme
import Derived.Test.YtbfpfmidjdonjaaGreatDoorBbk
import Derived.Deep.RegionWith
import Derived.Deep.QuietTactic
import Derived.BigQuiet
import Derived.Test.YtbfpfmidjdonjaaGreatDoorBfg
import Derived.Test.YtbfpfmidjdonjaaGreatDoorBpj
import Derived.LoopN
namespace Go.Proofs.YtbfpfmidjdonjaaGreatDoor
open Go Go.RowKit
theorem fnumA (x : Int) (w : World) : Calls Tryz.prog 111 #[.int .i64 x] w fun e w' => e = .returned (.tuple #[.string (numS x), .int .i64 (numE x)]) ∧ Below w.heap.size w w' := by
  by_cases h : -9223372036854775808 ≤ x ∧ x ≤ 9223372036854775807
  · exact fnum x w h.1 h.2
  · by_cases h0 : x < 0
    · rw [numS_bad (.inl h0), numE_bad (.inl h0)]
      clear h
      go_enter Tryz.func111, Tryz.ntmps111
      go_wp2
      go_ret2
      exact ⟨rfl, Below.refl _ _⟩
    · have h1 : 1073741823 < x := by omega
      have h2 : 0 ≤ x := by omega
      rw [numS_bad (.inr h1), numE_bad (.inr h1)]
      clear h h0
      go_enter Tryz.func111, Tryz.ntmps111
      go_wp2
      go_ret2
      exact ⟨rfl, Below.refl _ _⟩
theorem pframe (x : ByteArray) (w : World) (h : x.size ≤ 44) : Calls Tryz.prog 113 #[.string x] w fun e w' => e = .returned (.tuple #[.string (textS x), .bool true]) ∧ Below w.heap.size w w' := by
  have ht : ∀ w, Calls Tryz.prog 121 #[.string x] w fun e w' => e = .returned (.tuple #[.string (textS x), .int .i64 0]) ∧ Below w.heap.size w w' := fun w => by
    have := ftext x w (by omega)
    rw [show textE x = 0 by unfold textE; rw [if_pos (by omega)]] at this
    exact this
  have HT := Lib.hid ht
  clear ht
  have h44 : (x.size : Int) ≤ 44 := by omega
  generalize textS x = T at *
  go_enter Tryz.func113, Tryz.ntmps113
  go_wp2_with (go_at_call 121; (with_reducible refine (HT.out _).mono ?_); rintro e w1 ⟨rfl, hb⟩)
  go_ret2
  exact ⟨rfl, hb⟩
theorem run_copy_short {P : Program} (w : World) (dT sT ty elem : TypeId) (g o dLen dCap : Nat) (s : ByteArray) (cur : Array Value) (t : TypeId)
    (hu : P.underlying dT = some (.slice elem)) (hs : (P.info? elem).map (·.size) = some 1)
    (hg : w.heap[g]? = some (.cells cur t (0, 0))) (hn : s.size ≤ dLen) (hfit : o + s.size ≤ cur.size) :
    (Builtin.copy_ #[dT, sT] ty #[.slice (some ⟨g, o, none⟩) dLen dCap, .string s]).run P w =
      .ok (goInt s.size) (w.setRow g (cur.toList.take o ++ (bV s ++ cur.toList.drop (o + s.size))).toArray) := by
  have hst := run_storeCells_at P g o t (bV s) 0 cur w hg (by rw [bV_len]; simpa using hfit) (bV_one s)
  rw [bV_len] at hst
  have hmin : s.size.min dLen = s.size := Nat.min_eq_left hn
  have hf := firstCells_string (P := P) (w := w) s 1 s.size (Nat.le_refl _)
  cases hq : P.info? elem with
  | none => simp [hq] at hs
  | some i =>
    have hi : i.size = 1 := by simpa [hq] using hs
    simp only [Nat.add_zero, List.append_assoc] at hst
    simp [Builtin.copy_, run_underlying hu, Builtin.lenOf, sizeOf, typeInfo, hq, hi, hmin, hf, hst]
theorem wpList_copy_short {P : Program} {w : World} {ops : Array Oper} {rest : List Oper} {o : Oper} {a : Act} {Q : Exit → Act → World → Prop} (hgd : o.guard = none) (d s : Operand) (dT sT : TypeId)
    (ho : o.op = .call { callee := .builtin .copy, args := #[d, s], argTypes := #[dT, sT] }) (elem : TypeId) (hu : P.underlying dT = some (.slice elem)) (hsz : (P.info? elem).map (·.size) = some 1)
    (g off dLen dCap : Nat) (str : ByteArray) (hd : a.eval d = .slice (some ⟨g, off, none⟩) dLen dCap) (hs : a.eval s = .string str)
    (cur : Array Value) (t : TypeId) (hg : w.heap[g]? = some (.cells cur t (0, 0))) (hn : str.size ≤ dLen) (hfit : off + str.size ≤ cur.size)
    (h : wpList P ops Q rest (a.put o.dst (goInt str.size)) (w.setRow g (cur.toList.take off ++ (bV str ++ cur.toList.drop (off + str.size))).toArray)) : wpList P ops Q (o :: rest) a w := by
  refine wpList_plain hgd fun K hK => ?_
  have hrun := run_copy_short (P := P) w dT sT o.type elem g off dLen dCap str cur t hu hsz hg hn hfit
  unfold Oper.wp
  simp [execOp, ho, resolve, invoke, builtin, hd, hs, hrun, Result.andThen]
  exact hK _ _ h
theorem bV_zerN (k : Nat) : bV (zerN k) = List.replicate k (Value.int .u8 0) := by simp [bV, zerN]
def mid9 (body : ByteArray) : List Value := bV body ++ bV (zerN (64 - body.size))
theorem lay9a (body : ByteArray) : (List.replicate 64 (Value.int .u8 0)).take 0 ++ (bV body ++ (List.replicate 64 (Value.int .u8 0)).drop (0 + body.size)) = mid9 body := by
  rw [List.take_zero, List.nil_append, List.drop_replicate, Nat.zero_add, ← bV_zerN]
  rfl
theorem lay9b (body num : ByteArray) (h : body.size + num.size ≤ 64) : (mid9 body).take body.size ++ (bV num ++ (mid9 body).drop (body.size + num.size)) = bV (padS (body ++ num)) := by
  unfold mid9 padS
  have hl := bV_len body
  rw [bV_append, bV_append, ByteArray.size_append, List.append_assoc, ← hl, List.take_left, hl, List.drop_append, List.drop_of_length_le (by rw [hl]; omega), List.nil_append, hl, bV_zerN, bV_zerN, List.drop_replicate]
  congr 3
  omega
theorem mid9_len {body : ByteArray} (h : body.size ≤ 64) : (mid9 body).length = 64 := by unfold mid9; rw [List.length_append, bV_len, bV_len, zerN_size]; omega
abbrev T9 : TypeId := 102
def z64c : Array Value := ⟨List.replicate 64 (Value.int .u8 0)⟩
theorem run_alloc_9 (w : World) : (Instr.alloc T9 true (.tuple #[])).run Tryz.prog w = .ok (.pointer (some ⟨w.heap.size, 0, none⟩)) (w.alloc (.cells z64c T9)) := by
  simp [Instr.alloc, Sem.run_bind, newVar, newRow, Value.cells]
  kernel_rfl
theorem wpList_alloc_9 {ops : Array Oper} {rest : List Oper} {op : Oper} {a : Act} {w : World} {Q : Exit → Act → World → Prop} (hgd : op.guard = none) (ho : op.op = .alloc T9) (hK : wpList Tryz.prog ops Q rest (a.put op.dst (.pointer (some ⟨w.heap.size, 0, none⟩))) (w.alloc (.cells z64c T9))) : wpList Tryz.prog ops Q (op :: rest) a w :=
  Great.wpList_runTo hgd op.dst rfl _ _ (by unfold execOp; simp only [ho, Sem.run_bind, run_alloc_9, Result.andThen_ok]; rfl) hK
theorem conv9s (w : World) (s : ByteArray) (hs : s.size = 64) :
    (convert 77 9 (.slice (some ⟨w.heap.size, 0, none⟩) 64 64)).run Tryz.prog (w.alloc (.cells (bV s).toArray T9)) = .ok (.string s) (w.alloc (.cells (bV s).toArray T9)) := by
  have h : (w.alloc (.cells (bV s).toArray T9)).rangeAt w.heap.size 0 (bV s) := rangeAt_row (heap_alloc_new w _) (fun j u hu => by rw [Nat.zero_add]; exact hu)
  rw [run_convert_bytes_string _ 77 9 5 _ _ _ Tryz.underlying77 Tryz.underlying5 Tryz.underlying9]
  have hld := run_loadCells_list (P := Tryz.prog) (w := w.alloc (.cells (bV s).toArray T9)) ⟨w.heap.size, 0, none⟩ (bV s) (fun j v hv => by rw [Addr.add_mid]; exact h j v hv)
  have e : bV s = (s.data.toList.map fun b => (b.toNat : Int)).map (Value.int .u8) := by simp [bV]
  rw [bV_len, e, hs] at hld
  rw [e, run_bytesToString _ _ 64 64 _ hld, foldl_push_bytes]
  simp [Function.comp_def]
open Go Go.RowKit
section
variable {ops : Array Oper} {rest : List Oper} {op : Oper} {a : Act} {w : World} {Q : Exit → Act → World → Prop}
theorem wpList_copy_9a (hgd : op.guard = none) (y z : Operand) (ho : op.op = .call { callee := .builtin .copy, args := #[y, z], argTypes := #[77, 9] }) (hy : a.eval y = .slice (some ⟨w.heap.size, 0, none⟩) 64 64) {s : ByteArray} (hz : a.eval z = .string s) (hs : s.size ≤ 64)
    (hK : wpList Tryz.prog ops Q rest (a.put op.dst (goInt s.size)) (w.alloc (.cells (mid9 s).toArray T9))) : wpList Tryz.prog ops Q (op :: rest) a (w.alloc (.cells z64c T9)) := by
  refine wpList_copy_short hgd y z 77 9 ho 5 Tryz.underlying77 (by kernel_rfl) w.heap.size 0 64 64 s hy hz z64c T9 (heap_alloc_new w _) hs (by rw [show z64c.size = 64 from by kernel_rfl]; omega) ?_
  rw [show z64c.toList = List.replicate 64 (Value.int .u8 0) from rfl, lay9a s, World.setRow_alloc_new]
  exact hK
theorem wpList_copy_9b (hgd : op.guard = none) (y z : Operand) (ho : op.op = .call { callee := .builtin .copy, args := #[y, z], argTypes := #[77, 9] }) (b : ByteArray) (hy : a.eval y = .slice (some ⟨w.heap.size, b.size, none⟩) (64 - b.size) (64 - b.size)) {s : ByteArray} (hz : a.eval z = .string s) (hs : b.size + s.size ≤ 64)
    (hK : wpList Tryz.prog ops Q rest (a.put op.dst (goInt s.size)) (w.alloc (.cells (bV (padS (b ++ s))).toArray T9))) : wpList Tryz.prog ops Q (op :: rest) a (w.alloc (.cells (mid9 b).toArray T9)) := by
  refine wpList_copy_short hgd y z 77 9 ho 5 Tryz.underlying77 (by kernel_rfl) w.heap.size b.size (64 - b.size) (64 - b.size) s hy hz (mid9 b).toArray T9 (heap_alloc_new w _) (by omega) (by rw [List.size_toArray, mid9_len (by omega)]; exact hs) ?_
  rw [show (mid9 b).toArray.toList = mid9 b from rfl, lay9b b s hs, World.setRow_alloc_new]
  exact hK
end
set_option maxRecDepth 100000 in
set_option maxHeartbeats 4000000 in
theorem sfill (body : ByteArray) (own : Int) (w : World) (ho : okNum own = true) (hb : body.size + (numS own).size ≤ 64) (hb2 : body.size < 64) :
    Calls Tryz.prog 115 #[.string body, .int .i64 own] w fun e w' => e = .returned (.tuple #[.string (padS (body ++ numS own)), .bool true]) ∧ Below w.heap.size w w' := by
  have hn : ∀ w, Calls Tryz.prog 111 #[.int .i64 own] w fun e w' => e = .returned (.tuple #[.string (numS own), .int .i64 0]) ∧ Below w.heap.size w w' := fun w => by
    have := fnumA own w
    rw [show numE own = 0 by unfold numE; rw [ho]; rfl] at this
    exact this
  have HN := Lib.hid hn
  clear hn
  generalize numS own = S at *
  have h1 : (body.size : Int) + (S.size : Int) ≤ 64 := by omega
  have h2 : (body.size : Int) ≤ 64 := by omega
  have h4 : ¬ 64 = body.size := by omega
  have h3 : (padS (body ++ S)).size = 64 := padS_size (by rw [ByteArray.size_append]; omega)
  have hcv := fun w => conv9s w (padS (body ++ S)) h3
  go_enter Tryz.func115, Tryz.ntmps115
  go_wp2_with (first
    | (go_at_call 111; (with_reducible refine (HN.out _).mono ?_); rintro e w1 ⟨rfl, hbw⟩)
    | (refine wpList_alloc_9 rfl rfl ?_)
    | (refine wpList_copy_9a rfl (.tmp 24) (.tmp 25) rfl rfl rfl (by omega) ?_)
    | (refine wpList_copy_9b rfl (.tmp 29) (.tmp 30) rfl body rfl rfl hb ?_))

  go_ret2
  exact ⟨rfl, hbw.alloc hbw.size _⟩
open Go Go.RowKit
theorem bdrew (w : World) : Below w.heap.size w w.drew := ⟨rfl, rfl, rfl, Nat.le_refl _, fun _ _ => rfl⟩
theorem balloc (w : World) (o : Obj) : Below w.heap.size w (w.alloc o) := (Below.refl _ _).alloc (Nat.le_refl _) o
theorem bne9 {s t : ByteArray} (h : s ≠ t) : (s.toList == t.toList) = false := by
  cases c : (s.toList == t.toList)
  · rfl
  · exfalso
    refine h ?_
    have h1 : s.toList = t.toList := by simpa using c
    obtain ⟨⟨a⟩⟩ := s
    obtain ⟨⟨b⟩⟩ := t
    rw [ByteArray.toList_mk, ByteArray.toList_mk] at h1
    exact congrArg (fun l => (⟨⟨l⟩⟩ : ByteArray)) h1
def Reads (P : Program) (A : Ass) (f : FuncId) (args : Array Value) (v : Ending) : Prop := ∀ w F, A w F → Calls P f args w fun e w' => e = v ∧ Below w.heap.size w w'
def ReadsG (P : Program) (A : Ass) (f : FuncId) (args : Array Value) (v : Ending) : Prop := ∀ w F, A w F → Gd w → Calls P f args w fun e w' => e = v ∧ Below w.heap.size w w'
theorem Reads.does {P : Program} {A : Ass} {f : FuncId} {args : Array Value} {v : Ending} (h : Reads P A f args v) (hA : A.Good) : Does P A f args v A := fun w F k => (h w F k).mono fun _ _ ⟨a, b⟩ => ⟨a, Becomes.same hA k b⟩
theorem ReadsG.does {P : Program} {A : Ass} {f : FuncId} {args : Array Value} {v : Ending} (h : ReadsG P A f args v) (hA : A.Good) : DoesG P A f args v A := fun w F k hg => (h w F k hg).mono fun _ _ ⟨a, b⟩ => ⟨a, Becomes.same hA k b⟩
theorem Reads.at {P : Program} {A : Ass} {f : FuncId} {args : Array Value} {v : Ending} (h : Reads P A f args v) (hA : A.Good) {w W : World} {F : List Nat} (k : A w F) (hb : Below w.heap.size w W) : Calls P f args W fun e w' => e = v ∧ Below w.heap.size w w' :=
  (h W F (hA.below k hb)).mono fun _ _ ⟨a, b⟩ => ⟨a, hb.trans (b.mono hb.size)⟩
theorem ReadsG.at {P : Program} {A : Ass} {f : FuncId} {args : Array Value} {v : Ending} (h : ReadsG P A f args v) (hA : A.Good) {w W : World} {F : List Nat} (k : A w F) (hg : Gd w) (hb : Below w.heap.size w W) : Calls P f args W fun e w' => e = v ∧ Below w.heap.size w w' :=
  (h W F (hA.below k hb) (hg.below hb hg.pos)).mono fun _ _ ⟨a, b⟩ => ⟨a, hb.trans (b.mono hb.size)⟩
theorem bon {w W W' : World} (hb : Below w.heap.size w W) (h : Below W.heap.size W W') : Below w.heap.size w W' := hb.trans (h.mono hb.size)
theorem cishashR (p : Nat) (most : Int) (ts : List ByteArray) (s : ByteArray) (tag : Int) : Reads Tryz.prog (bookA p most ts) 127 #[.pointer (some ⟨p, 0, none⟩), .string s, .int .i64 tag] (.returned (.bool (ckI ts true (tmK cH none s) tag))) := by
  intro w F h
  have hn := cisname p most ts tag s ⟨#[72]⟩ _ none w F rfl (key0 w) h
  rw [show (⟨#[72]⟩ : ByteArray) = cH from rfl, show okK none = true from rfl] at hn
  generalize ckI ts true (tmK cH none s) tag = x at *
  rw [show cH = ⟨#[72]⟩ from rfl] at hn
  have HN := Lib.hid hn
  clear hn h
  go_enter Tryz.func127, Tryz.ntmps127
  go_wp2_with (go_at_call 134; (with_reducible refine HN.out.mono ?_); rintro e w1 ⟨rfl, hb⟩)
  go_ret
  exact ⟨rfl, hb⟩
set_option maxRecDepth 100000 in
set_option maxHeartbeats 4000000 in
theorem sput_yes (p : Nat) (most : Int) (ts : List ByteArray) (word body : ByteArray) (hl : ts.length ≤ 1000000) (hw : word.size ≤ 6) (hb : body.size ≤ 45) (he : nmE most ts (tmK cH none (word ++ body)) = 0) :
    Does Tryz.prog (bookA p most ts) 106 #[.pointer (some ⟨p, 0, none⟩), .string word, .string body]
      (.returned (.tuple #[.string (padS (body ++ numS (nmX most ts (tmK cH none (word ++ body))))), .int .i64 (nmX most ts (tmK cH none (word ++ body))), .bool true])) (bookA p most (nmT most ts (tmK cH none (word ++ body)))) := by
  intro w F h
  have hS := Becomes.refl h
  clear h
  obtain ⟨n0, n1⟩ := nmX_bd most ts (tmK cH none (word ++ body))
  have hH := dhash p most ts (word ++ body) (by rw [ByteArray.size_append]; omega)
  rw [show okK none = true from rfl, show ckT most ts true (tmK cH none (word ++ body)) = nmT most ts (tmK cH none (word ++ body)) from rfl, show ckX most ts true (tmK cH none (word ++ body)) = nmX most ts (tmK cH none (word ++ body)) by unfold ckX; simp [he],
    show ckE most ts true (tmK cH none (word ++ body)) = 0 by unfold ckE; simp [he]] at hH
  generalize nmT most ts (tmK cH none (word ++ body)) = T' at *
  generalize nmX most ts (tmK cH none (word ++ body)) = own at *
  have hadd : ¬ 9223372036854775807 < word.size + body.size := by omega
  have h5 := numS_size5 own
  have hF := fun w => sfill body own w ((okNum_iff _).2 ⟨by omega, by omega⟩) (by omega) (by omega)
  generalize padS (body ++ numS own) = SE at *
  have HH := Lib.hid hH
  have HF := Lib.hid hF
  clear hH hF he hl hw hb h5 n0 n1
  go_enter Tryz.func106, Tryz.ntmps106
  go_wp2_with (first
    | (go_at_call 114; (with_reducible refine (Becomes.op HH.out hS).mono ?_); rintro e w1 ⟨rfl, hS1⟩; clear hS)
    | (go_at_call 115; (with_reducible refine (HF.out _).mono ?_); rintro e w2 ⟨rfl, hb⟩; replace hS1 := hS1.lay (bookA_good _ _ _) hb; clear hb))
  go_ret3
  exact ⟨rfl, hS1⟩
set_option maxRecDepth 100000 in
set_option maxHeartbeats 4000000 in
theorem sput_no (p : Nat) (most : Int) (ts : List ByteArray) (word body : ByteArray) (hw : word.size ≤ 6) (hb : body.size ≤ 45) (he : nmE most ts (tmK cH none (word ++ body)) ≠ 0) :
    Does Tryz.prog (bookA p most ts) 106 #[.pointer (some ⟨p, 0, none⟩), .string word, .string body]
      (.returned (.tuple #[.string ⟨#[]⟩, .int .i64 0, .bool false])) (bookA p most (nmT most ts (tmK cH none (word ++ body)))) := by
  intro w F h
  have hS := Becomes.refl h
  clear h
  have hH := dhash p most ts (word ++ body) (by rw [ByteArray.size_append]; omega)
  rw [show okK none = true from rfl, show ckT most ts true (tmK cH none (word ++ body)) = nmT most ts (tmK cH none (word ++ body)) from rfl, show ckX most ts true (tmK cH none (word ++ body)) = 0 by unfold ckX; simp [he],
    show ckE most ts true (tmK cH none (word ++ body)) = 300 by unfold ckE; simp [he]] at hH
  generalize nmT most ts (tmK cH none (word ++ body)) = T' at *
  have hadd : ¬ 9223372036854775807 < word.size + body.size := by omega
  have HH := Lib.hid hH
  clear hH he hw hb
  go_enter Tryz.func106, Tryz.ntmps106
  go_wp2_with (go_at_call 114; (with_reducible refine (Becomes.op HH.out hS).mono ?_); rintro e w1 ⟨rfl, hS1⟩; clear hS)
  go_ret3
  exact ⟨rfl, hS1⟩
set_option maxRecDepth 100000 in
set_option maxHeartbeats 4000000 in
theorem sis_yes (p : Nat) (most : Int) (ts : List ByteArray) (s word body : ByteArray) (name : Int) (ho : okNum name = true) (hw : word.size ≤ 6) (hb : body.size ≤ 45) (hs : padS (body ++ numS name) = s) :
    Reads Tryz.prog (bookA p most ts) 118 #[.pointer (some ⟨p, 0, none⟩), .string s, .string word, .string body, .int .i64 name]
      (.returned (.bool (ckI ts true (tmK cH none (word ++ body)) name))) := by
  intro w F h
  have h5 := numS_size5 name
  have hH := fun W hb => (cishashR p most ts (word ++ body) name).at (bookA_good _ _ _) (W := W) h hb
  generalize ckI ts true (tmK cH none (word ++ body)) name = B at *
  have hadd : ¬ 9223372036854775807 < word.size + body.size := by omega
  have hF := fun w => sfill body name w ho (by omega) (by omega)
  rw [hs] at hF
  have HH := Lib.hid hH
  have HF := Lib.hid hF
  clear hH hF ho hw hb h5 hs h
  go_enter Tryz.func118, Tryz.ntmps118
  go_wp2_with (first
    | (go_at_call 115; (with_reducible refine (HF.out _).mono ?_); rintro e w2 ⟨rfl, hb⟩)
    | (go_at_call 127; (with_reducible refine (HH.out _ hb).mono ?_); rintro e w1 ⟨rfl, hb1⟩))
  go_ret
  exact ⟨rfl, hb1⟩
set_option maxRecDepth 100000 in
set_option maxHeartbeats 4000000 in
theorem sis_no (p : Nat) (most : Int) (ts : List ByteArray) (s word body : ByteArray) (name : Int) (ho : okNum name = true) (hb : body.size ≤ 45) (hs : padS (body ++ numS name) ≠ s) :
    Reads Tryz.prog (bookA p most ts) 118 #[.pointer (some ⟨p, 0, none⟩), .string s, .string word, .string body, .int .i64 name]
      (.returned (.bool false)) := by
  intro w F h
  have h5 := numS_size5 name
  have hF := fun w => sfill body name w ho (by omega) (by omega)
  have hne := bne9 hs
  generalize padS (body ++ numS name) = SE at *
  have HF := Lib.hid hF
  clear hF ho hb h5 hs h
  go_enter Tryz.func118, Tryz.ntmps118
  go_wp2_with (go_at_call 115; (with_reducible refine (HF.out _).mono ?_); rintro e w2 ⟨rfl, hb⟩)
  go_ret
  exact ⟨rfl, hb⟩
open Go Go.RowKit
theorem sjoin (b : Int) (w : World) : Calls Tryz.prog 108 #[.int .i64 b] w fun e w' => e = .returned (.tuple #[.string (if suMay b then numS b else ⟨#[]⟩), .bool (suMay b)]) ∧ Below w.heap.size w w' := by
  cases h : suMay b with
  | true =>
    obtain ⟨h1, h2⟩ := (suMay_iff b).1 h
    have hN := fun w => fnumA b w
    rw [show numE b = 0 by unfold numE; rw [suMay_num h]; rfl] at hN
    have d1 : ¬ b < 1 := by omega
    have d2 : ¬ 1023 < b := by omega
    simp only [if_true]
    generalize numS b = S at *
    have HN := Lib.hid hN
    clear hN h
    go_enter Tryz.func108, Tryz.ntmps108
    go_wp2_with (go_at_call 111; (with_reducible refine (HN.out _).mono ?_); rintro e w1 ⟨rfl, hb⟩)
    go_ret2
    exact ⟨rfl, hb⟩
  | false =>
    have hn : ¬ (1 ≤ b ∧ b ≤ 1023) := fun c => by rw [(suMay_iff b).2 c] at h; cases h
    clear h
    simp only [Bool.false_eq_true, if_false]
    by_cases d1 : b < 1
    · clear hn
      go_enter Tryz.func108, Tryz.ntmps108
      go_wp2
      go_ret2
      exact ⟨rfl, Below.refl _ _⟩
    · have d2 : 1023 < b := by omega
      clear hn
      go_enter Tryz.func108, Tryz.ntmps108
      go_wp2
      go_ret2
      exact ⟨rfl, Below.refl _ _⟩
set_option maxRecDepth 100000 in
theorem sread1 (s : ByteArray) (x1 t1 er : Int) (w : World) (hg : Gd w) (P1 : ∀ w, Gd w → Calls Tryz.prog 124 #[.string s, .int .i64 0] w fun e w' => e = .returned (.tuple #[.int .i64 x1, .int .i64 t1, .int .i64 er]) ∧ Below w.heap.size w w') (her : ¬ er = 0) :
    Calls Tryz.prog 123 #[.string s] w fun e w' => e = .returned (.tuple #[.int .i64 0, .int .i64 0, .bool false]) ∧ Below w.heap.size w w' := by
  have her2 : (er != 0) = true := by simpa using her
  have hR := Gr.refl hg
  replace P1 := Lib.hid P1
  clear hg
  go_enter Tryz.func123, Tryz.ntmps123
  go_wp2_with (go_at_call 124; (with_reducible refine (P1.out _ hR.good).mono ?_); rintro e w1 ⟨rfl, hb⟩; replace hR := hR.step hb; clear hb)
  go_ret3
  exact ⟨rfl, hR.below⟩
set_option maxRecDepth 100000 in
theorem sread2 (s : ByteArray) (x1 t1 x2 t2 er : Int) (w : World) (hg : Gd w) (P1 : ∀ w, Gd w → Calls Tryz.prog 124 #[.string s, .int .i64 0] w fun e w' => e = .returned (.tuple #[.int .i64 x1, .int .i64 t1, .int .i64 0]) ∧ Below w.heap.size w w')
    (P2 : ∀ w, Gd w → Calls Tryz.prog 124 #[.string s, .int .i64 t1] w fun e w' => e = .returned (.tuple #[.int .i64 x2, .int .i64 t2, .int .i64 er]) ∧ Below w.heap.size w w') (her : ¬ er = 0) :
    Calls Tryz.prog 123 #[.string s] w fun e w' => e = .returned (.tuple #[.int .i64 0, .int .i64 0, .bool false]) ∧ Below w.heap.size w w' := by
  have her2 : (er != 0) = true := by simpa using her
  have hR := Gr.refl hg
  replace P1 := Lib.hid P1
  replace P2 := Lib.hid P2
  clear hg
  go_enter Tryz.func123, Tryz.ntmps123
  go_wp2_with (go_at_call 124; first
    | ((with_reducible refine (P1.out _ hR.good).mono ?_); rintro e w1 ⟨rfl, hb⟩; replace hR := hR.step hb; clear hb)
    | ((with_reducible refine (P2.out _ hR.good).mono ?_); rintro e w1 ⟨rfl, hb⟩; replace hR := hR.step hb; clear hb))
  go_ret3
  exact ⟨rfl, hR.below⟩
set_option maxRecDepth 100000 in
theorem sread3 (s : ByteArray) (x1 t1 x2 t2 : Int) (w : World) (hg : Gd w) (P1 : ∀ w, Gd w → Calls Tryz.prog 124 #[.string s, .int .i64 0] w fun e w' => e = .returned (.tuple #[.int .i64 x1, .int .i64 t1, .int .i64 0]) ∧ Below w.heap.size w w')
    (P2 : ∀ w, Gd w → Calls Tryz.prog 124 #[.string s, .int .i64 t1] w fun e w' => e = .returned (.tuple #[.int .i64 x2, .int .i64 t2, .int .i64 0]) ∧ Below w.heap.size w w') :
    Calls Tryz.prog 123 #[.string s] w fun e w' => e = .returned (.tuple #[.int .i64 x1, .int .i64 x2, .bool true]) ∧ Below w.heap.size w w' := by
  have hR := Gr.refl hg
  replace P1 := Lib.hid P1
  replace P2 := Lib.hid P2
  clear hg
  go_enter Tryz.func123, Tryz.ntmps123
  go_wp2_with (go_at_call 124; first
    | ((with_reducible refine (P1.out _ hR.good).mono ?_); rintro e w1 ⟨rfl, hb⟩; replace hR := hR.step hb; clear hb)
    | ((with_reducible refine (P2.out _ hR.good).mono ?_); rintro e w1 ⟨rfl, hb⟩; replace hR := hR.step hb; clear hb))
  go_ret3
  exact ⟨rfl, hR.below⟩
def rsV (s : ByteArray) : Ending := match rdS s with
  | some x => .returned (.tuple #[.int .i64 x.1, .int .i64 x.2, .bool true])
  | none => .returned (.tuple #[.int .i64 0, .int .i64 0, .bool false])
theorem sread (s : ByteArray) (w : World) (hs : s.size ≤ 9223372036854770000) (hg : Gd w) : Calls Tryz.prog 123 #[.string s] w fun e w' => e = rsV s ∧ Below w.heap.size w w' := by
  by_cases e1 : getE s 0 = 0
  · obtain ⟨_, _, b2, b3, b4⟩ := get_bd e1
    by_cases e2 : getE s (getTo s 0) = 0
    · rw [show rsV s = .returned (.tuple #[.int .i64 (getX s 0), .int .i64 (getX s (getTo s 0)), .bool true]) by unfold rsV rdS; rw [if_pos e1, if_pos e2]]
      exact sread3 s _ _ _ _ w hg (fgetE e1 hs (by omega) (by omega)) (fgetE e2 hs (by omega) (by omega))
    · rw [show rsV s = .returned (.tuple #[.int .i64 0, .int .i64 0, .bool false]) by unfold rsV rdS; rw [if_pos e1, if_neg e2]]
      exact sread2 s _ _ _ _ _ w hg (fgetE e1 hs (by omega) (by omega)) (fun w hg => fget s _ w hs (by omega) (by omega) hg) e2
  · rw [show rsV s = .returned (.tuple #[.int .i64 0, .int .i64 0, .bool false]) by unfold rsV rdS; rw [if_neg e1]]
    exact sread1 s _ _ _ w hg (fun w hg => fget s 0 w hs (by omega) (by omega) hg) e1
set_option maxRecDepth 100000 in
set_option maxHeartbeats 4000000 in
theorem dsput_no (p : Nat) (most : Int) (ts : List ByteArray) (b : Int) (hm : suMay b = false) : Does Tryz.prog (bookA p most ts) 97 #[.pointer (some ⟨p, 0, none⟩), .int .i64 b] (.returned (.tuple #[.string ⟨#[]⟩, .int .i64 1000])) (bookA p most ts) := by
  intro w F h
  have hS := Becomes.refl h
  have hj := fun w => sjoin b w
  rw [hm] at hj
  simp only [Bool.false_eq_true, if_false] at hj
  have HJ := Lib.hid hj
  clear h hj hm
  go_enter Tryz.func97, Tryz.ntmps97
  go_wp2_with (go_at_call 108; (with_reducible refine (HJ.out _).mono ?_); rintro e w1 ⟨rfl, hb⟩; replace hS := hS.lay (bookA_good _ _ _) hb; clear hb)
  go_ret2
  exact ⟨rfl, hS⟩
set_option maxRecDepth 100000 in
set_option maxHeartbeats 4000000 in
theorem dsput_yes (p : Nat) (most : Int) (ts T : List ByteArray) (b : Int) (S N : ByteArray) (own : Int) (hj : ∀ w, Calls Tryz.prog 108 #[.int .i64 b] w fun e w' => e = .returned (.tuple #[.string N, .bool true]) ∧ Below w.heap.size w w')
    (hp : Does Tryz.prog (bookA p most ts) 106 #[.pointer (some ⟨p, 0, none⟩), .string ⟨#[115, 117, 112, 101, 114]⟩, .string N] (.returned (.tuple #[.string S, .int .i64 own, .bool true])) (bookA p most T)) :
    Does Tryz.prog (bookA p most ts) 97 #[.pointer (some ⟨p, 0, none⟩), .int .i64 b] (.returned (.tuple #[.string S, .int .i64 0])) (bookA p most T) := by
  intro w F h
  have hS := Becomes.refl h
  have HJ := Lib.hid hj
  have HP := Lib.hid hp
  clear h hj hp
  go_enter Tryz.func97, Tryz.ntmps97
  go_wp2_with (first
    | (go_at_call 108; (with_reducible refine (HJ.out _).mono ?_); rintro e w1 ⟨rfl, hb⟩; replace hS := hS.lay (bookA_good _ _ _) hb; clear hb)
    | (go_at_call 106; (with_reducible refine (Becomes.op HP.out hS).mono ?_); rintro e w2 ⟨rfl, hS1⟩; clear hS))
  go_ret2
  exact ⟨rfl, hS1⟩
set_option maxRecDepth 100000 in
set_option maxHeartbeats 4000000 in
theorem dsput_full (p : Nat) (most : Int) (ts T : List ByteArray) (b : Int) (N : ByteArray) (hj : ∀ w, Calls Tryz.prog 108 #[.int .i64 b] w fun e w' => e = .returned (.tuple #[.string N, .bool true]) ∧ Below w.heap.size w w')
    (hp : Does Tryz.prog (bookA p most ts) 106 #[.pointer (some ⟨p, 0, none⟩), .string ⟨#[115, 117, 112, 101, 114]⟩, .string N] (.returned (.tuple #[.string ⟨#[]⟩, .int .i64 0, .bool false])) (bookA p most T)) :
    Does Tryz.prog (bookA p most ts) 97 #[.pointer (some ⟨p, 0, none⟩), .int .i64 b] (.returned (.tuple #[.string ⟨#[]⟩, .int .i64 1000])) (bookA p most T) := by
  intro w F h
  have hS := Becomes.refl h
  have HJ := Lib.hid hj
  have HP := Lib.hid hp
  clear h hj hp
  go_enter Tryz.func97, Tryz.ntmps97
  go_wp2_with (first
    | (go_at_call 108; (with_reducible refine (HJ.out _).mono ?_); rintro e w1 ⟨rfl, hb⟩; replace hS := hS.lay (bookA_good _ _ _) hb; clear hb)
    | (go_at_call 106; (with_reducible refine (Becomes.op HP.out hS).mono ?_); rintro e w2 ⟨rfl, hS1⟩; clear hS))
  go_ret2
  exact ⟨rfl, hS1⟩
theorem dsput (p : Nat) (most : Int) (ts : List ByteArray) (b : Int) (hl : ts.length ≤ 1000000) : Does Tryz.prog (bookA p most ts) 97 #[.pointer (some ⟨p, 0, none⟩), .int .i64 b] (.returned (.tuple #[.string (suS most ts b), .int .i64 (suE most ts b)])) (bookA p most (suT most ts b)) := by
  cases hm : suMay b with
  | false =>
    have hk : suOk most ts b = false := by unfold suOk; rw [hm]; rfl
    rw [show suS most ts b = ⟨#[]⟩ by unfold suS; rw [hk]; rfl, show suE most ts b = 1000 by unfold suE; rw [hk]; rfl, show suT most ts b = ts by unfold suT; rw [hm]; rfl]
    exact dsput_no p most ts b hm
  | true =>
    have hj := fun w => sjoin b w
    rw [hm] at hj
    have h5 := numS_size5 b
    rw [show suT most ts b = nmT most ts (suTm b) by unfold suT; rw [hm]; rfl]
    by_cases e : nmE most ts (suTm b) = 0
    · have hk : suOk most ts b = true := by unfold suOk; rw [hm, e]; rfl
      rw [show suS most ts b = suSec b (nmX most ts (suTm b)) by unfold suS; rw [hk]; rfl, show suE most ts b = 0 by unfold suE; rw [hk]; rfl]
      exact dsput_yes p most ts _ b _ _ _ hj (sput_yes p most ts markS (numS b) hl (by decide) (by omega) e)
    · have hk : suOk most ts b = false := by unfold suOk; rw [hm]; simp [e]
      rw [show suS most ts b = ⟨#[]⟩ by unfold suS; rw [hk]; rfl, show suE most ts b = 1000 by unfold suE; rw [hk]; rfl]
      exact dsput_full p most ts _ b _ hj (sput_no p most ts markS (numS b) (by decide) (by omega) e)
set_option maxRecDepth 100000 in
set_option maxHeartbeats 4000000 in
theorem sget_none (p : Nat) (most : Int) (ts : List ByteArray) (s : ByteArray) (hR : ∀ w, Gd w → Calls Tryz.prog 123 #[.string s] w fun e w' => e = .returned (.tuple #[.int .i64 0, .int .i64 0, .bool false]) ∧ Below w.heap.size w w') :
    ReadsG Tryz.prog (bookA p most ts) 116 #[.pointer (some ⟨p, 0, none⟩), .string s] (.returned (.tuple #[.int .i64 0, .int .i64 1000])) := by
  intro w F h hg
  have HR := Lib.hid hR
  clear hR h
  go_enter Tryz.func116, Tryz.ntmps116
  go_wp2_with (go_at_call 123; (with_reducible refine (HR.out _ hg).mono ?_); rintro e w1 ⟨rfl, hb⟩)
  go_ret2
  exact ⟨rfl, hb⟩
set_option maxRecDepth 100000 in
set_option maxHeartbeats 4000000 in
theorem sget_no (p : Nat) (most : Int) (ts : List ByteArray) (s : ByteArray) (b own : Int) (hR : ∀ w, Gd w → Calls Tryz.prog 123 #[.string s] w fun e w' => e = .returned (.tuple #[.int .i64 b, .int .i64 own, .bool true]) ∧ Below w.heap.size w w')
    (hj : ∀ w, Calls Tryz.prog 108 #[.int .i64 b] w fun e w' => e = .returned (.tuple #[.string ⟨#[]⟩, .bool false]) ∧ Below w.heap.size w w') :
    ReadsG Tryz.prog (bookA p most ts) 116 #[.pointer (some ⟨p, 0, none⟩), .string s] (.returned (.tuple #[.int .i64 0, .int .i64 1000])) := by
  intro w F h hg
  have HR := Lib.hid hR
  have HJ := Lib.hid hj
  clear hR h hj
  go_enter Tryz.func116, Tryz.ntmps116
  go_wp2_with (first
    | (go_at_call 123; (with_reducible refine (HR.out _ hg).mono ?_); rintro e w1 ⟨rfl, hb⟩)
    | (go_at_call 108; (with_reducible refine (HJ.out _).mono ?_); rintro e w2 ⟨rfl, hb2⟩; replace hb := bon hb hb2; clear hb2))
  go_ret2
  exact ⟨rfl, hb⟩
set_option maxRecDepth 100000 in
set_option maxHeartbeats 4000000 in
theorem sget_is (p : Nat) (most : Int) (ts : List ByteArray) (s N : ByteArray) (b own : Int) (B : Bool) (hR : ∀ w, Gd w → Calls Tryz.prog 123 #[.string s] w fun e w' => e = .returned (.tuple #[.int .i64 b, .int .i64 own, .bool true]) ∧ Below w.heap.size w w')
    (hj : ∀ w, Calls Tryz.prog 108 #[.int .i64 b] w fun e w' => e = .returned (.tuple #[.string N, .bool true]) ∧ Below w.heap.size w w')
    (hi : Reads Tryz.prog (bookA p most ts) 118 #[.pointer (some ⟨p, 0, none⟩), .string s, .string ⟨#[115, 117, 112, 101, 114]⟩, .string N, .int .i64 own] (.returned (.bool B))) :
    ReadsG Tryz.prog (bookA p most ts) 116 #[.pointer (some ⟨p, 0, none⟩), .string s] (.returned (.tuple #[.int .i64 (if B then b else 0), .int .i64 (if B then 0 else 1000)])) := by
  intro w F h hg
  have HR := Lib.hid hR
  have HJ := Lib.hid hj
  have HI := Lib.hid (fun W hb => hi.at (bookA_good _ _ _) (W := W) h hb)
  clear hR h hj hi
  cases B <;> simp only [Bool.false_eq_true, if_false, if_true] <;>
  · go_enter Tryz.func116, Tryz.ntmps116
    go_wp2_with (first
      | (go_at_call 123; (with_reducible refine (HR.out _ hg).mono ?_); rintro e w1 ⟨rfl, hb⟩)
      | (go_at_call 108; (with_reducible refine (HJ.out _).mono ?_); rintro e w2 ⟨rfl, hb2⟩; replace hb := bon hb hb2; clear hb2)
      | (go_at_call 118; (with_reducible refine (HI.out _ hb).mono ?_); rintro e w1 ⟨rfl, hb1⟩))
    go_ret2
    exact ⟨rfl, hb1⟩
theorem dsgetR (p : Nat) (most : Int) (ts : List ByteArray) (s : ByteArray) (hs : s.size ≤ 9223372036854770000) : ReadsG Tryz.prog (bookA p most ts) 116 #[.pointer (some ⟨p, 0, none⟩), .string s] (.returned (.tuple #[.int .i64 (sgX ts s), .int .i64 (sgE ts s)])) := by
  have hR := fun w hg => sread s w hs hg
  have hf := find_S ts s
  cases hp : rdS s with
  | none =>
    rw [hp] at hf
    obtain ⟨q1, q2⟩ := sg_no hf
    rw [q1, q2]
    rw [show rsV s = .returned (.tuple #[.int .i64 0, .int .i64 0, .bool false]) by unfold rsV; rw [hp]] at hR
    exact sget_none p most ts s hR
  | some x =>
    obtain ⟨b, own⟩ := x
    obtain ⟨hb, ho⟩ := rdS_num hp
    rw [hp] at hf
    replace hf : suFind ts s = if suMay b && ckI ts true (suTm b) own && decide (suSec b own = s) then some (b, own) else none := hf
    rw [show rsV s = .returned (.tuple #[.int .i64 b, .int .i64 own, .bool true]) by unfold rsV; rw [hp]] at hR
    have hj := fun w => sjoin b w
    cases hm : suMay b with
    | false =>
      rw [hm] at hf hj
      obtain ⟨q1, q2⟩ := sg_no hf
      rw [q1, q2]
      exact sget_no p most ts s b own hR hj
    | true =>
      rw [hm] at hf hj
      have h5 := numS_size5 b
      by_cases hc : suSec b own = s
      · have hi := sget_is p most ts s _ b own _ hR hj (sis_yes p most ts s markS (numS b) own ho (by decide) (by omega) hc)
        rw [decide_eq_true hc, Bool.and_true, Bool.true_and] at hf
        replace hi : ReadsG Tryz.prog (bookA p most ts) 116 #[.pointer (some ⟨p, 0, none⟩), .string s] (.returned (.tuple #[.int .i64 (if ckI ts true (suTm b) own then b else 0), .int .i64 (if ckI ts true (suTm b) own then 0 else 1000)])) := hi
        cases hk : ckI ts true (suTm b) own with
        | true =>
          rw [hk] at hf hi
          obtain ⟨q1, q2⟩ := sg_yes hf
          rw [q1, q2]
          exact hi
        | false =>
          rw [hk] at hf hi
          obtain ⟨q1, q2⟩ := sg_no hf
          rw [q1, q2]
          exact hi
      · have hi := sget_is p most ts s _ b own _ hR hj (sis_no p most ts s markS (numS b) own ho (by omega) hc)
        rw [decide_eq_false hc, Bool.and_false] at hf
        obtain ⟨q1, q2⟩ := sg_no hf
        rw [q1, q2]
        exact hi
open Go Go.RowKit
theorem idx2a (s t : ByteArray) (w : World) : (Instr.index 199 (.agg #[.string s, .string t]) (.int .i64 0)).run Tryz.prog w = .ok (.string s) w := by
  show (_ : Result _) = _
  kernel_rfl
theorem idx2b (s t : ByteArray) (w : World) : (Instr.index 199 (.agg #[.string s, .string t]) (.int .i64 1)).run Tryz.prog w = .ok (.string t) w := by
  show (_ : Result _) = _
  kernel_rfl
set_option maxRecDepth 100000 in
set_option maxHeartbeats 4000000 in
theorem spick_none (p : Nat) (most : Int) (ts : List ByteArray) (s t : ByteArray)
    (h1 : ReadsG Tryz.prog (bookA p most ts) 116 #[.pointer (some ⟨p, 0, none⟩), .string s] (.returned (.tuple #[.int .i64 0, .int .i64 1000])))
    (h2 : ReadsG Tryz.prog (bookA p most ts) 116 #[.pointer (some ⟨p, 0, none⟩), .string t] (.returned (.tuple #[.int .i64 0, .int .i64 1000]))) :
    ReadsG Tryz.prog (bookA p most ts) 107 #[.pointer (some ⟨p, 0, none⟩), .string s, .string t] (.returned (.tuple #[.int .i64 0, .int .i64 0, .int .i64 1001])) := by
  intro w F h hg
  have H1 := Lib.hid (fun W hb => h1.at (bookA_good _ _ _) (W := W) h hg hb)
  have H2 := Lib.hid (fun W hb => h2.at (bookA_good _ _ _) (W := W) h hg hb)
  have hb := Below.refl w.heap.size w
  have i0 := fun w => idx2a s t w
  have i1 := fun w => idx2b s t w
  clear h h1 h2 hg
  go_enter Tryz.func107, Tryz.ntmps107
  go_wp2
  refine wp_loop_rounds 3 ?_
  rw [rounds_succ]
  go_wp2_with (go_at_call 116; (with_reducible refine (H1.out _ hb).mono ?_); rintro e w1 ⟨rfl, hb1⟩)
  rw [rounds_succ]
  go_wp2_with (go_at_call 116; (with_reducible refine (H2.out _ hb1).mono ?_); rintro e w2 ⟨rfl, hb2⟩)
  rw [rounds_succ]
  go_wp2
  go_ret3
  exact ⟨rfl, hb2⟩
set_option maxRecDepth 100000 in
set_option maxHeartbeats 4000000 in
theorem spick_one (p : Nat) (most : Int) (ts : List ByteArray) (s t : ByteArray) {x : Int} (hx : 1 ≤ x)
    (h1 : ReadsG Tryz.prog (bookA p most ts) 116 #[.pointer (some ⟨p, 0, none⟩), .string s] (.returned (.tuple #[.int .i64 x, .int .i64 0])))
    (h2 : ReadsG Tryz.prog (bookA p most ts) 116 #[.pointer (some ⟨p, 0, none⟩), .string t] (.returned (.tuple #[.int .i64 0, .int .i64 1000]))) :
    ReadsG Tryz.prog (bookA p most ts) 107 #[.pointer (some ⟨p, 0, none⟩), .string s, .string t] (.returned (.tuple #[.int .i64 x, .int .i64 1, .int .i64 0])) := by
  intro w F h hg
  have H1 := Lib.hid (fun W hb => h1.at (bookA_good _ _ _) (W := W) h hg hb)
  have H2 := Lib.hid (fun W hb => h2.at (bookA_good _ _ _) (W := W) h hg hb)
  have hb := Below.refl w.heap.size w
  have i0 := fun w => idx2a s t w
  have i1 := fun w => idx2b s t w
  have d1 : 0 < x := by omega
  have d2 : ¬ x = 0 := by omega
  have d3 : (x == 0) = false := by simpa using d2
  clear hx
  clear h h1 h2 hg
  go_enter Tryz.func107, Tryz.ntmps107
  go_wp2
  refine wp_loop_rounds 3 ?_
  rw [rounds_succ]
  go_wp2_with (go_at_call 116; (with_reducible refine (H1.out _ hb).mono ?_); rintro e w1 ⟨rfl, hb1⟩)
  rw [rounds_succ]
  go_wp2_with (go_at_call 116; (with_reducible refine (H2.out _ hb1).mono ?_); rintro e w2 ⟨rfl, hb2⟩)
  rw [rounds_succ]
  go_wp2
  go_ret3
  exact ⟨rfl, hb2⟩
set_option maxRecDepth 100000 in
set_option maxHeartbeats 4000000 in
theorem spick_two (p : Nat) (most : Int) (ts : List ByteArray) (s t : ByteArray) {x : Int} (hx : 1 ≤ x)
    (h1 : ReadsG Tryz.prog (bookA p most ts) 116 #[.pointer (some ⟨p, 0, none⟩), .string s] (.returned (.tuple #[.int .i64 0, .int .i64 1000])))
    (h2 : ReadsG Tryz.prog (bookA p most ts) 116 #[.pointer (some ⟨p, 0, none⟩), .string t] (.returned (.tuple #[.int .i64 x, .int .i64 0]))) :
    ReadsG Tryz.prog (bookA p most ts) 107 #[.pointer (some ⟨p, 0, none⟩), .string s, .string t] (.returned (.tuple #[.int .i64 x, .int .i64 0, .int .i64 0])) := by
  intro w F h hg
  have H1 := Lib.hid (fun W hb => h1.at (bookA_good _ _ _) (W := W) h hg hb)
  have H2 := Lib.hid (fun W hb => h2.at (bookA_good _ _ _) (W := W) h hg hb)
  have hb := Below.refl w.heap.size w
  have i0 := fun w => idx2a s t w
  have i1 := fun w => idx2b s t w
  have d1 : 0 < x := by omega
  have d2 : ¬ x = 0 := by omega
  have d3 : (x == 0) = false := by simpa using d2
  clear hx
  clear h h1 h2 hg
  go_enter Tryz.func107, Tryz.ntmps107
  go_wp2
  refine wp_loop_rounds 3 ?_
  rw [rounds_succ]
  go_wp2_with (go_at_call 116; (with_reducible refine (H1.out _ hb).mono ?_); rintro e w1 ⟨rfl, hb1⟩)
  rw [rounds_succ]
  go_wp2_with (go_at_call 116; (with_reducible refine (H2.out _ hb1).mono ?_); rintro e w2 ⟨rfl, hb2⟩)
  rw [rounds_succ]
  go_wp2
  go_ret3
  exact ⟨rfl, hb2⟩
set_option maxRecDepth 100000 in
set_option maxHeartbeats 4000000 in
theorem spick_ge (p : Nat) (most : Int) (ts : List ByteArray) (s t : ByteArray) {x y : Int} (hx : 1 ≤ x) (hxy : y ≤ x)
    (h1 : ReadsG Tryz.prog (bookA p most ts) 116 #[.pointer (some ⟨p, 0, none⟩), .string s] (.returned (.tuple #[.int .i64 x, .int .i64 0])))
    (h2 : ReadsG Tryz.prog (bookA p most ts) 116 #[.pointer (some ⟨p, 0, none⟩), .string t] (.returned (.tuple #[.int .i64 y, .int .i64 0]))) :
    ReadsG Tryz.prog (bookA p most ts) 107 #[.pointer (some ⟨p, 0, none⟩), .string s, .string t] (.returned (.tuple #[.int .i64 x, .int .i64 1, .int .i64 0])) := by
  intro w F h hg
  have H1 := Lib.hid (fun W hb => h1.at (bookA_good _ _ _) (W := W) h hg hb)
  have H2 := Lib.hid (fun W hb => h2.at (bookA_good _ _ _) (W := W) h hg hb)
  have hb := Below.refl w.heap.size w
  have i0 := fun w => idx2a s t w
  have i1 := fun w => idx2b s t w
  have d1 : 0 < x := by omega
  have d2 : ¬ x = 0 := by omega
  have d3 : (x == 0) = false := by simpa using d2
  have d4 : ¬ x < y := by omega
  clear hx hxy
  clear h h1 h2 hg
  go_enter Tryz.func107, Tryz.ntmps107
  go_wp2
  refine wp_loop_rounds 3 ?_
  rw [rounds_succ]
  go_wp2_with (go_at_call 116; (with_reducible refine (H1.out _ hb).mono ?_); rintro e w1 ⟨rfl, hb1⟩)
  rw [rounds_succ]
  go_wp2_with (go_at_call 116; (with_reducible refine (H2.out _ hb1).mono ?_); rintro e w2 ⟨rfl, hb2⟩)
  rw [rounds_succ]
  go_wp2
  go_ret3
  exact ⟨rfl, hb2⟩
set_option maxRecDepth 100000 in
set_option maxHeartbeats 4000000 in
theorem spick_lt (p : Nat) (most : Int) (ts : List ByteArray) (s t : ByteArray) {x y : Int} (hx : 1 ≤ x) (hxy : x < y)
    (h1 : ReadsG Tryz.prog (bookA p most ts) 116 #[.pointer (some ⟨p, 0, none⟩), .string s] (.returned (.tuple #[.int .i64 x, .int .i64 0])))
    (h2 : ReadsG Tryz.prog (bookA p most ts) 116 #[.pointer (some ⟨p, 0, none⟩), .string t] (.returned (.tuple #[.int .i64 y, .int .i64 0]))) :
    ReadsG Tryz.prog (bookA p most ts) 107 #[.pointer (some ⟨p, 0, none⟩), .string s, .string t] (.returned (.tuple #[.int .i64 y, .int .i64 0, .int .i64 0])) := by
  intro w F h hg
  have H1 := Lib.hid (fun W hb => h1.at (bookA_good _ _ _) (W := W) h hg hb)
  have H2 := Lib.hid (fun W hb => h2.at (bookA_good _ _ _) (W := W) h hg hb)
  have hb := Below.refl w.heap.size w
  have i0 := fun w => idx2a s t w
  have i1 := fun w => idx2b s t w
  have d1 : 0 < x := by omega
  have d2 : ¬ y = 0 := by omega
  have d3 : (y == 0) = false := by simpa using d2
  clear hx
  clear h h1 h2 hg
  go_enter Tryz.func107, Tryz.ntmps107
  go_wp2
  refine wp_loop_rounds 3 ?_
  rw [rounds_succ]
  go_wp2_with (go_at_call 116; (with_reducible refine (H1.out _ hb).mono ?_); rintro e w1 ⟨rfl, hb1⟩)
  rw [rounds_succ]
  go_wp2_with (go_at_call 116; (with_reducible refine (H2.out _ hb1).mono ?_); rintro e w2 ⟨rfl, hb2⟩)
  rw [rounds_succ]
  go_wp2
  go_ret3
  exact ⟨rfl, hb2⟩
theorem dspickR (p : Nat) (most : Int) (ts : List ByteArray) (s t : ByteArray) (hs : s.size ≤ 9223372036854770000) (ht : t.size ≤ 9223372036854770000) : ReadsG Tryz.prog (bookA p most ts) 107 #[.pointer (some ⟨p, 0, none⟩), .string s, .string t] (.returned (.tuple #[.int .i64 (pkX ts s t), .int .i64 (pkP ts s t), .int .i64 (pkE ts s t)])) := by
  have h1 := dsgetR p most ts s hs
  have h2 := dsgetR p most ts t ht
  rcases sg_cases ts s with ⟨a, a1, _⟩ | ⟨a, a1⟩ <;> rcases sg_cases ts t with ⟨b, b1, _⟩ | ⟨b, b1⟩
  · by_cases hc : sgX ts t ≤ sgX ts s
    · obtain ⟨q1, q2, q3⟩ := pk_ge a b hc
      rw [q1, q2, q3]
      rw [a] at h1; rw [b] at h2
      exact spick_ge p most ts s t a1 hc h1 h2
    · obtain ⟨q1, q2, q3⟩ := pk_lt a b (by omega)
      rw [q1, q2, q3]
      rw [a] at h1; rw [b] at h2
      exact spick_lt p most ts s t a1 (by omega) h1 h2
  · obtain ⟨q1, q2, q3⟩ := pk_one a b
    rw [q1, q2, q3]
    rw [a] at h1; rw [b, b1] at h2
    exact spick_one p most ts s t a1 h1 h2
  · obtain ⟨q1, q2, q3⟩ := pk_two a b
    rw [q1, q2, q3]
    rw [a, a1] at h1; rw [b] at h2
    exact spick_two p most ts s t b1 h1 h2
  · obtain ⟨q1, q2, q3⟩ := pk_none a b
    rw [q1, q2, q3]
    rw [a, a1] at h1; rw [b, b1] at h2
    exact spick_none p most ts s t h1 h2
theorem dspick (p : Nat) (most : Int) (ts : List ByteArray) (s t : ByteArray) (hs : s.size ≤ 9223372036854770000) (ht : t.size ≤ 9223372036854770000) : DoesG Tryz.prog (bookA p most ts) 107 #[.pointer (some ⟨p, 0, none⟩), .string s, .string t] (.returned (.tuple #[.int .i64 (pkX ts s t), .int .i64 (pkP ts s t), .int .i64 (pkE ts s t)])) (bookA p most ts) := (dspickR p most ts s t hs ht).does (bookA_good _ _ _)
end Go.Proofs.YtbfpfmidjdonjaaGreatDoor
