/- Package sector: what its Put and Is answer and leave. Conditions: the texts' sizes, not a million terms. -/
import Derived.Test.YtiebpjkppjollaaDoorBwa
import Derived.Test.YtiebpjkppjollaaDoorDoesG
import Derived.Test.YtiebpjkppjollaaDoorBme
import Derived.Test.YtiebpjkppjollaaDoorBbk
import Derived.Test.YtiebpjkppjollaaDoorBpm
import Derived.Deep.RegionWith
import Derived.Deep.QuietTactic
import Derived.BigQuiet
namespace Go.Proofs.YtiebpjkppjollaaDoor
open Go Go.RowKit

theorem bdrew (w : World) : Below w.heap.size w w.drew := ⟨rfl, rfl, rfl, Nat.le_refl _, fun _ _ => rfl⟩
theorem balloc (w : World) (o : Obj) : Below w.heap.size w (w.alloc o) := (Below.refl _ _).alloc (Nat.le_refl _) o
theorem bne9 {s t : ByteArray} (h : s ≠ t) : (s.toList == t.toList) = false := by
  cases c : (s.toList == t.toList)
  · rfl
  · exfalso
    refine h ?_
    have h1 : s.toList = t.toList := by simpa using c
    obtain ⟨⟨a⟩⟩ := s
    obtain ⟨⟨b⟩⟩ := t
    rw [ByteArray.toList_mk, ByteArray.toList_mk] at h1
    exact congrArg (fun l => (⟨⟨l⟩⟩ : ByteArray)) h1
/-- A call's contract that turns nothing of old memory. -/
def Reads (P : Program) (A : Ass) (f : FuncId) (args : Array Value) (v : Ending) : Prop := ∀ w F, A w F → Calls P f args w fun e w' => e = v ∧ Below w.heap.size w w'
def ReadsG (P : Program) (A : Ass) (f : FuncId) (args : Array Value) (v : Ending) : Prop := ∀ w F, A w F → Gd w → Calls P f args w fun e w' => e = v ∧ Below w.heap.size w w'
theorem Reads.does {P : Program} {A : Ass} {f : FuncId} {args : Array Value} {v : Ending} (h : Reads P A f args v) (hA : A.Good) : Does P A f args v A := fun w F k => (h w F k).mono fun _ _ ⟨a, b⟩ => ⟨a, Becomes.same hA k b⟩
theorem ReadsG.does {P : Program} {A : Ass} {f : FuncId} {args : Array Value} {v : Ending} (h : ReadsG P A f args v) (hA : A.Good) : DoesG P A f args v A := fun w F k hg => (h w F k hg).mono fun _ _ ⟨a, b⟩ => ⟨a, Becomes.same hA k b⟩
/-- The same, from a world that came of w. -/
theorem Reads.at {P : Program} {A : Ass} {f : FuncId} {args : Array Value} {v : Ending} (h : Reads P A f args v) (hA : A.Good) {w W : World} {F : List Nat} (k : A w F) (hb : Below w.heap.size w W) : Calls P f args W fun e w' => e = v ∧ Below w.heap.size w w' :=
  (h W F (hA.below k hb)).mono fun _ _ ⟨a, b⟩ => ⟨a, hb.trans (b.mono hb.size)⟩
theorem ReadsG.at {P : Program} {A : Ass} {f : FuncId} {args : Array Value} {v : Ending} (h : ReadsG P A f args v) (hA : A.Good) {w W : World} {F : List Nat} (k : A w F) (hg : Gd w) (hb : Below w.heap.size w W) : Calls P f args W fun e w' => e = v ∧ Below w.heap.size w w' :=
  (h W F (hA.below k hb) (hg.below hb hg.pos)).mono fun _ _ ⟨a, b⟩ => ⟨a, hb.trans (b.mono hb.size)⟩
theorem bon {w W W' : World} (hb : Below w.heap.size w W) (h : Below W.heap.size W W') : Below w.heap.size w W' := hb.trans (h.mono hb.size)
theorem cishashR (p : Nat) (most : Int) (ts : List ByteArray) (s : ByteArray) (tag : Int) : Reads Tryd.prog (bookA p most ts) 64 #[.pointer (some ⟨p, 0, none⟩), .string s, .int .i64 tag] (.returned (.bool (ckI ts true (tmK cH none s) tag))) := by
  intro w F h
  have hn := cisname p most ts tag s ⟨#[72]⟩ _ none w F rfl (key0 w) h
  rw [show (⟨#[72]⟩ : ByteArray) = cH from rfl, show okK none = true from rfl] at hn
  generalize ckI ts true (tmK cH none s) tag = x at *
  rw [show cH = ⟨#[72]⟩ from rfl] at hn
  have HN := Lib.hid hn
  clear hn h
  go_enter Tryd.func64, Tryd.ntmps64
  go_wp2_with (go_at_call 80; (with_reducible refine HN.out.mono ?_); rintro e w1 ⟨rfl, hb⟩)
  go_ret
  exact ⟨rfl, hb⟩
set_option maxRecDepth 100000 in
set_option maxHeartbeats 4000000 in
theorem sput_yes (p : Nat) (most : Int) (ts : List ByteArray) (word body : ByteArray) (hl : ts.length ≤ 1000000) (hw : word.size ≤ 6) (hb : body.size ≤ 45) (he : nmE most ts (tmK cH none (word ++ body)) = 0) :
    Does Tryd.prog (bookA p most ts) 35 #[.pointer (some ⟨p, 0, none⟩), .string word, .string body]
      (.returned (.tuple #[.string (padS (body ++ numS (nmX most ts (tmK cH none (word ++ body))))), .int .i64 (nmX most ts (tmK cH none (word ++ body))), .bool true])) (bookA p most (nmT most ts (tmK cH none (word ++ body)))) := by
  intro w F h
  have hS := Becomes.refl h
  clear h
  obtain ⟨n0, n1⟩ := nmX_bd most ts (tmK cH none (word ++ body))
  have hH := dhash p most ts (word ++ body) (by rw [ByteArray.size_append]; omega)
  rw [show okK none = true from rfl, show ckT most ts true (tmK cH none (word ++ body)) = nmT most ts (tmK cH none (word ++ body)) from rfl, show ckX most ts true (tmK cH none (word ++ body)) = nmX most ts (tmK cH none (word ++ body)) by unfold ckX; simp [he],
    show ckE most ts true (tmK cH none (word ++ body)) = 0 by unfold ckE; simp [he]] at hH
  generalize nmT most ts (tmK cH none (word ++ body)) = T' at *
  generalize nmX most ts (tmK cH none (word ++ body)) = own at *
  have hadd : ¬ 9223372036854775807 < word.size + body.size := by omega
  have h5 := numS_size5 own
  have hF := fun w => sfill body own w ((okNum_iff _).2 ⟨by omega, by omega⟩) (by omega) (by omega)
  generalize padS (body ++ numS own) = SE at *
  have HH := Lib.hid hH
  have HF := Lib.hid hF
  clear hH hF he hl hw hb h5 n0 n1
  go_enter Tryd.func35, Tryd.ntmps35
  go_wp2_with (first
    | (go_at_call 56; (with_reducible refine (Becomes.op HH.out hS).mono ?_); rintro e w1 ⟨rfl, hS1⟩; clear hS)
    | (go_at_call 57; (with_reducible refine (HF.out _).mono ?_); rintro e w2 ⟨rfl, hb⟩; replace hS1 := hS1.lay (bookA_good _ _ _) hb; clear hb))
  go_ret3
  exact ⟨rfl, hS1⟩
set_option maxRecDepth 100000 in
set_option maxHeartbeats 4000000 in
theorem sput_no (p : Nat) (most : Int) (ts : List ByteArray) (word body : ByteArray) (hw : word.size ≤ 6) (hb : body.size ≤ 45) (he : nmE most ts (tmK cH none (word ++ body)) ≠ 0) :
    Does Tryd.prog (bookA p most ts) 35 #[.pointer (some ⟨p, 0, none⟩), .string word, .string body]
      (.returned (.tuple #[.string ⟨#[]⟩, .int .i64 0, .bool false])) (bookA p most (nmT most ts (tmK cH none (word ++ body)))) := by
  intro w F h
  have hS := Becomes.refl h
  clear h
  have hH := dhash p most ts (word ++ body) (by rw [ByteArray.size_append]; omega)
  rw [show okK none = true from rfl, show ckT most ts true (tmK cH none (word ++ body)) = nmT most ts (tmK cH none (word ++ body)) from rfl, show ckX most ts true (tmK cH none (word ++ body)) = 0 by unfold ckX; simp [he],
    show ckE most ts true (tmK cH none (word ++ body)) = 300 by unfold ckE; simp [he]] at hH
  generalize nmT most ts (tmK cH none (word ++ body)) = T' at *
  have hadd : ¬ 9223372036854775807 < word.size + body.size := by omega
  have HH := Lib.hid hH
  clear hH he hw hb
  go_enter Tryd.func35, Tryd.ntmps35
  go_wp2_with (go_at_call 56; (with_reducible refine (Becomes.op HH.out hS).mono ?_); rintro e w1 ⟨rfl, hS1⟩; clear hS)
  go_ret3
  exact ⟨rfl, hS1⟩
set_option maxRecDepth 100000 in
set_option maxHeartbeats 4000000 in
theorem sis_yes (p : Nat) (most : Int) (ts : List ByteArray) (s word body : ByteArray) (name : Int) (ho : okNum name = true) (hw : word.size ≤ 6) (hb : body.size ≤ 45) (hs : padS (body ++ numS name) = s) :
    Reads Tryd.prog (bookA p most ts) 43 #[.pointer (some ⟨p, 0, none⟩), .string s, .string word, .string body, .int .i64 name]
      (.returned (.bool (ckI ts true (tmK cH none (word ++ body)) name))) := by
  intro w F h
  have h5 := numS_size5 name
  have hH := fun W hb => (cishashR p most ts (word ++ body) name).at (bookA_good _ _ _) (W := W) h hb
  generalize ckI ts true (tmK cH none (word ++ body)) name = B at *
  have hadd : ¬ 9223372036854775807 < word.size + body.size := by omega
  have hF := fun w => sfill body name w ho (by omega) (by omega)
  rw [hs] at hF
  have HH := Lib.hid hH
  have HF := Lib.hid hF
  clear hH hF ho hw hb h5 hs h
  go_enter Tryd.func43, Tryd.ntmps43
  go_wp2_with (first
    | (go_at_call 57; (with_reducible refine (HF.out _).mono ?_); rintro e w2 ⟨rfl, hb⟩)
    | (go_at_call 64; (with_reducible refine (HH.out _ hb).mono ?_); rintro e w1 ⟨rfl, hb1⟩))
  go_ret
  exact ⟨rfl, hb1⟩
set_option maxRecDepth 100000 in
set_option maxHeartbeats 4000000 in
theorem sis_no (p : Nat) (most : Int) (ts : List ByteArray) (s word body : ByteArray) (name : Int) (ho : okNum name = true) (hb : body.size ≤ 45) (hs : padS (body ++ numS name) ≠ s) :
    Reads Tryd.prog (bookA p most ts) 43 #[.pointer (some ⟨p, 0, none⟩), .string s, .string word, .string body, .int .i64 name]
      (.returned (.bool false)) := by
  intro w F h
  have h5 := numS_size5 name
  have hF := fun w => sfill body name w ho (by omega) (by omega)
  have hne := bne9 hs
  generalize padS (body ++ numS name) = SE at *
  have HF := Lib.hid hF
  clear hF ho hb h5 hs h
  go_enter Tryd.func43, Tryd.ntmps43
  go_wp2_with (go_at_call 57; (with_reducible refine (HF.out _).mono ?_); rintro e w2 ⟨rfl, hb⟩)
  go_ret
  exact ⟨rfl, hb⟩
end Go.Proofs.YtiebpjkppjollaaDoor
