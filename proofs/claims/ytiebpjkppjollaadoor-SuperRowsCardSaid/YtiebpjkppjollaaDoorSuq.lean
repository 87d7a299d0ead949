/- Package super's join, read, Put and Get: what they answer and leave. Conditions: the text's size, not a million terms, the handle of the type error. -/
import Derived.Test.YtiebpjkppjollaaDoorSct
import Derived.Test.YtiebpjkppjollaaDoorBfg
import Derived.Test.YtiebpjkppjollaaDoorSup2
namespace Go.Proofs.YtiebpjkppjollaaDoor
open Go Go.RowKit

theorem sjoin (b : Int) (w : World) : Calls Tryd.prog 49 #[.int .i64 b] w fun e w' => e = .returned (.tuple #[.string (if suMay b then numS b else ⟨#[]⟩), .bool (suMay b)]) ∧ Below w.heap.size w w' := by
  cases h : suMay b with
  | true =>
    obtain ⟨h1, h2⟩ := (suMay_iff b).1 h
    have hN := fun w => fnumA b w
    rw [show numE b = 0 by unfold numE; rw [suMay_num h]; rfl] at hN
    have d1 : ¬ b < 1 := by omega
    have d2 : ¬ 1023 < b := by omega
    simp only [if_true]
    generalize numS b = S at *
    have HN := Lib.hid hN
    clear hN h
    go_enter Tryd.func49, Tryd.ntmps49
    go_wp2_with (go_at_call 53; (with_reducible refine (HN.out _).mono ?_); rintro e w1 ⟨rfl, hb⟩)
    go_ret2
    exact ⟨rfl, hb⟩
  | false =>
    have hn : ¬ (1 ≤ b ∧ b ≤ 1023) := fun c => by rw [(suMay_iff b).2 c] at h; cases h
    clear h
    simp only [Bool.false_eq_true, if_false]
    by_cases d1 : b < 1
    · clear hn
      go_enter Tryd.func49, Tryd.ntmps49
      go_wp2
      go_ret2
      exact ⟨rfl, Below.refl _ _⟩
    · have d2 : 1023 < b := by omega
      clear hn
      go_enter Tryd.func49, Tryd.ntmps49
      go_wp2
      go_ret2
      exact ⟨rfl, Below.refl _ _⟩
set_option maxRecDepth 100000 in
theorem sread1 (s : ByteArray) (x1 t1 er : Int) (w : World) (hg : Gd w) (P1 : ∀ w, Gd w → Calls Tryd.prog 61 #[.string s, .int .i64 0] w fun e w' => e = .returned (.tuple #[.int .i64 x1, .int .i64 t1, .int .i64 er]) ∧ Below w.heap.size w w') (her : ¬ er = 0) :
    Calls Tryd.prog 50 #[.string s] w fun e w' => e = .returned (.tuple #[.int .i64 0, .int .i64 0, .bool false]) ∧ Below w.heap.size w w' := by
  have her2 : (er != 0) = true := by simpa using her
  have hR := Gr.refl hg
  replace P1 := Lib.hid P1
  clear hg
  go_enter Tryd.func50, Tryd.ntmps50
  go_wp2_with (go_at_call 61; (with_reducible refine (P1.out _ hR.good).mono ?_); rintro e w1 ⟨rfl, hb⟩; replace hR := hR.step hb; clear hb)
  go_ret3
  exact ⟨rfl, hR.below⟩
set_option maxRecDepth 100000 in
theorem sread2 (s : ByteArray) (x1 t1 x2 t2 er : Int) (w : World) (hg : Gd w) (P1 : ∀ w, Gd w → Calls Tryd.prog 61 #[.string s, .int .i64 0] w fun e w' => e = .returned (.tuple #[.int .i64 x1, .int .i64 t1, .int .i64 0]) ∧ Below w.heap.size w w')
    (P2 : ∀ w, Gd w → Calls Tryd.prog 61 #[.string s, .int .i64 t1] w fun e w' => e = .returned (.tuple #[.int .i64 x2, .int .i64 t2, .int .i64 er]) ∧ Below w.heap.size w w') (her : ¬ er = 0) :
    Calls Tryd.prog 50 #[.string s] w fun e w' => e = .returned (.tuple #[.int .i64 0, .int .i64 0, .bool false]) ∧ Below w.heap.size w w' := by
  have her2 : (er != 0) = true := by simpa using her
  have hR := Gr.refl hg
  replace P1 := Lib.hid P1
  replace P2 := Lib.hid P2
  clear hg
  go_enter Tryd.func50, Tryd.ntmps50
  go_wp2_with (go_at_call 61; first
    | ((with_reducible refine (P1.out _ hR.good).mono ?_); rintro e w1 ⟨rfl, hb⟩; replace hR := hR.step hb; clear hb)
    | ((with_reducible refine (P2.out _ hR.good).mono ?_); rintro e w1 ⟨rfl, hb⟩; replace hR := hR.step hb; clear hb))
  go_ret3
  exact ⟨rfl, hR.below⟩
set_option maxRecDepth 100000 in
theorem sread3 (s : ByteArray) (x1 t1 x2 t2 : Int) (w : World) (hg : Gd w) (P1 : ∀ w, Gd w → Calls Tryd.prog 61 #[.string s, .int .i64 0] w fun e w' => e = .returned (.tuple #[.int .i64 x1, .int .i64 t1, .int .i64 0]) ∧ Below w.heap.size w w')
    (P2 : ∀ w, Gd w → Calls Tryd.prog 61 #[.string s, .int .i64 t1] w fun e w' => e = .returned (.tuple #[.int .i64 x2, .int .i64 t2, .int .i64 0]) ∧ Below w.heap.size w w') :
    Calls Tryd.prog 50 #[.string s] w fun e w' => e = .returned (.tuple #[.int .i64 x1, .int .i64 x2, .bool true]) ∧ Below w.heap.size w w' := by
  have hR := Gr.refl hg
  replace P1 := Lib.hid P1
  replace P2 := Lib.hid P2
  clear hg
  go_enter Tryd.func50, Tryd.ntmps50
  go_wp2_with (go_at_call 61; first
    | ((with_reducible refine (P1.out _ hR.good).mono ?_); rintro e w1 ⟨rfl, hb⟩; replace hR := hR.step hb; clear hb)
    | ((with_reducible refine (P2.out _ hR.good).mono ?_); rintro e w1 ⟨rfl, hb⟩; replace hR := hR.step hb; clear hb))
  go_ret3
  exact ⟨rfl, hR.below⟩
def rsV (s : ByteArray) : Ending := match rdS s with
  | some x => .returned (.tuple #[.int .i64 x.1, .int .i64 x.2, .bool true])
  | none => .returned (.tuple #[.int .i64 0, .int .i64 0, .bool false])
theorem sread (s : ByteArray) (w : World) (hs : s.size ≤ 9223372036854770000) (hg : Gd w) : Calls Tryd.prog 50 #[.string s] w fun e w' => e = rsV s ∧ Below w.heap.size w w' := by
  by_cases e1 : getE s 0 = 0
  · obtain ⟨_, _, b2, b3, b4⟩ := get_bd e1
    by_cases e2 : getE s (getTo s 0) = 0
    · rw [show rsV s = .returned (.tuple #[.int .i64 (getX s 0), .int .i64 (getX s (getTo s 0)), .bool true]) by unfold rsV rdS; rw [if_pos e1, if_pos e2]]
      exact sread3 s _ _ _ _ w hg (fgetE e1 hs (by omega) (by omega)) (fgetE e2 hs (by omega) (by omega))
    · rw [show rsV s = .returned (.tuple #[.int .i64 0, .int .i64 0, .bool false]) by unfold rsV rdS; rw [if_pos e1, if_neg e2]]
      exact sread2 s _ _ _ _ _ w hg (fgetE e1 hs (by omega) (by omega)) (fun w hg => fget s _ w hs (by omega) (by omega) hg) e2
  · rw [show rsV s = .returned (.tuple #[.int .i64 0, .int .i64 0, .bool false]) by unfold rsV rdS; rw [if_neg e1]]
    exact sread1 s _ _ _ w hg (fun w hg => fget s 0 w hs (by omega) (by omega) hg) e1
set_option maxRecDepth 100000 in
set_option maxHeartbeats 4000000 in
theorem dsput_no (p : Nat) (most : Int) (ts : List ByteArray) (b : Int) (hm : suMay b = false) : Does Tryd.prog (bookA p most ts) 24 #[.pointer (some ⟨p, 0, none⟩), .int .i64 b] (.returned (.tuple #[.string ⟨#[]⟩, .int .i64 1000])) (bookA p most ts) := by
  intro w F h
  have hS := Becomes.refl h
  have hj := fun w => sjoin b w
  rw [hm] at hj
  simp only [Bool.false_eq_true, if_false] at hj
  have HJ := Lib.hid hj
  clear h hj hm
  go_enter Tryd.func24, Tryd.ntmps24
  go_wp2_with (go_at_call 49; (with_reducible refine (HJ.out _).mono ?_); rintro e w1 ⟨rfl, hb⟩; replace hS := hS.lay (bookA_good _ _ _) hb; clear hb)
  go_ret2
  exact ⟨rfl, hS⟩
set_option maxRecDepth 100000 in
set_option maxHeartbeats 4000000 in
theorem dsput_yes (p : Nat) (most : Int) (ts T : List ByteArray) (b : Int) (S N : ByteArray) (own : Int) (hj : ∀ w, Calls Tryd.prog 49 #[.int .i64 b] w fun e w' => e = .returned (.tuple #[.string N, .bool true]) ∧ Below w.heap.size w w')
    (hp : Does Tryd.prog (bookA p most ts) 35 #[.pointer (some ⟨p, 0, none⟩), .string ⟨#[115, 117, 112, 101, 114]⟩, .string N] (.returned (.tuple #[.string S, .int .i64 own, .bool true])) (bookA p most T)) :
    Does Tryd.prog (bookA p most ts) 24 #[.pointer (some ⟨p, 0, none⟩), .int .i64 b] (.returned (.tuple #[.string S, .int .i64 0])) (bookA p most T) := by
  intro w F h
  have hS := Becomes.refl h
  have HJ := Lib.hid hj
  have HP := Lib.hid hp
  clear h hj hp
  go_enter Tryd.func24, Tryd.ntmps24
  go_wp2_with (first
    | (go_at_call 49; (with_reducible refine (HJ.out _).mono ?_); rintro e w1 ⟨rfl, hb⟩; replace hS := hS.lay (bookA_good _ _ _) hb; clear hb)
    | (go_at_call 35; (with_reducible refine (Becomes.op HP.out hS).mono ?_); rintro e w2 ⟨rfl, hS1⟩; clear hS))
  go_ret2
  exact ⟨rfl, hS1⟩
set_option maxRecDepth 100000 in
set_option maxHeartbeats 4000000 in
theorem dsput_full (p : Nat) (most : Int) (ts T : List ByteArray) (b : Int) (N : ByteArray) (hj : ∀ w, Calls Tryd.prog 49 #[.int .i64 b] w fun e w' => e = .returned (.tuple #[.string N, .bool true]) ∧ Below w.heap.size w w')
    (hp : Does Tryd.prog (bookA p most ts) 35 #[.pointer (some ⟨p, 0, none⟩), .string ⟨#[115, 117, 112, 101, 114]⟩, .string N] (.returned (.tuple #[.string ⟨#[]⟩, .int .i64 0, .bool false])) (bookA p most T)) :
    Does Tryd.prog (bookA p most ts) 24 #[.pointer (some ⟨p, 0, none⟩), .int .i64 b] (.returned (.tuple #[.string ⟨#[]⟩, .int .i64 1000])) (bookA p most T) := by
  intro w F h
  have hS := Becomes.refl h
  have HJ := Lib.hid hj
  have HP := Lib.hid hp
  clear h hj hp
  go_enter Tryd.func24, Tryd.ntmps24
  go_wp2_with (first
    | (go_at_call 49; (with_reducible refine (HJ.out _).mono ?_); rintro e w1 ⟨rfl, hb⟩; replace hS := hS.lay (bookA_good _ _ _) hb; clear hb)
    | (go_at_call 35; (with_reducible refine (Becomes.op HP.out hS).mono ?_); rintro e w2 ⟨rfl, hS1⟩; clear hS))
  go_ret2
  exact ⟨rfl, hS1⟩
/-- Put. -/
theorem dsput (p : Nat) (most : Int) (ts : List ByteArray) (b : Int) (hl : ts.length ≤ 1000000) : Does Tryd.prog (bookA p most ts) 24 #[.pointer (some ⟨p, 0, none⟩), .int .i64 b] (.returned (.tuple #[.string (suS most ts b), .int .i64 (suE most ts b)])) (bookA p most (suT most ts b)) := by
  cases hm : suMay b with
  | false =>
    have hk : suOk most ts b = false := by unfold suOk; rw [hm]; rfl
    rw [show suS most ts b = ⟨#[]⟩ by unfold suS; rw [hk]; rfl, show suE most ts b = 1000 by unfold suE; rw [hk]; rfl, show suT most ts b = ts by unfold suT; rw [hm]; rfl]
    exact dsput_no p most ts b hm
  | true =>
    have hj := fun w => sjoin b w
    rw [hm] at hj
    have h5 := numS_size5 b
    rw [show suT most ts b = nmT most ts (suTm b) by unfold suT; rw [hm]; rfl]
    by_cases e : nmE most ts (suTm b) = 0
    · have hk : suOk most ts b = true := by unfold suOk; rw [hm, e]; rfl
      rw [show suS most ts b = suSec b (nmX most ts (suTm b)) by unfold suS; rw [hk]; rfl, show suE most ts b = 0 by unfold suE; rw [hk]; rfl]
      exact dsput_yes p most ts _ b _ _ _ hj (sput_yes p most ts markS (numS b) hl (by decide) (by omega) e)
    · have hk : suOk most ts b = false := by unfold suOk; rw [hm]; simp [e]
      rw [show suS most ts b = ⟨#[]⟩ by unfold suS; rw [hk]; rfl, show suE most ts b = 1000 by unfold suE; rw [hk]; rfl]
      exact dsput_full p most ts _ b _ hj (sput_no p most ts markS (numS b) (by decide) (by omega) e)
theorem dsput_nil (b : Int) (w : World) : Calls Tryd.prog 24 #[.pointer none, .int .i64 b] w fun e w' => e = .returned (.tuple #[.string ⟨#[]⟩, .int .i64 1]) ∧ w = w' := by
  go_enter Tryd.func24, Tryd.ntmps24
  go_wp2
  go_ret2
  exact ⟨rfl, rfl⟩
set_option maxRecDepth 100000 in
set_option maxHeartbeats 4000000 in
theorem sget_none (p : Nat) (most : Int) (ts : List ByteArray) (s : ByteArray) (hR : ∀ w, Gd w → Calls Tryd.prog 50 #[.string s] w fun e w' => e = .returned (.tuple #[.int .i64 0, .int .i64 0, .bool false]) ∧ Below w.heap.size w w') :
    ReadsG Tryd.prog (bookA p most ts) 26 #[.pointer (some ⟨p, 0, none⟩), .string s] (.returned (.tuple #[.int .i64 0, .int .i64 1000])) := by
  intro w F h hg
  have HR := Lib.hid hR
  clear hR h
  go_enter Tryd.func26, Tryd.ntmps26
  go_wp2_with (go_at_call 50; (with_reducible refine (HR.out _ hg).mono ?_); rintro e w1 ⟨rfl, hb⟩)
  go_ret2
  exact ⟨rfl, hb⟩
set_option maxRecDepth 100000 in
set_option maxHeartbeats 4000000 in
theorem sget_no (p : Nat) (most : Int) (ts : List ByteArray) (s : ByteArray) (b own : Int) (hR : ∀ w, Gd w → Calls Tryd.prog 50 #[.string s] w fun e w' => e = .returned (.tuple #[.int .i64 b, .int .i64 own, .bool true]) ∧ Below w.heap.size w w')
    (hj : ∀ w, Calls Tryd.prog 49 #[.int .i64 b] w fun e w' => e = .returned (.tuple #[.string ⟨#[]⟩, .bool false]) ∧ Below w.heap.size w w') :
    ReadsG Tryd.prog (bookA p most ts) 26 #[.pointer (some ⟨p, 0, none⟩), .string s] (.returned (.tuple #[.int .i64 0, .int .i64 1000])) := by
  intro w F h hg
  have HR := Lib.hid hR
  have HJ := Lib.hid hj
  clear hR h hj
  go_enter Tryd.func26, Tryd.ntmps26
  go_wp2_with (first
    | (go_at_call 50; (with_reducible refine (HR.out _ hg).mono ?_); rintro e w1 ⟨rfl, hb⟩)
    | (go_at_call 49; (with_reducible refine (HJ.out _).mono ?_); rintro e w2 ⟨rfl, hb2⟩; replace hb := bon hb hb2; clear hb2))
  go_ret2
  exact ⟨rfl, hb⟩
set_option maxRecDepth 100000 in
set_option maxHeartbeats 4000000 in
theorem sget_is (p : Nat) (most : Int) (ts : List ByteArray) (s N : ByteArray) (b own : Int) (B : Bool) (hR : ∀ w, Gd w → Calls Tryd.prog 50 #[.string s] w fun e w' => e = .returned (.tuple #[.int .i64 b, .int .i64 own, .bool true]) ∧ Below w.heap.size w w')
    (hj : ∀ w, Calls Tryd.prog 49 #[.int .i64 b] w fun e w' => e = .returned (.tuple #[.string N, .bool true]) ∧ Below w.heap.size w w')
    (hi : Reads Tryd.prog (bookA p most ts) 43 #[.pointer (some ⟨p, 0, none⟩), .string s, .string ⟨#[115, 117, 112, 101, 114]⟩, .string N, .int .i64 own] (.returned (.bool B))) :
    ReadsG Tryd.prog (bookA p most ts) 26 #[.pointer (some ⟨p, 0, none⟩), .string s] (.returned (.tuple #[.int .i64 (if B then b else 0), .int .i64 (if B then 0 else 1000)])) := by
  intro w F h hg
  have HR := Lib.hid hR
  have HJ := Lib.hid hj
  have HI := Lib.hid (fun W hb => hi.at (bookA_good _ _ _) (W := W) h hb)
  clear hR h hj hi
  cases B <;> simp only [Bool.false_eq_true, if_false, if_true] <;>
  · go_enter Tryd.func26, Tryd.ntmps26
    go_wp2_with (first
      | (go_at_call 50; (with_reducible refine (HR.out _ hg).mono ?_); rintro e w1 ⟨rfl, hb⟩)
      | (go_at_call 49; (with_reducible refine (HJ.out _).mono ?_); rintro e w2 ⟨rfl, hb2⟩; replace hb := bon hb hb2; clear hb2)
      | (go_at_call 43; (with_reducible refine (HI.out _ hb).mono ?_); rintro e w1 ⟨rfl, hb1⟩))
    go_ret2
    exact ⟨rfl, hb1⟩
/-- Get. -/
theorem dsgetR (p : Nat) (most : Int) (ts : List ByteArray) (s : ByteArray) (hs : s.size ≤ 9223372036854770000) : ReadsG Tryd.prog (bookA p most ts) 26 #[.pointer (some ⟨p, 0, none⟩), .string s] (.returned (.tuple #[.int .i64 (sgX ts s), .int .i64 (sgE ts s)])) := by
  have hR := fun w hg => sread s w hs hg
  have hf := find_S ts s
  cases hp : rdS s with
  | none =>
    rw [hp] at hf
    obtain ⟨q1, q2⟩ := sg_no hf
    rw [q1, q2]
    rw [show rsV s = .returned (.tuple #[.int .i64 0, .int .i64 0, .bool false]) by unfold rsV; rw [hp]] at hR
    exact sget_none p most ts s hR
  | some x =>
    obtain ⟨b, own⟩ := x
    obtain ⟨hb, ho⟩ := rdS_num hp
    rw [hp] at hf
    replace hf : suFind ts s = if suMay b && ckI ts true (suTm b) own && decide (suSec b own = s) then some (b, own) else none := hf
    rw [show rsV s = .returned (.tuple #[.int .i64 b, .int .i64 own, .bool true]) by unfold rsV; rw [hp]] at hR
    have hj := fun w => sjoin b w
    cases hm : suMay b with
    | false =>
      rw [hm] at hf hj
      obtain ⟨q1, q2⟩ := sg_no hf
      rw [q1, q2]
      exact sget_no p most ts s b own hR hj
    | true =>
      rw [hm] at hf hj
      have h5 := numS_size5 b
      by_cases hc : suSec b own = s
      · have hi := sget_is p most ts s _ b own _ hR hj (sis_yes p most ts s markS (numS b) own ho (by decide) (by omega) hc)
        rw [decide_eq_true hc, Bool.and_true, Bool.true_and] at hf
        replace hi : ReadsG Tryd.prog (bookA p most ts) 26 #[.pointer (some ⟨p, 0, none⟩), .string s] (.returned (.tuple #[.int .i64 (if ckI ts true (suTm b) own then b else 0), .int .i64 (if ckI ts true (suTm b) own then 0 else 1000)])) := hi
        cases hk : ckI ts true (suTm b) own with
        | true =>
          rw [hk] at hf hi
          obtain ⟨q1, q2⟩ := sg_yes hf
          rw [q1, q2]
          exact hi
        | false =>
          rw [hk] at hf hi
          obtain ⟨q1, q2⟩ := sg_no hf
          rw [q1, q2]
          exact hi
      · have hi := sget_is p most ts s _ b own _ hR hj (sis_no p most ts s markS (numS b) own ho (by omega) hc)
        rw [decide_eq_false hc, Bool.and_false] at hf
        obtain ⟨q1, q2⟩ := sg_no hf
        rw [q1, q2]
        exact hi
theorem dsget (p : Nat) (most : Int) (ts : List ByteArray) (s : ByteArray) (hs : s.size ≤ 9223372036854770000) : DoesG Tryd.prog (bookA p most ts) 26 #[.pointer (some ⟨p, 0, none⟩), .string s] (.returned (.tuple #[.int .i64 (sgX ts s), .int .i64 (sgE ts s)])) (bookA p most ts) := (dsgetR p most ts s hs).does (bookA_good _ _ _)
theorem dsget_nil (s : ByteArray) (w : World) : Calls Tryd.prog 26 #[.pointer none, .string s] w fun e w' => e = .returned (.tuple #[.int .i64 0, .int .i64 1]) ∧ w = w' := by
  go_enter Tryd.func26, Tryd.ntmps26
  go_wp2
  go_ret2
  exact ⟨rfl, rfl⟩
theorem dspick_nil (s t : ByteArray) (w : World) : Calls Tryd.prog 28 #[.pointer none, .string s, .string t] w fun e w' => e = .returned (.tuple #[.int .i64 0, .int .i64 0, .int .i64 1]) ∧ w = w' := by
  go_enter Tryd.func28, Tryd.ntmps28
  go_wp2
  go_ret3
  exact ⟨rfl, rfl⟩
end Go.Proofs.YtiebpjkppjollaaDoor
