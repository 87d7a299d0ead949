/- Package record's Put: what it answers and leaves. Condition: not a million terms. -/
import Derived.Test.YtiebpjkppjollaaDoorSct
import Derived.Test.YtiebpjkppjollaaDoorBwb
namespace Go.Proofs.YtiebpjkppjollaaDoor
open Go Go.RowKit

theorem Becomes.op1 {P : Program} {A A' B : Ass} {f : FuncId} {args : Array Value} {v : Ending} (hd : Does P A f args v A') (hB : B.Good) {F : List Nat} {w w1 : World} (h : Becomes F (B.star A) w w1) : Calls P f args w1 fun e w' => e = v ∧ Becomes F (B.star A') w w' := by
  obtain ⟨F', ⟨F1, F2, rfl, h1, h2, h3⟩, g2, g3⟩ := h
  refine (hd w1 F2 h2).mono ?_
  rintro e w' ⟨he, hk⟩
  obtain ⟨F3, k1, k2, k3⟩ := hk.frameR hB h1 h3
  refine ⟨he, F3, k1, g2.trans k2 g3, fun k hk => ?_⟩
  rcases k3 k hk with c | c
  · exact g3 k c
  · exact .inr (Nat.le_trans g2.size c)
set_option maxRecDepth 100000 in
set_option maxHeartbeats 8000000 in
theorem dpput_no (p : Nat) (most : Int) (ts : List ByteArray) (r : Rc) (hm : r.may = false) : Does Tryd.prog (bookA p most ts) 14 #[.pointer (some ⟨p, 0, none⟩), r.val] (.returned (.tuple #[.string ⟨#[]⟩, .int .i64 0, .int .i64 900])) (bookA p most ts) := by
  intro w F h
  have hj := fun w => pjoin_no r hm w
  have hS := Becomes.refl h
  clear h hm
  obtain ⟨seq, boot, prev, ⟨k, u, s, a, x, y, z, t⟩⟩ := r
  unfold Rc.val at hj ⊢
  simp only at hj ⊢
  have HJ := Lib.hid hj
  replace hS := hS.lay (bookA_good _ _ _) (balloc _ (.cells #[.int .i64 seq, .int .i64 boot, .int .i64 prev, .int .i64 k, .int .i64 u, .int .i64 s, .int .i64 a, .int .i64 x, .int .i64 y, .int .i64 z, .int .i64 t] 34))
  clear hj
  go_enter Tryd.func14, Tryd.ntmps14
  go_wp2_with (go_at_call 34; (with_reducible refine (HJ.out _).mono ?_); rintro e w1 ⟨rfl, hb⟩; replace hS := hS.lay (bookA_good _ _ _) hb; clear hb)
  go_ret3
  exact ⟨rfl, hS⟩
set_option maxRecDepth 100000 in
set_option maxHeartbeats 8000000 in
theorem dpput_yes (p : Nat) (most : Int) (ts T : List ByteArray) (r : Rc) (S : ByteArray) (own : Int) (hm : r.may = true) (hp : Does Tryd.prog (bookA p most ts) 35 #[.pointer (some ⟨p, 0, none⟩), .string ⟨#[114, 101, 99, 111, 114, 100]⟩, .string r.body] (.returned (.tuple #[.string S, .int .i64 own, .bool true])) (bookA p most T)) :
    Does Tryd.prog (bookA p most ts) 14 #[.pointer (some ⟨p, 0, none⟩), r.val] (.returned (.tuple #[.string S, .int .i64 own, .int .i64 0])) (bookA p most T) := by
  intro w F h
  have hj := fun w => pjoin_yes r hm w
  have hS := Becomes.refl h
  clear h hm
  generalize r.body = BO at *
  obtain ⟨seq, boot, prev, ⟨k, u, s, a, x, y, z, t⟩⟩ := r
  unfold Rc.val at hj ⊢
  simp only at hj ⊢
  have HJ := Lib.hid hj
  have HP := Lib.hid hp
  replace hS := hS.lay (bookA_good _ _ _) (balloc _ (.cells #[.int .i64 seq, .int .i64 boot, .int .i64 prev, .int .i64 k, .int .i64 u, .int .i64 s, .int .i64 a, .int .i64 x, .int .i64 y, .int .i64 z, .int .i64 t] 34))
  clear hj hp
  go_enter Tryd.func14, Tryd.ntmps14
  go_wp2_with (first
    | (go_at_call 34; (with_reducible refine (HJ.out _).mono ?_); rintro e w1 ⟨rfl, hb⟩; replace hS := hS.lay (bookA_good _ _ _) hb; clear hb)
    | (go_at_call 35; (with_reducible refine (Becomes.op HP.out hS).mono ?_); rintro e w2 ⟨rfl, hS1⟩; clear hS))
  go_ret3
  exact ⟨rfl, hS1⟩
set_option maxRecDepth 100000 in
set_option maxHeartbeats 8000000 in
theorem dpput_full (p : Nat) (most : Int) (ts T : List ByteArray) (r : Rc) (hm : r.may = true) (hp : Does Tryd.prog (bookA p most ts) 35 #[.pointer (some ⟨p, 0, none⟩), .string ⟨#[114, 101, 99, 111, 114, 100]⟩, .string r.body] (.returned (.tuple #[.string ⟨#[]⟩, .int .i64 0, .bool false])) (bookA p most T)) :
    Does Tryd.prog (bookA p most ts) 14 #[.pointer (some ⟨p, 0, none⟩), r.val] (.returned (.tuple #[.string ⟨#[]⟩, .int .i64 0, .int .i64 900])) (bookA p most T) := by
  intro w F h
  have hj := fun w => pjoin_yes r hm w
  have hS := Becomes.refl h
  clear h hm
  generalize r.body = BO at *
  obtain ⟨seq, boot, prev, ⟨k, u, s, a, x, y, z, t⟩⟩ := r
  unfold Rc.val at hj ⊢
  simp only at hj ⊢
  have HJ := Lib.hid hj
  have HP := Lib.hid hp
  replace hS := hS.lay (bookA_good _ _ _) (balloc _ (.cells #[.int .i64 seq, .int .i64 boot, .int .i64 prev, .int .i64 k, .int .i64 u, .int .i64 s, .int .i64 a, .int .i64 x, .int .i64 y, .int .i64 z, .int .i64 t] 34))
  clear hj hp
  go_enter Tryd.func14, Tryd.ntmps14
  go_wp2_with (first
    | (go_at_call 34; (with_reducible refine (HJ.out _).mono ?_); rintro e w1 ⟨rfl, hb⟩; replace hS := hS.lay (bookA_good _ _ _) hb; clear hb)
    | (go_at_call 35; (with_reducible refine (Becomes.op HP.out hS).mono ?_); rintro e w2 ⟨rfl, hS1⟩; clear hS))
  go_ret3
  exact ⟨rfl, hS1⟩
/-- Put. -/
theorem dpputD (p : Nat) (most : Int) (ts : List ByteArray) (r : Rc) (hl : ts.length ≤ 1000000) : Does Tryd.prog (bookA p most ts) 14 #[.pointer (some ⟨p, 0, none⟩), r.val]
    (.returned (.tuple #[.string (rcS most ts r), .int .i64 (rcN most ts r), .int .i64 (rcE most ts r)])) (bookA p most (rcT most ts r)) := by
  cases hm : r.may with
  | false =>
    have ho : rcOk most ts r = false := by unfold rcOk; rw [hm]; rfl
    rw [show rcT most ts r = ts by unfold rcT; rw [hm]; rfl, show rcS most ts r = ⟨#[]⟩ by unfold rcS; rw [ho]; rfl, show rcN most ts r = 0 by unfold rcN; rw [ho]; rfl, show rcE most ts r = 900 by unfold rcE; rw [ho]; rfl]
    exact dpput_no p most ts r hm
  | true =>
    have hsm := r.body_small
    rw [show rcT most ts r = nmT most ts r.tm by unfold rcT; rw [hm]; rfl]
    by_cases e : nmE most ts r.tm = 0
    · have ho : rcOk most ts r = true := by unfold rcOk; rw [hm, e]; rfl
      rw [show rcS most ts r = r.sec (nmX most ts r.tm) by unfold rcS; rw [ho]; rfl, show rcN most ts r = nmX most ts r.tm by unfold rcN; rw [ho]; rfl, show rcE most ts r = 0 by unfold rcE; rw [ho]; rfl]
      exact dpput_yes p most ts _ r _ _ hm (sput_yes p most ts markR r.body hl (by decide) hsm e)
    · have ho : rcOk most ts r = false := by unfold rcOk; rw [hm]; simp [e]
      rw [show rcS most ts r = ⟨#[]⟩ by unfold rcS; rw [ho]; rfl, show rcN most ts r = 0 by unfold rcN; rw [ho]; rfl, show rcE most ts r = 900 by unfold rcE; rw [ho]; rfl]
      exact dpput_full p most ts _ r hm (sput_no p most ts markR r.body (by decide) hsm e)
theorem dpput (p : Nat) (most : Int) (ts : List ByteArray) (r : Rc) (hl : ts.length ≤ 1000000) : DoesG Tryd.prog (bookA p most ts) 14 #[.pointer (some ⟨p, 0, none⟩), r.val]
    (.returned (.tuple #[.string (rcS most ts r), .int .i64 (rcN most ts r), .int .i64 (rcE most ts r)])) (bookA p most (rcT most ts r)) := (dpputD p most ts r hl).g
theorem dpput_nil (r : Rc) (w : World) : Calls Tryd.prog 14 #[.pointer none, r.val] w fun e w' => e = .returned (.tuple #[.string ⟨#[]⟩, .int .i64 0, .int .i64 1]) ∧ Below w.heap.size w w' := by
  obtain ⟨seq, boot, prev, ⟨k, u, s, a, x, y, z, t⟩⟩ := r
  unfold Rc.val
  go_enter Tryd.func14, Tryd.ntmps14
  go_wp2
  go_ret3
  exact ⟨rfl, balloc w _⟩
end Go.Proofs.YtiebpjkppjollaaDoor
