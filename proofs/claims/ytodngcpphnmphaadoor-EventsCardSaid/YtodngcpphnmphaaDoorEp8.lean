/- event.Get answers what the bytes are, and the error where they are none. Conditions: the text's size, and errors.errorType holds the handle of the type error. -/
import Derived.Test.YtodngcpphnmphaaDoorEp7
import Derived.Deep.QuietTactic
import Derived.BigQuiet
namespace Go.Proofs.YtodngcpphnmphaaDoor
open Go Go.RowKit
set_option maxHeartbeats 1000000 in
theorem epget_none (s : ByteArray) (w : World) (hs : s.size ≤ 9223372036854770000) (hg : Gd w) (h : eprd s = none) :
    Calls Tryd.prog 9 #[.string s] w fun e w' => e = .returned (.tuple #[.agg #[.int .i64 0, .int .i64 0, .int .i64 0, .int .i64 0, .int .i64 0, .int .i64 0, .int .i64 0, .int .i64 0], .int .i64 700]) ∧ Below w.heap.size w w' := by
  have HP := Lib.hid (fun w hg => epread_no s w hs hg h)
  have hr := Gr.refl hg
  clear h hg
  go_enter Tryd.func9, Tryd.ntmps9
  go_wp2_with (go_at_call 19; (with_reducible refine (HP.out _ (hr.alloc _).good).mono ?_); rintro e w1 ⟨er, her, rfl, hb1⟩; replace hr := (hr.alloc _).step hb1; have kr := (Blk.new _ _ _).step hb1; have e1 := kr.cell; have g1 := kr.froz; have l1 := kr.lt; clear hb1)
  refine bodyPost_ret (v := .tuple #[.agg #[.int .i64 0, .int .i64 0, .int .i64 0, .int .i64 0, .int .i64 0, .int .i64 0, .int .i64 0, .int .i64 0], .int .i64 700]) (by simp [results, Tryd.results9, go_sem, e1, l1]) rfl ⟨rfl, ?_⟩
  with_reducible refine Below.alloc ?_ (by simp; omega) _
  repeat (with_reducible refine Below.setCell ?_ (by simp) _)
  with_reducible exact hr.below
set_option maxHeartbeats 1000000 in
theorem epget_far (s : ByteArray) (p : Ev) (b : Int) (w : World) (hs : s.size ≤ 9223372036854770000) (hg : Gd w) (h : eprd s = some (p, b)) (hb : b ≠ s.size) :
    Calls Tryd.prog 9 #[.string s] w fun e w' => e = .returned (.tuple #[.agg #[.int .i64 0, .int .i64 0, .int .i64 0, .int .i64 0, .int .i64 0, .int .i64 0, .int .i64 0, .int .i64 0], .int .i64 700]) ∧ Below w.heap.size w w' := by
  have HP := Lib.hid (fun w hg => epread_yes s p b w hs hg h)
  have hM := fun w => epmay p w
  obtain ⟨k, u, ss, a, x, y, z, t⟩ := p
  unfold Ev.val at HP hM
  have HM := Lib.hid hM
  have hx : (b != (s.size : Int)) = true := by simpa using hb
  have hr := Gr.refl hg
  clear h hg hM hb
  go_enter Tryd.func9, Tryd.ntmps9
  go_wp2_with (first
    | (go_at_call 19; (with_reducible refine (HP.out _ (hr.alloc _).good).mono ?_); rintro e w1 ⟨rfl, hb1⟩; replace hr := (hr.alloc _).step hb1; have kr := (Blk.new _ _ _).step hb1; have e1 := kr.cell; have g1 := kr.froz; have l1 := kr.lt; clear hb1)
    | (go_at_call 12; (with_reducible refine (HM.out _).mono ?_); rintro e w2 ⟨rfl, hb1⟩; replace kr := (kr.alloc _).step hb1; have e2 := kr.cell; have g2 := kr.froz; have l2 := kr.lt; have kq := (Blk.new _ _ _).step hb1; have e3 := kq.cell; have g3 := kq.froz; have l3 := kq.lt; replace hr := (hr.alloc _).step hb1; clear hb1))
  refine bodyPost_ret (v := .tuple #[.agg #[.int .i64 0, .int .i64 0, .int .i64 0, .int .i64 0, .int .i64 0, .int .i64 0, .int .i64 0, .int .i64 0], .int .i64 700]) (by simp [results, Tryd.results9, go_sem, e1, l1]) rfl ⟨rfl, ?_⟩
  with_reducible refine Below.alloc ?_ (by simp; omega) _
  repeat (with_reducible refine Below.setCell ?_ (by simp) _)
  with_reducible exact hr.below
set_option maxHeartbeats 1000000 in
theorem epget_bad (s : ByteArray) (p : Ev) (b : Int) (w : World) (hs : s.size ≤ 9223372036854770000) (hg : Gd w) (h : eprd s = some (p, b)) (hb : b = s.size) (hm : p.may = false) :
    Calls Tryd.prog 9 #[.string s] w fun e w' => e = .returned (.tuple #[.agg #[.int .i64 0, .int .i64 0, .int .i64 0, .int .i64 0, .int .i64 0, .int .i64 0, .int .i64 0, .int .i64 0], .int .i64 700]) ∧ Below w.heap.size w w' := by
  have HP := Lib.hid (fun w hg => epread_yes s p b w hs hg h)
  have hM := fun w => epmay p w
  rw [hm] at hM
  obtain ⟨k, u, ss, a, x, y, z, t⟩ := p
  unfold Ev.val at HP hM
  have HM := Lib.hid hM
  have hx : (b != (s.size : Int)) = false := by simpa using hb
  have hr := Gr.refl hg
  clear h hg hM hb hm
  go_enter Tryd.func9, Tryd.ntmps9
  go_wp2_with (first
    | (go_at_call 19; (with_reducible refine (HP.out _ (hr.alloc _).good).mono ?_); rintro e w1 ⟨rfl, hb1⟩; replace hr := (hr.alloc _).step hb1; have kr := (Blk.new _ _ _).step hb1; have e1 := kr.cell; have g1 := kr.froz; have l1 := kr.lt; clear hb1)
    | (go_at_call 12; (with_reducible refine (HM.out _).mono ?_); rintro e w2 ⟨rfl, hb1⟩; replace kr := (kr.alloc _).step hb1; have e2 := kr.cell; have g2 := kr.froz; have l2 := kr.lt; have kq := (Blk.new _ _ _).step hb1; have e3 := kq.cell; have g3 := kq.froz; have l3 := kq.lt; replace hr := (hr.alloc _).step hb1; clear hb1))
  refine bodyPost_ret (v := .tuple #[.agg #[.int .i64 0, .int .i64 0, .int .i64 0, .int .i64 0, .int .i64 0, .int .i64 0, .int .i64 0, .int .i64 0], .int .i64 700]) (by simp [results, Tryd.results9, go_sem, e2]) rfl ⟨rfl, ?_⟩
  repeat (with_reducible refine Below.setCell ?_ (by simp; try omega) _)
  with_reducible exact hr.below
set_option maxHeartbeats 1000000 in
theorem epget_some (s : ByteArray) (p : Ev) (b : Int) (w : World) (hs : s.size ≤ 9223372036854770000) (hg : Gd w) (h : eprd s = some (p, b)) (hb : b = s.size) (hm : p.may = true) :
    Calls Tryd.prog 9 #[.string s] w fun e w' => e = .returned (.tuple #[p.val, .int .i64 0]) ∧ Below w.heap.size w w' := by
  have HP := Lib.hid (fun w hg => epread_yes s p b w hs hg h)
  have hM := fun w => epmay p w
  rw [hm] at hM
  obtain ⟨k, u, ss, a, x, y, z, t⟩ := p
  unfold Ev.val at HP hM
  have HM := Lib.hid hM
  have hx : (b != (s.size : Int)) = false := by simpa using hb
  have hr := Gr.refl hg
  unfold Ev.val
  clear h hg hM hb hm
  go_enter Tryd.func9, Tryd.ntmps9
  go_wp2_with (first
    | (go_at_call 19; (with_reducible refine (HP.out _ (hr.alloc _).good).mono ?_); rintro e w1 ⟨rfl, hb1⟩; replace hr := (hr.alloc _).step hb1; have kr := (Blk.new _ _ _).step hb1; have e1 := kr.cell; have g1 := kr.froz; have l1 := kr.lt; clear hb1)
    | (go_at_call 12; (with_reducible refine (HM.out _).mono ?_); rintro e w2 ⟨rfl, hb1⟩; replace kr := (kr.alloc _).step hb1; have e2 := kr.cell; have g2 := kr.froz; have l2 := kr.lt; have kq := (Blk.new _ _ _).step hb1; have e3 := kq.cell; have g3 := kq.froz; have l3 := kq.lt; replace hr := (hr.alloc _).step hb1; clear hb1))
  refine bodyPost_ret (v := .tuple #[.agg #[.int .i64 k, .int .i64 u, .int .i64 ss, .int .i64 a, .int .i64 x, .int .i64 y, .int .i64 z, .int .i64 t], .int .i64 0]) (by simp [results, Tryd.results9, go_sem, e2]) rfl ⟨rfl, ?_⟩
  repeat (with_reducible refine Below.setCell ?_ (by simp; try omega) _)
  with_reducible exact hr.below
theorem epget (s : ByteArray) (w : World) (hs : s.size ≤ 9223372036854770000) (hg : Gd w) : Calls Tryd.prog 9 #[.string s] w fun e w' => e = .returned (.tuple #[(Ev.getP s).val, .int .i64 (Ev.getE s)]) ∧ Below w.heap.size w w' := by
  have hg0 := eprd_ok s
  have hN : Ev.get s = none → (Ev.getP s).val = .agg #[.int .i64 0, .int .i64 0, .int .i64 0, .int .i64 0, .int .i64 0, .int .i64 0, .int .i64 0, .int .i64 0] ∧ Ev.getE s = 700 := fun e => by
    unfold Ev.getP Ev.getE; rw [e]; exact ⟨rfl, rfl⟩
  cases h : eprd s with
  | none =>
    rw [h] at hg0
    rw [(hN hg0).1, (hN hg0).2]
    exact epget_none s w hs hg h
  | some y =>
    obtain ⟨p, b⟩ := y
    rw [h] at hg0
    simp only at hg0
    by_cases hb : b = s.size
    · cases hm : p.may with
      | false =>
        rw [hm, if_neg (fun c => by cases c.2)] at hg0
        rw [(hN hg0).1, (hN hg0).2]
        exact epget_bad s p b w hs hg h hb hm
      | true =>
        rw [hm, if_pos ⟨hb, rfl⟩] at hg0
        rw [show Ev.getP s = p by unfold Ev.getP; rw [hg0]; rfl, show Ev.getE s = 0 by unfold Ev.getE; rw [hg0]; rfl]
        exact epget_some s p b w hs hg h hb hm
    · rw [if_neg (fun c => hb c.1)] at hg0
      rw [(hN hg0).1, (hN hg0).2]
      exact epget_far s p b w hs hg h hb
end Go.Proofs.YtodngcpphnmphaaDoor
