/- Put together: Ep7, Ep8. Conditions: each theorem's own. -/
import Derived.Test.YtiebpjkppjollaaDoorBeb
import Derived.Test.YtiebpjkppjollaaDoorBpb
import Derived.Deep.QuietTactic
import Derived.BigQuiet
namespace Go.Proofs.YtiebpjkppjollaaDoor
open Go Go.RowKit

/-- What read answers: a thing and where it ends, or that there is none. -/
def epNo (w : World) (ev : Ending) (w' : World) : Prop := ∃ er : Int, (er != 0) = true ∧ ev = .returned (.tuple #[.agg #[.int .i64 0, .int .i64 0, .int .i64 0, .int .i64 0, .int .i64 0, .int .i64 0, .int .i64 0, .int .i64 0], .int .i64 0, .int .i64 er]) ∧ Below w.heap.size w w'
set_option maxRecDepth 100000 in
set_option maxHeartbeats 4000000 in
theorem epread_bad (s : ByteArray) (w : World) (hs : s.size ≤ 9223372036854770000) (hg : Gd w) (hE : getE s 0 ≠ 0) : Calls Tryd.prog 79 #[.string s] w (epNo w) := by
  have P2 := Lib.hid (fun w hg => fget s 0 w hs (by omega) (by omega) hg)
  have hr := Gr.refl hg
  have hx : (getE s 0 != 0) = true := by simpa using hE
  have HX := Lib.hid hx
  clear hE hg
  generalize getE s 0 = er at *
  generalize getX s 0 = x at *
  generalize getTo s 0 = t at *
  go_enter Tryd.func79, Tryd.ntmps79
  go_wp2_with (go_at_call 61; (with_reducible refine (P2.out _ (hr.alloc _).good).mono ?_); rintro e w1 ⟨rfl, hb⟩; replace hr := (hr.alloc _).step hb; have kr := (Blk.new _ _ _).step hb; have e1 := kr.cell; have g1 := kr.froz; have l1 := kr.lt; clear hb)
  refine bodyPost_ret (v := .tuple #[.agg #[.int .i64 0, .int .i64 0, .int .i64 0, .int .i64 0, .int .i64 0, .int .i64 0, .int .i64 0, .int .i64 0], .int .i64 0, .int .i64 er]) (by simp [results, Tryd.results79, go_sem, e1]) rfl ⟨er, HX.out, rfl, ?_⟩
  repeat (with_reducible refine Below.setCell ?_ (by simp) _)
  with_reducible exact hr.below
set_option maxRecDepth 100000 in
set_option maxHeartbeats 4000000 in
theorem epread_cut (s : ByteArray) (w : World) (hs : s.size ≤ 9223372036854770000) (hg : Gd w) (hE : getE s 0 = 0) (hst : stP s (epU (getX s 0)) (getTo s 0) 7 = none) : Calls Tryd.prog 79 #[.string s] w (epNo w) := by
  have P2 := fun w hg => fget s 0 w hs (by omega) (by omega) hg
  rw [hE] at P2
  have P2 := Lib.hid P2
  have hr := Gr.refl hg
  have hb0 := get_bd hE
  have HNm := Lib.hid (fun w => epnamed (getX s 0) w)
  have HG := Lib.hid (fun w hg => pGetN_no s (epU (getX s 0)) 7 7 (getTo s 0) w (by omega) rfl hs (by omega) (by omega) hst hg)
  clear hE hg hb0 hst
  generalize epI (getX s 0) = I at *
  generalize epU (getX s 0) = U at *
  generalize getX s 0 = k at *
  generalize getTo s 0 = a0 at *
  go_enter Tryd.func79, Tryd.ntmps79
  go_wp2_with (first
    | (go_at_call 61; (with_reducible refine (P2.out _ (hr.alloc _).good).mono ?_); rintro e w1 ⟨rfl, hb⟩; replace hr := (hr.alloc _).step hb; have kr := (Blk.new _ _ _).step hb; have e1 := kr.cell; have g1 := kr.froz; have l1 := kr.lt; clear hb)
    | (go_at_call 70; (with_reducible refine (HNm.out _).mono ?_); rintro e w2 ⟨rfl, rfl⟩)
    | (go_at_call 90; (with_reducible refine (HG.out _ hr.good).mono ?_); rintro e w3 ⟨er, her, rfl, hb⟩; replace hr := hr.step hb; replace kr := kr.step hb; have e1 := kr.cell; have g1 := kr.froz; have l1 := kr.lt; have HX := Lib.hid her; clear hb))
  refine bodyPost_ret (v := .tuple #[.agg #[.int .i64 0, .int .i64 0, .int .i64 0, .int .i64 0, .int .i64 0, .int .i64 0, .int .i64 0, .int .i64 0], .int .i64 0, .int .i64 er]) (by simp [results, Tryd.results79, go_sem, e1]) rfl ⟨er, HX.out, rfl, ?_⟩
  repeat (with_reducible refine Below.setCell ?_ (by simp) _)
  with_reducible exact hr.below
set_option maxRecDepth 100000 in
set_option maxHeartbeats 4000000 in
theorem epread_num (s : ByteArray) (r : Nat → Int) (a : Int) (w : World) (hs : s.size ≤ 9223372036854770000) (hg : Gd w) (hE : getE s 0 = 0) (hst : stP s (epU (getX s 0)) (getTo s 0) 7 = some (r, a)) :
    Calls Tryd.prog 79 #[.string s] w fun ev w' => ev = .returned (.tuple #[(epjoinP (getX s 0) r).val, .int .i64 a, .int .i64 0]) ∧ Below w.heap.size w w' := by
  have P2 := fun w hg => fget s 0 w hs (by omega) (by omega) hg
  rw [hE] at P2
  have P2 := Lib.hid P2
  have hr := Gr.refl hg
  have hb0 := get_bd hE
  have HNm := Lib.hid (fun w => epnamed (getX s 0) w)
  have HG := Lib.hid (fun w hg => pGetN_yes s (epU (getX s 0)) 7 7 (getTo s 0) r a w (by omega) rfl hs (by omega) (by omega) hst hg)
  have HJ := Lib.hid (fun w bx (kx : Blk w bx #[.int .i64 (r 0), .int .i64 (r 1), .int .i64 (r 2), .int .i64 (r 3), .int .i64 (r 4), .int .i64 (r 5), .int .i64 (r 6)]) => epjoin (getX s 0) (r 0) (r 1) (r 2) (r 3) (r 4) (r 5) (r 6) bx w kx)
  clear hE hg hb0 hst
  generalize epI (getX s 0) = I at *
  generalize epU (getX s 0) = U at *
  generalize getX s 0 = k at *
  generalize getTo s 0 = a0 at *
  unfold epjoinP Ev.val
  go_enter Tryd.func79, Tryd.ntmps79
  go_wp2_with (first
    | (go_at_call 61; (with_reducible refine (P2.out _ (hr.alloc _).good).mono ?_); rintro e w1 ⟨rfl, hb⟩; replace hr := (hr.alloc _).step hb; have kr := (Blk.new _ _ _).step hb; have e1 := kr.cell; have g1 := kr.froz; have l1 := kr.lt; clear hb)
    | (go_at_call 70; (with_reducible refine (HNm.out _).mono ?_); rintro e w2 ⟨rfl, rfl⟩)
    | (go_at_call 90; (with_reducible refine (HG.out _ hr.good).mono ?_); rintro e w3 ⟨bx, rfl, hb, -, kx⟩; replace hr := hr.step hb; replace kr := kr.step hb; have e1 := kr.cell; have g1 := kr.froz; have l1 := kr.lt; have ky : Blk w3 bx #[.int .i64 (r 0), .int .i64 (r 1), .int .i64 (r 2), .int .i64 (r 3), .int .i64 (r 4), .int .i64 (r 5), .int .i64 (r 6)] := kx; clear hb)
    | (go_at_call 91; (with_reducible refine (HJ.out _ bx ky).mono ?_); rintro e w5 ⟨rfl, hb⟩; replace hr := hr.step hb; replace kr := kr.step hb; have e1 := kr.cell; have g1 := kr.froz; have l1 := kr.lt; clear hb))
  refine bodyPost_ret (v := .tuple #[.agg #[.int .i64 k, .int .i64 (r 1), .int .i64 (r 0), .int .i64 (r 2), .int .i64 (r 3), .int .i64 (r 4), .int .i64 (r 5), .int .i64 (r 6)], .int .i64 a, .int .i64 0]) (by simp [results, Tryd.results79, go_sem, e1]) rfl ⟨rfl, ?_⟩
  repeat (with_reducible refine Below.setCell ?_ (by simp) _)
  with_reducible exact hr.below
theorem epread_no (s : ByteArray) (w : World) (hs : s.size ≤ 9223372036854770000) (hg : Gd w) (h : eprd s = none) : Calls Tryd.prog 79 #[.string s] w (epNo w) := by
  unfold eprd at h
  by_cases hE : getE s 0 = 0
  · rw [if_pos hE] at h
    cases hst : stP s (epU (getX s 0)) (getTo s 0) 7 with
    | none => exact epread_cut s w hs hg hE hst
    | some y =>
      obtain ⟨r, a⟩ := y
      rw [hst] at h
      simp [epend] at h
  · exact epread_bad s w hs hg hE
theorem epread_yes (s : ByteArray) (p : Ev) (b : Int) (w : World) (hs : s.size ≤ 9223372036854770000) (hg : Gd w) (h : eprd s = some (p, b)) : Calls Tryd.prog 79 #[.string s] w fun ev w' => ev = .returned (.tuple #[p.val, .int .i64 b, .int .i64 0]) ∧ Below w.heap.size w w' := by
  unfold eprd at h
  by_cases hE : getE s 0 = 0
  · rw [if_pos hE] at h
    cases hst : stP s (epU (getX s 0)) (getTo s 0) 7 with
    | none => rw [hst] at h; cases h
    | some y =>
      obtain ⟨r, a⟩ := y
      rw [hst] at h
      simp only [epend] at h
      obtain ⟨rfl, rfl⟩ := Prod.mk.inj (Option.some.inj h)
      exact epread_num s r _ w hs hg hE hst
  · rw [if_neg hE] at h; cases h
end Go.Proofs.YtiebpjkppjollaaDoor

namespace Go.Proofs.YtiebpjkppjollaaDoor
open Go Go.RowKit
set_option maxHeartbeats 1000000 in
theorem epget_none (s : ByteArray) (w : World) (hs : s.size ≤ 9223372036854770000) (hg : Gd w) (h : eprd s = none) :
    Calls Tryd.prog 63 #[.string s] w fun e w' => e = .returned (.tuple #[.agg #[.int .i64 0, .int .i64 0, .int .i64 0, .int .i64 0, .int .i64 0, .int .i64 0, .int .i64 0, .int .i64 0], .int .i64 700]) ∧ Below w.heap.size w w' := by
  have HP := Lib.hid (fun w hg => epread_no s w hs hg h)
  have hr := Gr.refl hg
  clear h hg
  go_enter Tryd.func63, Tryd.ntmps63
  go_wp2_with (go_at_call 79; (with_reducible refine (HP.out _ (hr.alloc _).good).mono ?_); rintro e w1 ⟨er, her, rfl, hb1⟩; replace hr := (hr.alloc _).step hb1; have kr := (Blk.new _ _ _).step hb1; have e1 := kr.cell; have g1 := kr.froz; have l1 := kr.lt; clear hb1)
  refine bodyPost_ret (v := .tuple #[.agg #[.int .i64 0, .int .i64 0, .int .i64 0, .int .i64 0, .int .i64 0, .int .i64 0, .int .i64 0, .int .i64 0], .int .i64 700]) (by simp [results, Tryd.results63, go_sem, e1, l1]) rfl ⟨rfl, ?_⟩
  with_reducible refine Below.alloc ?_ (by simp; omega) _
  repeat (with_reducible refine Below.setCell ?_ (by simp) _)
  with_reducible exact hr.below
set_option maxHeartbeats 1000000 in
theorem epget_far (s : ByteArray) (p : Ev) (b : Int) (w : World) (hs : s.size ≤ 9223372036854770000) (hg : Gd w) (h : eprd s = some (p, b)) (hb : b ≠ s.size) :
    Calls Tryd.prog 63 #[.string s] w fun e w' => e = .returned (.tuple #[.agg #[.int .i64 0, .int .i64 0, .int .i64 0, .int .i64 0, .int .i64 0, .int .i64 0, .int .i64 0, .int .i64 0], .int .i64 700]) ∧ Below w.heap.size w w' := by
  have HP := Lib.hid (fun w hg => epread_yes s p b w hs hg h)
  have hM := fun w => epmay p w
  obtain ⟨k, u, ss, a, x, y, z, t⟩ := p
  unfold Ev.val at HP hM
  have HM := Lib.hid hM
  have hx : (b != (s.size : Int)) = true := by simpa using hb
  have hr := Gr.refl hg
  clear h hg hM hb
  go_enter Tryd.func63, Tryd.ntmps63
  go_wp2_with (first
    | (go_at_call 79; (with_reducible refine (HP.out _ (hr.alloc _).good).mono ?_); rintro e w1 ⟨rfl, hb1⟩; replace hr := (hr.alloc _).step hb1; have kr := (Blk.new _ _ _).step hb1; have e1 := kr.cell; have g1 := kr.froz; have l1 := kr.lt; clear hb1)
    | (go_at_call 69; (with_reducible refine (HM.out _).mono ?_); rintro e w2 ⟨rfl, hb1⟩; replace kr := (kr.alloc _).step hb1; have e2 := kr.cell; have g2 := kr.froz; have l2 := kr.lt; have kq := (Blk.new _ _ _).step hb1; have e3 := kq.cell; have g3 := kq.froz; have l3 := kq.lt; replace hr := (hr.alloc _).step hb1; clear hb1))
  refine bodyPost_ret (v := .tuple #[.agg #[.int .i64 0, .int .i64 0, .int .i64 0, .int .i64 0, .int .i64 0, .int .i64 0, .int .i64 0, .int .i64 0], .int .i64 700]) (by simp [results, Tryd.results63, go_sem, e1, l1]) rfl ⟨rfl, ?_⟩
  with_reducible refine Below.alloc ?_ (by simp; omega) _
  repeat (with_reducible refine Below.setCell ?_ (by simp) _)
  with_reducible exact hr.below
set_option maxHeartbeats 1000000 in
theorem epget_bad (s : ByteArray) (p : Ev) (b : Int) (w : World) (hs : s.size ≤ 9223372036854770000) (hg : Gd w) (h : eprd s = some (p, b)) (hb : b = s.size) (hm : p.may = false) :
    Calls Tryd.prog 63 #[.string s] w fun e w' => e = .returned (.tuple #[.agg #[.int .i64 0, .int .i64 0, .int .i64 0, .int .i64 0, .int .i64 0, .int .i64 0, .int .i64 0, .int .i64 0], .int .i64 700]) ∧ Below w.heap.size w w' := by
  have HP := Lib.hid (fun w hg => epread_yes s p b w hs hg h)
  have hM := fun w => epmay p w
  rw [hm] at hM
  obtain ⟨k, u, ss, a, x, y, z, t⟩ := p
  unfold Ev.val at HP hM
  have HM := Lib.hid hM
  have hx : (b != (s.size : Int)) = false := by simpa using hb
  have hr := Gr.refl hg
  clear h hg hM hb hm
  go_enter Tryd.func63, Tryd.ntmps63
  go_wp2_with (first
    | (go_at_call 79; (with_reducible refine (HP.out _ (hr.alloc _).good).mono ?_); rintro e w1 ⟨rfl, hb1⟩; replace hr := (hr.alloc _).step hb1; have kr := (Blk.new _ _ _).step hb1; have e1 := kr.cell; have g1 := kr.froz; have l1 := kr.lt; clear hb1)
    | (go_at_call 69; (with_reducible refine (HM.out _).mono ?_); rintro e w2 ⟨rfl, hb1⟩; replace kr := (kr.alloc _).step hb1; have e2 := kr.cell; have g2 := kr.froz; have l2 := kr.lt; have kq := (Blk.new _ _ _).step hb1; have e3 := kq.cell; have g3 := kq.froz; have l3 := kq.lt; replace hr := (hr.alloc _).step hb1; clear hb1))
  refine bodyPost_ret (v := .tuple #[.agg #[.int .i64 0, .int .i64 0, .int .i64 0, .int .i64 0, .int .i64 0, .int .i64 0, .int .i64 0, .int .i64 0], .int .i64 700]) (by simp [results, Tryd.results63, go_sem, e2]) rfl ⟨rfl, ?_⟩
  repeat (with_reducible refine Below.setCell ?_ (by simp; try omega) _)
  with_reducible exact hr.below
set_option maxHeartbeats 1000000 in
theorem epget_some (s : ByteArray) (p : Ev) (b : Int) (w : World) (hs : s.size ≤ 9223372036854770000) (hg : Gd w) (h : eprd s = some (p, b)) (hb : b = s.size) (hm : p.may = true) :
    Calls Tryd.prog 63 #[.string s] w fun e w' => e = .returned (.tuple #[p.val, .int .i64 0]) ∧ Below w.heap.size w w' := by
  have HP := Lib.hid (fun w hg => epread_yes s p b w hs hg h)
  have hM := fun w => epmay p w
  rw [hm] at hM
  obtain ⟨k, u, ss, a, x, y, z, t⟩ := p
  unfold Ev.val at HP hM
  have HM := Lib.hid hM
  have hx : (b != (s.size : Int)) = false := by simpa using hb
  have hr := Gr.refl hg
  unfold Ev.val
  clear h hg hM hb hm
  go_enter Tryd.func63, Tryd.ntmps63
  go_wp2_with (first
    | (go_at_call 79; (with_reducible refine (HP.out _ (hr.alloc _).good).mono ?_); rintro e w1 ⟨rfl, hb1⟩; replace hr := (hr.alloc _).step hb1; have kr := (Blk.new _ _ _).step hb1; have e1 := kr.cell; have g1 := kr.froz; have l1 := kr.lt; clear hb1)
    | (go_at_call 69; (with_reducible refine (HM.out _).mono ?_); rintro e w2 ⟨rfl, hb1⟩; replace kr := (kr.alloc _).step hb1; have e2 := kr.cell; have g2 := kr.froz; have l2 := kr.lt; have kq := (Blk.new _ _ _).step hb1; have e3 := kq.cell; have g3 := kq.froz; have l3 := kq.lt; replace hr := (hr.alloc _).step hb1; clear hb1))
  refine bodyPost_ret (v := .tuple #[.agg #[.int .i64 k, .int .i64 u, .int .i64 ss, .int .i64 a, .int .i64 x, .int .i64 y, .int .i64 z, .int .i64 t], .int .i64 0]) (by simp [results, Tryd.results63, go_sem, e2]) rfl ⟨rfl, ?_⟩
  repeat (with_reducible refine Below.setCell ?_ (by simp; try omega) _)
  with_reducible exact hr.below
theorem epget (s : ByteArray) (w : World) (hs : s.size ≤ 9223372036854770000) (hg : Gd w) : Calls Tryd.prog 63 #[.string s] w fun e w' => e = .returned (.tuple #[(Ev.getP s).val, .int .i64 (Ev.getE s)]) ∧ Below w.heap.size w w' := by
  have hg0 := eprd_ok s
  have hN : Ev.get s = none → (Ev.getP s).val = .agg #[.int .i64 0, .int .i64 0, .int .i64 0, .int .i64 0, .int .i64 0, .int .i64 0, .int .i64 0, .int .i64 0] ∧ Ev.getE s = 700 := fun e => by
    unfold Ev.getP Ev.getE; rw [e]; exact ⟨rfl, rfl⟩
  cases h : eprd s with
  | none =>
    rw [h] at hg0
    rw [(hN hg0).1, (hN hg0).2]
    exact epget_none s w hs hg h
  | some y =>
    obtain ⟨p, b⟩ := y
    rw [h] at hg0
    simp only at hg0
    by_cases hb : b = s.size
    · cases hm : p.may with
      | false =>
        rw [hm, if_neg (fun c => by cases c.2)] at hg0
        rw [(hN hg0).1, (hN hg0).2]
        exact epget_bad s p b w hs hg h hb hm
      | true =>
        rw [hm, if_pos ⟨hb, rfl⟩] at hg0
        rw [show Ev.getP s = p by unfold Ev.getP; rw [hg0]; rfl, show Ev.getE s = 0 by unfold Ev.getE; rw [hg0]; rfl]
        exact epget_some s p b w hs hg h hb hm
    · rw [if_neg (fun c => hb c.1)] at hg0
      rw [(hN hg0).1, (hN hg0).2]
      exact epget_far s p b w hs hg h hb
end Go.Proofs.YtiebpjkppjollaaDoor

