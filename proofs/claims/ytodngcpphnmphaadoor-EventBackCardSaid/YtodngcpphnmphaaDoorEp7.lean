/- event.read answers as the plain words say. Conditions: the text's size, and errors.errorType holds the handle of the type error. -/
import Derived.Test.YtodngcpphnmphaaDoorEp6
import Derived.Test.YtodngcpphnmphaaDoorParts4
namespace Go.Proofs.YtodngcpphnmphaaDoor
open Go Go.RowKit

/-- What read answers: a thing and where it ends, or that there is none. -/
def epNo (w : World) (ev : Ending) (w' : World) : Prop := ∃ er : Int, (er != 0) = true ∧ ev = .returned (.tuple #[.agg #[.int .i64 0, .int .i64 0, .int .i64 0, .int .i64 0, .int .i64 0, .int .i64 0, .int .i64 0, .int .i64 0], .int .i64 0, .int .i64 er]) ∧ Below w.heap.size w w'
set_option maxRecDepth 100000 in
set_option maxHeartbeats 4000000 in
theorem epread_bad (s : ByteArray) (w : World) (hs : s.size ≤ 9223372036854770000) (hg : Gd w) (hE : getE s 0 ≠ 0) : Calls Tryd.prog 19 #[.string s] w (epNo w) := by
  have P2 := Lib.hid (fun w hg => fget s 0 w hs (by omega) (by omega) hg)
  have hr := Gr.refl hg
  have hx : (getE s 0 != 0) = true := by simpa using hE
  have HX := Lib.hid hx
  clear hE hg
  generalize getE s 0 = er at *
  generalize getX s 0 = x at *
  generalize getTo s 0 = t at *
  go_enter Tryd.func19, Tryd.ntmps19
  go_wp2_with (go_at_call 28; (with_reducible refine (P2.out _ (hr.alloc _).good).mono ?_); rintro e w1 ⟨rfl, hb⟩; replace hr := (hr.alloc _).step hb; have kr := (Blk.new _ _ _).step hb; have e1 := kr.cell; have g1 := kr.froz; have l1 := kr.lt; clear hb)
  refine bodyPost_ret (v := .tuple #[.agg #[.int .i64 0, .int .i64 0, .int .i64 0, .int .i64 0, .int .i64 0, .int .i64 0, .int .i64 0, .int .i64 0], .int .i64 0, .int .i64 er]) (by simp [results, Tryd.results19, go_sem, e1]) rfl ⟨er, HX.out, rfl, ?_⟩
  repeat (with_reducible refine Below.setCell ?_ (by simp) _)
  with_reducible exact hr.below
set_option maxRecDepth 100000 in
set_option maxHeartbeats 4000000 in
theorem epread_cut (s : ByteArray) (w : World) (hs : s.size ≤ 9223372036854770000) (hg : Gd w) (hE : getE s 0 = 0) (hst : stP s (epU (getX s 0)) (getTo s 0) 7 = none) : Calls Tryd.prog 19 #[.string s] w (epNo w) := by
  have P2 := fun w hg => fget s 0 w hs (by omega) (by omega) hg
  rw [hE] at P2
  have P2 := Lib.hid P2
  have hr := Gr.refl hg
  have hb0 := get_bd hE
  have HNm := Lib.hid (fun w => epnamed (getX s 0) w)
  have HG := Lib.hid (fun w hg => pGetN_no s (epU (getX s 0)) 7 7 (getTo s 0) w (by omega) rfl hs (by omega) (by omega) hst hg)
  clear hE hg hb0 hst
  generalize epI (getX s 0) = I at *
  generalize epU (getX s 0) = U at *
  generalize getX s 0 = k at *
  generalize getTo s 0 = a0 at *
  go_enter Tryd.func19, Tryd.ntmps19
  go_wp2_with (first
    | (go_at_call 28; (with_reducible refine (P2.out _ (hr.alloc _).good).mono ?_); rintro e w1 ⟨rfl, hb⟩; replace hr := (hr.alloc _).step hb; have kr := (Blk.new _ _ _).step hb; have e1 := kr.cell; have g1 := kr.froz; have l1 := kr.lt; clear hb)
    | (go_at_call 15; (with_reducible refine (HNm.out _).mono ?_); rintro e w2 ⟨rfl, rfl⟩)
    | (go_at_call 29; (with_reducible refine (HG.out _ hr.good).mono ?_); rintro e w3 ⟨er, her, rfl, hb⟩; replace hr := hr.step hb; replace kr := kr.step hb; have e1 := kr.cell; have g1 := kr.froz; have l1 := kr.lt; have HX := Lib.hid her; clear hb))
  refine bodyPost_ret (v := .tuple #[.agg #[.int .i64 0, .int .i64 0, .int .i64 0, .int .i64 0, .int .i64 0, .int .i64 0, .int .i64 0, .int .i64 0], .int .i64 0, .int .i64 er]) (by simp [results, Tryd.results19, go_sem, e1]) rfl ⟨er, HX.out, rfl, ?_⟩
  repeat (with_reducible refine Below.setCell ?_ (by simp) _)
  with_reducible exact hr.below
set_option maxRecDepth 100000 in
set_option maxHeartbeats 4000000 in
theorem epread_num (s : ByteArray) (r : Nat → Int) (a : Int) (w : World) (hs : s.size ≤ 9223372036854770000) (hg : Gd w) (hE : getE s 0 = 0) (hst : stP s (epU (getX s 0)) (getTo s 0) 7 = some (r, a)) :
    Calls Tryd.prog 19 #[.string s] w fun ev w' => ev = .returned (.tuple #[(epjoinP (getX s 0) r).val, .int .i64 a, .int .i64 0]) ∧ Below w.heap.size w w' := by
  have P2 := fun w hg => fget s 0 w hs (by omega) (by omega) hg
  rw [hE] at P2
  have P2 := Lib.hid P2
  have hr := Gr.refl hg
  have hb0 := get_bd hE
  have HNm := Lib.hid (fun w => epnamed (getX s 0) w)
  have HG := Lib.hid (fun w hg => pGetN_yes s (epU (getX s 0)) 7 7 (getTo s 0) r a w (by omega) rfl hs (by omega) (by omega) hst hg)
  have HJ := Lib.hid (fun w bx (kx : Blk w bx #[.int .i64 (r 0), .int .i64 (r 1), .int .i64 (r 2), .int .i64 (r 3), .int .i64 (r 4), .int .i64 (r 5), .int .i64 (r 6)]) => epjoin (getX s 0) (r 0) (r 1) (r 2) (r 3) (r 4) (r 5) (r 6) bx w kx)
  clear hE hg hb0 hst
  generalize epI (getX s 0) = I at *
  generalize epU (getX s 0) = U at *
  generalize getX s 0 = k at *
  generalize getTo s 0 = a0 at *
  unfold epjoinP Ev.val
  go_enter Tryd.func19, Tryd.ntmps19
  go_wp2_with (first
    | (go_at_call 28; (with_reducible refine (P2.out _ (hr.alloc _).good).mono ?_); rintro e w1 ⟨rfl, hb⟩; replace hr := (hr.alloc _).step hb; have kr := (Blk.new _ _ _).step hb; have e1 := kr.cell; have g1 := kr.froz; have l1 := kr.lt; clear hb)
    | (go_at_call 15; (with_reducible refine (HNm.out _).mono ?_); rintro e w2 ⟨rfl, rfl⟩)
    | (go_at_call 29; (with_reducible refine (HG.out _ hr.good).mono ?_); rintro e w3 ⟨bx, rfl, hb, -, kx⟩; replace hr := hr.step hb; replace kr := kr.step hb; have e1 := kr.cell; have g1 := kr.froz; have l1 := kr.lt; have ky : Blk w3 bx #[.int .i64 (r 0), .int .i64 (r 1), .int .i64 (r 2), .int .i64 (r 3), .int .i64 (r 4), .int .i64 (r 5), .int .i64 (r 6)] := kx; clear hb)
    | (go_at_call 30; (with_reducible refine (HJ.out _ bx ky).mono ?_); rintro e w5 ⟨rfl, hb⟩; replace hr := hr.step hb; replace kr := kr.step hb; have e1 := kr.cell; have g1 := kr.froz; have l1 := kr.lt; clear hb))
  refine bodyPost_ret (v := .tuple #[.agg #[.int .i64 k, .int .i64 (r 1), .int .i64 (r 0), .int .i64 (r 2), .int .i64 (r 3), .int .i64 (r 4), .int .i64 (r 5), .int .i64 (r 6)], .int .i64 a, .int .i64 0]) (by simp [results, Tryd.results19, go_sem, e1]) rfl ⟨rfl, ?_⟩
  repeat (with_reducible refine Below.setCell ?_ (by simp) _)
  with_reducible exact hr.below
theorem epread_no (s : ByteArray) (w : World) (hs : s.size ≤ 9223372036854770000) (hg : Gd w) (h : eprd s = none) : Calls Tryd.prog 19 #[.string s] w (epNo w) := by
  unfold eprd at h
  by_cases hE : getE s 0 = 0
  · rw [if_pos hE] at h
    cases hst : stP s (epU (getX s 0)) (getTo s 0) 7 with
    | none => exact epread_cut s w hs hg hE hst
    | some y =>
      obtain ⟨r, a⟩ := y
      rw [hst] at h
      simp [epend] at h
  · exact epread_bad s w hs hg hE
theorem epread_yes (s : ByteArray) (p : Ev) (b : Int) (w : World) (hs : s.size ≤ 9223372036854770000) (hg : Gd w) (h : eprd s = some (p, b)) : Calls Tryd.prog 19 #[.string s] w fun ev w' => ev = .returned (.tuple #[p.val, .int .i64 b, .int .i64 0]) ∧ Below w.heap.size w w' := by
  unfold eprd at h
  by_cases hE : getE s 0 = 0
  · rw [if_pos hE] at h
    cases hst : stP s (epU (getX s 0)) (getTo s 0) 7 with
    | none => rw [hst] at h; cases h
    | some y =>
      obtain ⟨r, a⟩ := y
      rw [hst] at h
      simp only [epend] at h
      obtain ⟨rfl, rfl⟩ := Prod.mk.inj (Option.some.inj h)
      exact epread_num s r _ w hs hg hE hst
  · rw [if_neg hE] at h; cases h
end Go.Proofs.YtodngcpphnmphaaDoor
