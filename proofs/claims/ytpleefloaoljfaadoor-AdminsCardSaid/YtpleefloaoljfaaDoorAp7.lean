/- admin.read answers as the plain words say. Conditions: the text's size, and errors.errorType holds the handle of the type error. -/
import Derived.Test.YtpleefloaoljfaaDoorAp6
import Derived.Test.YtpleefloaoljfaaDoorParts4
namespace Go.Proofs.YtpleefloaoljfaaDoor
open Go Go.RowKit

/-- What read answers: a thing and where it ends, or that there is none. -/
def apNo (w : World) (ev : Ending) (w' : World) : Prop := ∃ er : Int, (er != 0) = true ∧ ev = .returned (.tuple #[.agg #[.int .i64 0, .int .i64 0, .int .i64 0, .int .i64 0, .int .i64 0, .int .i64 0], .int .i64 0, .int .i64 er]) ∧ Below w.heap.size w w'
set_option maxRecDepth 100000 in
set_option maxHeartbeats 4000000 in
theorem apread_bad (s : ByteArray) (w : World) (hs : s.size ≤ 9223372036854770000) (hg : Gd w) (hE : getE s 0 ≠ 0) : Calls Tryd.prog 19 #[.string s] w (apNo w) := by
  have P2 := Lib.hid (fun w hg => fget s 0 w hs (by omega) (by omega) hg)
  have hr := Gr.refl hg
  have hx : (getE s 0 != 0) = true := by simpa using hE
  have HX := Lib.hid hx
  clear hE hg
  generalize getE s 0 = er at *
  generalize getX s 0 = x at *
  generalize getTo s 0 = t at *
  go_enter Tryd.func19, Tryd.ntmps19
  go_wp2_with (go_at_call 27; (with_reducible refine (P2.out _ (hr.alloc _).good).mono ?_); rintro e w1 ⟨rfl, hb⟩; replace hr := (hr.alloc _).step hb; have kr := (Blk.new _ _ _).step hb; have e1 := kr.cell; have g1 := kr.froz; have l1 := kr.lt; clear hb)
  refine bodyPost_ret (v := .tuple #[.agg #[.int .i64 0, .int .i64 0, .int .i64 0, .int .i64 0, .int .i64 0, .int .i64 0], .int .i64 0, .int .i64 er]) (by simp [results, Tryd.results19, go_sem, e1]) rfl ⟨er, HX.out, rfl, ?_⟩
  repeat (with_reducible refine Below.setCell ?_ (by simp) _)
  with_reducible exact hr.below
set_option maxRecDepth 100000 in
set_option maxHeartbeats 4000000 in
theorem apread_cut (s : ByteArray) (w : World) (hs : s.size ≤ 9223372036854770000) (hg : Gd w) (hE : getE s 0 = 0) (hst : stP s (apU (getX s 0)) (getTo s 0) 5 = none) : Calls Tryd.prog 19 #[.string s] w (apNo w) := by
  have P2 := fun w hg => fget s 0 w hs (by omega) (by omega) hg
  rw [hE] at P2
  have P2 := Lib.hid P2
  have hr := Gr.refl hg
  have hb0 := get_bd hE
  have HNm := Lib.hid (fun w => apnamed (getX s 0) w)
  have HG := Lib.hid (fun w hg => pGetN_no s (apU (getX s 0)) 5 5 (getTo s 0) w (by omega) rfl hs (by omega) (by omega) hst hg)
  clear hE hg hb0 hst
  generalize apI (getX s 0) = I at *
  generalize apU (getX s 0) = U at *
  generalize getX s 0 = k at *
  generalize getTo s 0 = a0 at *
  go_enter Tryd.func19, Tryd.ntmps19
  go_wp2_with (first
    | (go_at_call 27; (with_reducible refine (P2.out _ (hr.alloc _).good).mono ?_); rintro e w1 ⟨rfl, hb⟩; replace hr := (hr.alloc _).step hb; have kr := (Blk.new _ _ _).step hb; have e1 := kr.cell; have g1 := kr.froz; have l1 := kr.lt; clear hb)
    | (go_at_call 15; (with_reducible refine (HNm.out _).mono ?_); rintro e w2 ⟨rfl, rfl⟩)
    | (go_at_call 28; (with_reducible refine (HG.out _ hr.good).mono ?_); rintro e w3 ⟨er, her, rfl, hb⟩; replace hr := hr.step hb; replace kr := kr.step hb; have e1 := kr.cell; have g1 := kr.froz; have l1 := kr.lt; have HX := Lib.hid her; clear hb))
  refine bodyPost_ret (v := .tuple #[.agg #[.int .i64 0, .int .i64 0, .int .i64 0, .int .i64 0, .int .i64 0, .int .i64 0], .int .i64 0, .int .i64 er]) (by simp [results, Tryd.results19, go_sem, e1]) rfl ⟨er, HX.out, rfl, ?_⟩
  repeat (with_reducible refine Below.setCell ?_ (by simp) _)
  with_reducible exact hr.below
set_option maxRecDepth 100000 in
set_option maxHeartbeats 4000000 in
theorem apread_num (s : ByteArray) (r : Nat → Int) (a : Int) (w : World) (hs : s.size ≤ 9223372036854770000) (hg : Gd w) (hE : getE s 0 = 0) (hst : stP s (apU (getX s 0)) (getTo s 0) 5 = some (r, a)) :
    Calls Tryd.prog 19 #[.string s] w fun ev w' => ev = .returned (.tuple #[(apjoinP (getX s 0) r).val, .int .i64 a, .int .i64 0]) ∧ Below w.heap.size w w' := by
  have P2 := fun w hg => fget s 0 w hs (by omega) (by omega) hg
  rw [hE] at P2
  have P2 := Lib.hid P2
  have hr := Gr.refl hg
  have hb0 := get_bd hE
  have HNm := Lib.hid (fun w => apnamed (getX s 0) w)
  have HG := Lib.hid (fun w hg => pGetN_yes s (apU (getX s 0)) 5 5 (getTo s 0) r a w (by omega) rfl hs (by omega) (by omega) hst hg)
  have HJ := Lib.hid (fun w bx (kx : Blk w bx #[.int .i64 (r 0), .int .i64 (r 1), .int .i64 (r 2), .int .i64 (r 3), .int .i64 (r 4)]) => apjoin (getX s 0) (r 0) (r 1) (r 2) (r 3) (r 4) bx w kx)
  clear hE hg hb0 hst
  generalize apI (getX s 0) = I at *
  generalize apU (getX s 0) = U at *
  generalize getX s 0 = k at *
  generalize getTo s 0 = a0 at *
  unfold apjoinP Ad.val
  go_enter Tryd.func19, Tryd.ntmps19
  go_wp2_with (first
    | (go_at_call 27; (with_reducible refine (P2.out _ (hr.alloc _).good).mono ?_); rintro e w1 ⟨rfl, hb⟩; replace hr := (hr.alloc _).step hb; have kr := (Blk.new _ _ _).step hb; have e1 := kr.cell; have g1 := kr.froz; have l1 := kr.lt; clear hb)
    | (go_at_call 15; (with_reducible refine (HNm.out _).mono ?_); rintro e w2 ⟨rfl, rfl⟩)
    | (go_at_call 28; (with_reducible refine (HG.out _ hr.good).mono ?_); rintro e w3 ⟨bx, rfl, hb, -, kx⟩; replace hr := hr.step hb; replace kr := kr.step hb; have e1 := kr.cell; have g1 := kr.froz; have l1 := kr.lt; have ky : Blk w3 bx #[.int .i64 (r 0), .int .i64 (r 1), .int .i64 (r 2), .int .i64 (r 3), .int .i64 (r 4)] := kx; clear hb)
    | (go_at_call 29; (with_reducible refine (HJ.out _ bx ky).mono ?_); rintro e w5 ⟨rfl, hb⟩; replace hr := hr.step hb; replace kr := kr.step hb; have e1 := kr.cell; have g1 := kr.froz; have l1 := kr.lt; clear hb))
  refine bodyPost_ret (v := .tuple #[.agg #[.int .i64 k, .int .i64 (r 0), .int .i64 (r 1), .int .i64 (r 2), .int .i64 (r 3), .int .i64 (r 4)], .int .i64 a, .int .i64 0]) (by simp [results, Tryd.results19, go_sem, e1]) rfl ⟨rfl, ?_⟩
  repeat (with_reducible refine Below.setCell ?_ (by simp) _)
  with_reducible exact hr.below
theorem apread_no (s : ByteArray) (w : World) (hs : s.size ≤ 9223372036854770000) (hg : Gd w) (h : aprd s = none) : Calls Tryd.prog 19 #[.string s] w (apNo w) := by
  unfold aprd at h
  by_cases hE : getE s 0 = 0
  · rw [if_pos hE] at h
    cases hst : stP s (apU (getX s 0)) (getTo s 0) 5 with
    | none => exact apread_cut s w hs hg hE hst
    | some y =>
      obtain ⟨r, a⟩ := y
      rw [hst] at h
      simp [apend] at h
  · exact apread_bad s w hs hg hE
theorem apread_yes (s : ByteArray) (p : Ad) (b : Int) (w : World) (hs : s.size ≤ 9223372036854770000) (hg : Gd w) (h : aprd s = some (p, b)) : Calls Tryd.prog 19 #[.string s] w fun ev w' => ev = .returned (.tuple #[p.val, .int .i64 b, .int .i64 0]) ∧ Below w.heap.size w w' := by
  unfold aprd at h
  by_cases hE : getE s 0 = 0
  · rw [if_pos hE] at h
    cases hst : stP s (apU (getX s 0)) (getTo s 0) 5 with
    | none => rw [hst] at h; cases h
    | some y =>
      obtain ⟨r, a⟩ := y
      rw [hst] at h
      simp only [apend] at h
      obtain ⟨rfl, rfl⟩ := Prod.mk.inj (Option.some.inj h)
      exact apread_num s r _ w hs hg hE hst
  · rw [if_neg hE] at h; cases h
end Go.Proofs.YtpleefloaoljfaaDoor
