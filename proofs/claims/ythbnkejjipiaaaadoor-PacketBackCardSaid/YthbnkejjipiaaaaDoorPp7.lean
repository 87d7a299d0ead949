/- packet.read answers as the plain words say. Conditions: the text's size, and errors.errorType holds the handle of the type error. -/
import Derived.Test.YthbnkejjipiaaaaDoorPp6
import Derived.Test.YthbnkejjipiaaaaDoorParts4
import Derived.Test.YthbnkejjipiaaaaDoorFtext
namespace Go.Proofs.YthbnkejjipiaaaaDoor
open Go Go.RowKit

/-- What read answers: a thing and where it ends, or that there is none. -/
def ppNo (w : World) (ev : Ending) (w' : World) : Prop := ∃ er : Int, (er != 0) = true ∧ ev = .returned (.tuple #[.agg #[.int .i64 0, .int .i64 0, .int .i64 0, .int .i64 0, .int .i64 0, .int .i64 0, .int .i64 0, .int .i64 0, .string ⟨#[]⟩], .int .i64 0, .int .i64 er]) ∧ Below w.heap.size w w'
set_option maxRecDepth 100000 in
set_option maxHeartbeats 4000000 in
theorem ppread_bad (s : ByteArray) (w : World) (hs : s.size ≤ 9223372036854770000) (hg : Gd w) (hE : getE s 0 ≠ 0) : Calls Tryd.prog 33 #[.string s] w (ppNo w) := by
  have P2 := Lib.hid (fun w hg => fget s 0 w hs (by omega) (by omega) hg)
  have hr := Gr.refl hg
  have hx : (getE s 0 != 0) = true := by simpa using hE
  have HX := Lib.hid hx
  clear hE hg
  generalize getE s 0 = er at *
  generalize getX s 0 = x at *
  generalize getTo s 0 = t at *
  go_enter Tryd.func33, Tryd.ntmps33
  go_wp2_with (go_at_call 46; (with_reducible refine (P2.out _ (hr.alloc _).good).mono ?_); rintro e w1 ⟨rfl, hb⟩; replace hr := (hr.alloc _).step hb; have kr := (Blk.new _ _ _).step hb; have e1 := kr.cell; have g1 := kr.froz; have l1 := kr.lt; clear hb)
  refine bodyPost_ret (v := .tuple #[.agg #[.int .i64 0, .int .i64 0, .int .i64 0, .int .i64 0, .int .i64 0, .int .i64 0, .int .i64 0, .int .i64 0, .string ⟨#[]⟩], .int .i64 0, .int .i64 er]) (by simp [results, Tryd.results33, go_sem, e1]) rfl ⟨er, HX.out, rfl, ?_⟩
  repeat (with_reducible refine Below.setCell ?_ (by simp) _)
  with_reducible exact hr.below
set_option maxRecDepth 100000 in
set_option maxHeartbeats 4000000 in
theorem ppread_cut (s : ByteArray) (w : World) (hs : s.size ≤ 9223372036854770000) (hg : Gd w) (hE : getE s 0 = 0) (hst : stP s (ppU (getX s 0)) (getTo s 0) 7 = none) : Calls Tryd.prog 33 #[.string s] w (ppNo w) := by
  have P2 := fun w hg => fget s 0 w hs (by omega) (by omega) hg
  rw [hE] at P2
  have P2 := Lib.hid P2
  have hr := Gr.refl hg
  have hb0 := get_bd hE
  have HNm := Lib.hid (fun w => ppnamed (getX s 0) w)
  have HH := Lib.hid (fun w => pHas (ppU (getX s 0)) 7 w (by omega) (by omega))
  have HG := Lib.hid (fun w hg => pGetN_no s (ppU (getX s 0)) 7 7 (getTo s 0) w (by omega) rfl hs (by omega) (by omega) hst hg)
  clear hE hg hb0 hst
  generalize pT (ppU (getX s 0)) 7 = B2 at *
  generalize ppU (getX s 0) = U at *
  generalize getX s 0 = k at *
  generalize getTo s 0 = a0 at *
  go_enter Tryd.func33, Tryd.ntmps33
  go_wp2_with (first
    | (go_at_call 46; (with_reducible refine (P2.out _ (hr.alloc _).good).mono ?_); rintro e w1 ⟨rfl, hb⟩; replace hr := (hr.alloc _).step hb; have kr := (Blk.new _ _ _).step hb; have e1 := kr.cell; have g1 := kr.froz; have l1 := kr.lt; clear hb)
    | (go_at_call 26; (with_reducible refine (HNm.out _).mono ?_); rintro e w2 ⟨rfl, rfl⟩)
    | (go_at_call 47; (with_reducible refine (HG.out _ hr.good).mono ?_); rintro e w3 ⟨er, her, rfl, hb⟩; replace hr := hr.step hb; replace kr := kr.step hb; have e1 := kr.cell; have g1 := kr.froz; have l1 := kr.lt; have HX := Lib.hid her; clear hb))
  refine bodyPost_ret (v := .tuple #[.agg #[.int .i64 0, .int .i64 0, .int .i64 0, .int .i64 0, .int .i64 0, .int .i64 0, .int .i64 0, .int .i64 0, .string ⟨#[]⟩], .int .i64 0, .int .i64 er]) (by simp [results, Tryd.results33, go_sem, e1]) rfl ⟨er, HX.out, rfl, ?_⟩
  repeat (with_reducible refine Below.setCell ?_ (by simp) _)
  with_reducible exact hr.below
set_option maxRecDepth 100000 in
set_option maxHeartbeats 4000000 in
theorem ppread_num (s : ByteArray) (r : Nat → Int) (a : Int) (w : World) (hs : s.size ≤ 9223372036854770000) (hg : Gd w) (hE : getE s 0 = 0) (hst : stP s (ppU (getX s 0)) (getTo s 0) 7 = some (r, a)) (hT : pT (ppU (getX s 0)) 7 = false) :
    Calls Tryd.prog 33 #[.string s] w fun ev w' => ev = .returned (.tuple #[(ppjoinP (getX s 0) r ⟨#[]⟩).val, .int .i64 a, .int .i64 0]) ∧ Below w.heap.size w w' := by
  have P2 := fun w hg => fget s 0 w hs (by omega) (by omega) hg
  rw [hE] at P2
  have P2 := Lib.hid P2
  have hr := Gr.refl hg
  have hb0 := get_bd hE
  have HNm := Lib.hid (fun w => ppnamed (getX s 0) w)
  have HH := Lib.hid (fun w => pHas (ppU (getX s 0)) 7 w (by omega) (by omega))
  rw [hT] at HH
  have HG := Lib.hid (fun w hg => pGetN_yes s (ppU (getX s 0)) 7 7 (getTo s 0) r a w (by omega) rfl hs (by omega) (by omega) hst hg)
  obtain ⟨A0, A1⟩ := stP_bd (s := s) (U := ppU (getX s 0)) (a0 := getTo s 0) (by omega) (by omega) 7 r a hst
  have HJ := Lib.hid (fun (d : ByteArray) w bx (kx : Blk w bx #[.int .i64 (r 0), .int .i64 (r 1), .int .i64 (r 2), .int .i64 (r 3), .int .i64 (r 4), .int .i64 (r 5), .int .i64 (r 6)]) => ppjoin (getX s 0) (r 0) (r 1) (r 2) (r 3) (r 4) (r 5) (r 6) d bx w kx)
  clear hE hg hb0 hst hT
  generalize ppU (getX s 0) = U at *
  generalize getX s 0 = k at *
  generalize getTo s 0 = a0 at *
  unfold ppjoinP Pk.val
  go_enter Tryd.func33, Tryd.ntmps33
  go_wp2_with (first
    | (go_at_call 46; (with_reducible refine (P2.out _ (hr.alloc _).good).mono ?_); rintro e w1 ⟨rfl, hb⟩; replace hr := (hr.alloc _).step hb; have kr := (Blk.new _ _ _).step hb; have e1 := kr.cell; have g1 := kr.froz; have l1 := kr.lt; clear hb)
    | (go_at_call 26; (with_reducible refine (HNm.out _).mono ?_); rintro e w2 ⟨rfl, rfl⟩)
    | (go_at_call 47; (with_reducible refine (HG.out _ hr.good).mono ?_); rintro e w3 ⟨bx, rfl, hb, -, kx⟩; replace hr := hr.step hb; replace kr := kr.step hb; have e1 := kr.cell; have g1 := kr.froz; have l1 := kr.lt; have ky : Blk w3 bx #[.int .i64 (r 0), .int .i64 (r 1), .int .i64 (r 2), .int .i64 (r 3), .int .i64 (r 4), .int .i64 (r 5), .int .i64 (r 6)] := kx; clear hb)
    | (go_at_call 29; (with_reducible refine (HH.out _).mono ?_); rintro e w4 ⟨rfl, rfl⟩)
    | (go_at_call 49; (with_reducible refine (HJ.out _ _ bx ky).mono ?_); rintro e w5 ⟨rfl, hb⟩; replace hr := hr.step hb; replace kr := kr.step hb; have e1 := kr.cell; have g1 := kr.froz; have l1 := kr.lt; clear hb))
  refine bodyPost_ret (v := .tuple #[.agg #[.int .i64 k, .int .i64 (r 0), .int .i64 (r 5), .int .i64 (r 1), .int .i64 (r 4), .int .i64 (r 6), .int .i64 (r 2), .int .i64 (r 3), .string ⟨#[]⟩], .int .i64 a, .int .i64 0]) (by simp [results, Tryd.results33, go_sem, e1]) rfl ⟨rfl, ?_⟩
  repeat (with_reducible refine Below.setCell ?_ (by simp) _)
  with_reducible exact hr.below
set_option maxRecDepth 100000 in
set_option maxHeartbeats 4000000 in
theorem ppread_txt (s : ByteArray) (r : Nat → Int) (a : Int) (w : World) (hs : s.size ≤ 9223372036854770000) (hg : Gd w) (hE : getE s 0 = 0) (hst : stP s (ppU (getX s 0)) (getTo s 0) 7 = some (r, a)) (hT : pT (ppU (getX s 0)) 7 = true) (hX : txtE s a = 0) :
    Calls Tryd.prog 33 #[.string s] w fun ev w' => ev = .returned (.tuple #[(ppjoinP (getX s 0) r (txtS s a)).val, .int .i64 (txtTo s a), .int .i64 0]) ∧ Below w.heap.size w w' := by
  have P2 := fun w hg => fget s 0 w hs (by omega) (by omega) hg
  rw [hE] at P2
  have P2 := Lib.hid P2
  have hr := Gr.refl hg
  have hb0 := get_bd hE
  have HNm := Lib.hid (fun w => ppnamed (getX s 0) w)
  have HH := Lib.hid (fun w => pHas (ppU (getX s 0)) 7 w (by omega) (by omega))
  rw [hT] at HH
  have HG := Lib.hid (fun w hg => pGetN_yes s (ppU (getX s 0)) 7 7 (getTo s 0) r a w (by omega) rfl hs (by omega) (by omega) hst hg)
  obtain ⟨A0, A1⟩ := stP_bd (s := s) (U := ppU (getX s 0)) (a0 := getTo s 0) (by omega) (by omega) 7 r a hst
  have HJ := Lib.hid (fun (d : ByteArray) w bx (kx : Blk w bx #[.int .i64 (r 0), .int .i64 (r 1), .int .i64 (r 2), .int .i64 (r 3), .int .i64 (r 4), .int .i64 (r 5), .int .i64 (r 6)]) => ppjoin (getX s 0) (r 0) (r 1) (r 2) (r 3) (r 4) (r 5) (r 6) d bx w kx)
  have hTx := fun w hg => fgett s a w hs (by omega) (by omega) hg
  rw [hX] at hTx
  have HTx := Lib.hid hTx
  clear hE hg hb0 hst hT hX hTx
  generalize ppU (getX s 0) = U at *
  generalize getX s 0 = k at *
  generalize getTo s 0 = a0 at *
  generalize txtS s a = d at *
  generalize txtTo s a = a2 at *
  unfold ppjoinP Pk.val
  go_enter Tryd.func33, Tryd.ntmps33
  go_wp2_with (first
    | (go_at_call 46; (with_reducible refine (P2.out _ (hr.alloc _).good).mono ?_); rintro e w1 ⟨rfl, hb⟩; replace hr := (hr.alloc _).step hb; have kr := (Blk.new _ _ _).step hb; have e1 := kr.cell; have g1 := kr.froz; have l1 := kr.lt; clear hb)
    | (go_at_call 26; (with_reducible refine (HNm.out _).mono ?_); rintro e w2 ⟨rfl, rfl⟩)
    | (go_at_call 47; (with_reducible refine (HG.out _ hr.good).mono ?_); rintro e w3 ⟨bx, rfl, hb, -, kx⟩; replace hr := hr.step hb; replace kr := kr.step hb; have e1 := kr.cell; have g1 := kr.froz; have l1 := kr.lt; have ky : Blk w3 bx #[.int .i64 (r 0), .int .i64 (r 1), .int .i64 (r 2), .int .i64 (r 3), .int .i64 (r 4), .int .i64 (r 5), .int .i64 (r 6)] := kx; clear hb)
    | (go_at_call 29; (with_reducible refine (HH.out _).mono ?_); rintro e w4 ⟨rfl, rfl⟩)
    | (go_at_call 48; (with_reducible refine (HTx.out _ hr.good).mono ?_); rintro e w4 ⟨rfl, hb⟩; replace hr := hr.step hb; replace kr := kr.step hb; have e1 := kr.cell; have g1 := kr.froz; have l1 := kr.lt; replace ky := ky.step hb; clear hb)
    | (go_at_call 49; (with_reducible refine (HJ.out _ _ bx ky).mono ?_); rintro e w5 ⟨rfl, hb⟩; replace hr := hr.step hb; replace kr := kr.step hb; have e1 := kr.cell; have g1 := kr.froz; have l1 := kr.lt; clear hb))
  refine bodyPost_ret (v := .tuple #[.agg #[.int .i64 k, .int .i64 (r 0), .int .i64 (r 5), .int .i64 (r 1), .int .i64 (r 4), .int .i64 (r 6), .int .i64 (r 2), .int .i64 (r 3), .string d], .int .i64 a2, .int .i64 0]) (by simp [results, Tryd.results33, go_sem, e1]) rfl ⟨rfl, ?_⟩
  repeat (with_reducible refine Below.setCell ?_ (by simp) _)
  with_reducible exact hr.below
set_option maxRecDepth 100000 in
set_option maxHeartbeats 4000000 in
theorem ppread_non (s : ByteArray) (r : Nat → Int) (a : Int) (w : World) (hs : s.size ≤ 9223372036854770000) (hg : Gd w) (hE : getE s 0 = 0) (hst : stP s (ppU (getX s 0)) (getTo s 0) 7 = some (r, a)) (hT : pT (ppU (getX s 0)) 7 = true) (hX : txtE s a ≠ 0) :
    Calls Tryd.prog 33 #[.string s] w (ppNo w) := by
  have P2 := fun w hg => fget s 0 w hs (by omega) (by omega) hg
  rw [hE] at P2
  have P2 := Lib.hid P2
  have hr := Gr.refl hg
  have hb0 := get_bd hE
  have HNm := Lib.hid (fun w => ppnamed (getX s 0) w)
  have HH := Lib.hid (fun w => pHas (ppU (getX s 0)) 7 w (by omega) (by omega))
  rw [hT] at HH
  have HG := Lib.hid (fun w hg => pGetN_yes s (ppU (getX s 0)) 7 7 (getTo s 0) r a w (by omega) rfl hs (by omega) (by omega) hst hg)
  obtain ⟨A0, A1⟩ := stP_bd (s := s) (U := ppU (getX s 0)) (a0 := getTo s 0) (by omega) (by omega) 7 r a hst
  have HTx := Lib.hid (fun w hg => fgett s a w hs (by omega) (by omega) hg)
  have hx : (txtE s a != 0) = true := by simpa using hX
  have HX := Lib.hid hx
  clear hE hg hb0 hst hT hX
  generalize ppU (getX s 0) = U at *
  generalize getX s 0 = k at *
  generalize getTo s 0 = a0 at *
  generalize txtS s a = d at *
  generalize txtTo s a = a2 at *
  generalize txtE s a = er at *
  go_enter Tryd.func33, Tryd.ntmps33
  go_wp2_with (first
    | (go_at_call 46; (with_reducible refine (P2.out _ (hr.alloc _).good).mono ?_); rintro e w1 ⟨rfl, hb⟩; replace hr := (hr.alloc _).step hb; have kr := (Blk.new _ _ _).step hb; have e1 := kr.cell; have g1 := kr.froz; have l1 := kr.lt; clear hb)
    | (go_at_call 26; (with_reducible refine (HNm.out _).mono ?_); rintro e w2 ⟨rfl, rfl⟩)
    | (go_at_call 47; (with_reducible refine (HG.out _ hr.good).mono ?_); rintro e w3 ⟨bx, rfl, hb, -, kx⟩; replace hr := hr.step hb; replace kr := kr.step hb; have e1 := kr.cell; have g1 := kr.froz; have l1 := kr.lt; have ky : Blk w3 bx #[.int .i64 (r 0), .int .i64 (r 1), .int .i64 (r 2), .int .i64 (r 3), .int .i64 (r 4), .int .i64 (r 5), .int .i64 (r 6)] := kx; clear hb)
    | (go_at_call 29; (with_reducible refine (HH.out _).mono ?_); rintro e w4 ⟨rfl, rfl⟩)
    | (go_at_call 48; (with_reducible refine (HTx.out _ hr.good).mono ?_); rintro e w4 ⟨rfl, hb⟩; replace hr := hr.step hb; replace kr := kr.step hb; have e1 := kr.cell; have g1 := kr.froz; have l1 := kr.lt; clear hb))
  refine bodyPost_ret (v := .tuple #[.agg #[.int .i64 0, .int .i64 0, .int .i64 0, .int .i64 0, .int .i64 0, .int .i64 0, .int .i64 0, .int .i64 0, .string ⟨#[]⟩], .int .i64 0, .int .i64 er]) (by simp [results, Tryd.results33, go_sem, e1]) rfl ⟨er, HX.out, rfl, ?_⟩
  repeat (with_reducible refine Below.setCell ?_ (by simp) _)
  with_reducible exact hr.below
theorem ppread_no (s : ByteArray) (w : World) (hs : s.size ≤ 9223372036854770000) (hg : Gd w) (h : pprd s = none) : Calls Tryd.prog 33 #[.string s] w (ppNo w) := by
  unfold pprd at h
  by_cases hE : getE s 0 = 0
  · rw [if_pos hE] at h
    cases hst : stP s (ppU (getX s 0)) (getTo s 0) 7 with
    | none => exact ppread_cut s w hs hg hE hst
    | some y =>
      obtain ⟨r, a⟩ := y
      rw [hst] at h
      cases hT : pT (ppU (getX s 0)) 7 with
      | false => simp [ppend, hT] at h
      | true =>
        by_cases hX : txtE s a = 0
        · simp [ppend, hT, hX] at h
        · exact ppread_non s r a w hs hg hE hst hT hX
  · exact ppread_bad s w hs hg hE
theorem ppread_yes (s : ByteArray) (p : Pk) (b : Int) (w : World) (hs : s.size ≤ 9223372036854770000) (hg : Gd w) (h : pprd s = some (p, b)) : Calls Tryd.prog 33 #[.string s] w fun ev w' => ev = .returned (.tuple #[p.val, .int .i64 b, .int .i64 0]) ∧ Below w.heap.size w w' := by
  unfold pprd at h
  by_cases hE : getE s 0 = 0
  · rw [if_pos hE] at h
    cases hst : stP s (ppU (getX s 0)) (getTo s 0) 7 with
    | none => rw [hst] at h; cases h
    | some y =>
      obtain ⟨r, a⟩ := y
      rw [hst] at h
      cases hT : pT (ppU (getX s 0)) 7 with
      | false =>
        simp only [ppend, hT, Bool.false_eq_true, if_false] at h
        obtain ⟨rfl, rfl⟩ := Prod.mk.inj (Option.some.inj h)
        exact ppread_num s r _ w hs hg hE hst hT
      | true =>
        by_cases hX : txtE s a = 0
        · simp only [ppend, hT, hX, if_true] at h
          obtain ⟨rfl, rfl⟩ := Prod.mk.inj (Option.some.inj h)
          exact ppread_txt s r a w hs hg hE hst hT hX
        · simp [ppend, hT, hX] at h
  · rw [if_neg hE] at h; cases h
end Go.Proofs.YthbnkejjipiaaaaDoor
