/- packet.Put: plain words on its bytes; and where the thing may not be. No condition. -/
import Derived.Test.YthbnkejjipiaaaaDoorPp3
import Derived.Test.YthbnkejjipiaaaaDoorParts2
namespace Go.Proofs.YthbnkejjipiaaaaDoor
open Go Go.RowKit

def ppout (k : Int) (U : Nat) (r : Nat → Int) (d : ByteArray) : ByteArray := if pT U 7 then accP k U r 7 ++ textS d else accP k U r 7
theorem ppout_of {k : Int} (U : Nat) (r : Nat → Int) (d : ByteArray) (l : List Bool) (h : ∀ j, j < 8 → pT U (j : Nat) = l.getD j false) :
    ppout k U r d = (let a1 := if l.getD 0 false then numS k ++ numS (r 0) else numS k
      let a2 := if l.getD 1 false then a1 ++ numS (r 1) else a1
      let a3 := if l.getD 2 false then a2 ++ numS (r 2) else a2
      let a4 := if l.getD 3 false then a3 ++ numS (r 3) else a3
      let a5 := if l.getD 4 false then a4 ++ numS (r 4) else a4
      let a6 := if l.getD 5 false then a5 ++ numS (r 5) else a5
      let a7 := if l.getD 6 false then a6 ++ numS (r 6) else a6
      if l.getD 7 false then a7 ++ textS d else a7) := by
  have h7 : pT U 7 = l.getD 7 false := h 7 (by omega)
  unfold ppout
  rw [h7]
  simp only [accP, h 0 (by omega), h 1 (by omega), h 2 (by omega), h 3 (by omega), h 4 (by omega), h 5 (by omega), h 6 (by omega)]
theorem ppout_ok {k u n h t c s q : Int} {d : ByteArray} (hm : (Pk.mk k u n h t c s q d).may = true) : ppout k (ppU k) (rowL [u, h, s, q, t, n, c]) d = (Pk.mk k u n h t c s q d).putS := by
  have hp : (Pk.mk k u n h t c s q d).putS = encL (Pk.mk k u n h t c s q d).fl := by unfold Pk.putS; rw [hm]; rfl
  rw [hp]
  obtain ⟨hr, hk, -⟩ := (Pk.may_iff _).1 hm
  have nl : ∀ x : ByteArray, x ++ (⟨#[]⟩ : ByteArray) = x := ba_nil
  rcases Pk.kinds hk with e | e | e | e | e <;> simp only at e <;> subst e
  · rw [show ppU 0 = 33 from rfl, ppout_of 33 _ _ [true, false, false, false, false, true, false, false] (fun j hj => by match j, hj with | 0, _ | 1, _ | 2, _ | 3, _ | 4, _ | 5, _ | 6, _ | 7, _ => show (_ : Bool) = _; kernel_rfl)]
    simp [Pk.fl, encL, Fld.enc, rowL, nl, ba_assoc]
  · rw [show ppU 1 = 82 from rfl, ppout_of 82 _ _ [false, true, false, false, true, false, true, false] (fun j hj => by match j, hj with | 0, _ | 1, _ | 2, _ | 3, _ | 4, _ | 5, _ | 6, _ | 7, _ => show (_ : Bool) = _; kernel_rfl)]
    simp [Pk.fl, encL, Fld.enc, rowL, nl, ba_assoc]
  · rw [show ppU 2 = 112 from rfl, ppout_of 112 _ _ [false, false, false, false, true, true, true, false] (fun j hj => by match j, hj with | 0, _ | 1, _ | 2, _ | 3, _ | 4, _ | 5, _ | 6, _ | 7, _ => show (_ : Bool) = _; kernel_rfl)]
    simp [Pk.fl, encL, Fld.enc, rowL, nl, ba_assoc]
  · rw [show ppU 3 = 156 from rfl, ppout_of 156 _ _ [false, false, true, true, true, false, false, true] (fun j hj => by match j, hj with | 0, _ | 1, _ | 2, _ | 3, _ | 4, _ | 5, _ | 6, _ | 7, _ => show (_ : Bool) = _; kernel_rfl)]
    simp [Pk.fl, encL, Fld.enc, rowL, nl, ba_assoc]
  · rw [show ppU 4 = 20 from rfl, ppout_of 20 _ _ [false, false, true, false, true, false, false, false] (fun j hj => by match j, hj with | 0, _ | 1, _ | 2, _ | 3, _ | 4, _ | 5, _ | 6, _ | 7, _ => show (_ : Bool) = _; kernel_rfl)]
    simp [Pk.fl, encL, Fld.enc, rowL, nl, ba_assoc]

theorem ppput_no (p : Pk) (w : World) (hm : p.may = false) : Calls Tryd.prog 11 #[p.val] w fun e w' => e = .returned (.tuple #[.string ⟨#[]⟩, .int .i64 400]) ∧ Below w.heap.size w w' := by
  have HM := fun w => ppmay p w
  rw [hm] at HM
  obtain ⟨k, u, n, h, t, c, s, q, d⟩ := p
  have HM := Lib.hid HM
  unfold Pk.val at HM
  unfold Pk.val
  clear hm
  go_enter Tryd.func11, Tryd.ntmps11
  go_wp2_with (go_at_call 16; (with_reducible refine (HM.out _).mono ?_); rintro e w1 ⟨rfl, hb⟩; have hB := ((Below.refl w.heap.size w).alloc (Nat.le_refl _) (.cells #[.int .i64 k, .int .i64 u, .int .i64 n, .int .i64 h, .int .i64 t, .int .i64 c, .int .i64 s, .int .i64 q, .string d] 23)).trans (hb.mono (by simp)))
  go_ret2
  exact ⟨rfl, hB⟩
end Go.Proofs.YthbnkejjipiaaaaDoor
