/- event.Put: plain words on its bytes; and where the thing may not be. No condition. -/
import Derived.Test.YtodngcpphnmphaaDoorEp3
import Derived.Test.YtodngcpphnmphaaDoorParts2
namespace Go.Proofs.YtodngcpphnmphaaDoor
open Go Go.RowKit

def epout (k : Int) (U : Nat) (r : Nat → Int) : ByteArray := accP k U r 7
theorem epout_of {k : Int} (U : Nat) (r : Nat → Int) (l : List Bool) (h : ∀ j, j < 7 → pT U (j : Nat) = l.getD j false) :
    epout k U r = (let a1 := if l.getD 0 false then numS k ++ numS (r 0) else numS k
      let a2 := if l.getD 1 false then a1 ++ numS (r 1) else a1
      let a3 := if l.getD 2 false then a2 ++ numS (r 2) else a2
      let a4 := if l.getD 3 false then a3 ++ numS (r 3) else a3
      let a5 := if l.getD 4 false then a4 ++ numS (r 4) else a4
      let a6 := if l.getD 5 false then a5 ++ numS (r 5) else a5
      let a7 := if l.getD 6 false then a6 ++ numS (r 6) else a6
      a7) := by
  unfold epout
  simp only [accP, h 0 (by omega), h 1 (by omega), h 2 (by omega), h 3 (by omega), h 4 (by omega), h 5 (by omega), h 6 (by omega)]
theorem epout_ok {k u s a x y z t : Int} (hm : (Ev.mk k u s a x y z t).may = true) : epout k (epU k) (rowL [s, u, a, x, y, z, t]) = (Ev.mk k u s a x y z t).putS := by
  have hp : (Ev.mk k u s a x y z t).putS = encL (Ev.mk k u s a x y z t).fl := by unfold Ev.putS; rw [hm]; rfl
  rw [hp]
  obtain ⟨hr, hk, -⟩ := (Ev.may_iff _).1 hm
  have nl : ∀ x : ByteArray, x ++ (⟨#[]⟩ : ByteArray) = x := ba_nil
  rcases Ev.kinds hk with e | e | e | e | e | e | e | e | e | e <;> simp only at e <;> subst e
  · rw [show epU 0 = 64 from rfl, epout_of 64 _ [false, false, false, false, false, false, true] (fun j hj => by match j, hj with | 0, _ | 1, _ | 2, _ | 3, _ | 4, _ | 5, _ | 6, _ => show (_ : Bool) = _; kernel_rfl)]
    simp [Ev.fl, encL, Fld.enc, rowL, nl]
  · rw [show epU 1 = 58 from rfl, epout_of 58 _ [false, true, false, true, true, true, false] (fun j hj => by match j, hj with | 0, _ | 1, _ | 2, _ | 3, _ | 4, _ | 5, _ | 6, _ => show (_ : Bool) = _; kernel_rfl)]
    simp [Ev.fl, encL, Fld.enc, rowL, nl, ba_assoc]
  · rw [show epU 2 = 66 from rfl, epout_of 66 _ [false, true, false, false, false, false, true] (fun j hj => by match j, hj with | 0, _ | 1, _ | 2, _ | 3, _ | 4, _ | 5, _ | 6, _ => show (_ : Bool) = _; kernel_rfl)]
    simp [Ev.fl, encL, Fld.enc, rowL, nl, ba_assoc]
  · rw [show epU 3 = 10 from rfl, epout_of 10 _ [false, true, false, true, false, false, false] (fun j hj => by match j, hj with | 0, _ | 1, _ | 2, _ | 3, _ | 4, _ | 5, _ | 6, _ => show (_ : Bool) = _; kernel_rfl)]
    simp [Ev.fl, encL, Fld.enc, rowL, nl, ba_assoc]
  · rw [show epU 4 = 2 from rfl, epout_of 2 _ [false, true, false, false, false, false, false] (fun j hj => by match j, hj with | 0, _ | 1, _ | 2, _ | 3, _ | 4, _ | 5, _ | 6, _ => show (_ : Bool) = _; kernel_rfl)]
    simp [Ev.fl, encL, Fld.enc, rowL, nl]
  · rw [show epU 5 = 71 from rfl, epout_of 71 _ [true, true, true, false, false, false, true] (fun j hj => by match j, hj with | 0, _ | 1, _ | 2, _ | 3, _ | 4, _ | 5, _ | 6, _ => show (_ : Bool) = _; kernel_rfl)]
    simp [Ev.fl, encL, Fld.enc, rowL, nl, ba_assoc]
  · rw [show epU 6 = 89 from rfl, epout_of 89 _ [true, false, false, true, true, false, true] (fun j hj => by match j, hj with | 0, _ | 1, _ | 2, _ | 3, _ | 4, _ | 5, _ | 6, _ => show (_ : Bool) = _; kernel_rfl)]
    simp [Ev.fl, encL, Fld.enc, rowL, nl, ba_assoc]
  · rw [show epU 7 = 2 from rfl, epout_of 2 _ [false, true, false, false, false, false, false] (fun j hj => by match j, hj with | 0, _ | 1, _ | 2, _ | 3, _ | 4, _ | 5, _ | 6, _ => show (_ : Bool) = _; kernel_rfl)]
    simp [Ev.fl, encL, Fld.enc, rowL, nl]
  · rw [show epU 8 = 0 from rfl, epout_of 0 _ [false, false, false, false, false, false, false] (fun j hj => by match j, hj with | 0, _ | 1, _ | 2, _ | 3, _ | 4, _ | 5, _ | 6, _ => show (_ : Bool) = _; kernel_rfl)]
    simp [Ev.fl, encL, Fld.enc, nl]
  · rw [show epU 9 = 1 from rfl, epout_of 1 _ [true, false, false, false, false, false, false] (fun j hj => by match j, hj with | 0, _ | 1, _ | 2, _ | 3, _ | 4, _ | 5, _ | 6, _ => show (_ : Bool) = _; kernel_rfl)]
    simp [Ev.fl, encL, Fld.enc, rowL, nl]

theorem epput_no (p : Ev) (w : World) (hm : p.may = false) : Calls Tryd.prog 7 #[p.val] w fun e w' => e = .returned (.tuple #[.string ⟨#[]⟩, .int .i64 700]) ∧ Below w.heap.size w w' := by
  have HM := fun w => epmay p w
  rw [hm] at HM
  obtain ⟨k, u, s, a, x, y, z, t⟩ := p
  have HM := Lib.hid HM
  unfold Ev.val at HM
  unfold Ev.val
  clear hm
  go_enter Tryd.func7, Tryd.ntmps7
  go_wp2_with (go_at_call 12; (with_reducible refine (HM.out _).mono ?_); rintro e w1 ⟨rfl, hb⟩; have hB := ((Below.refl w.heap.size w).alloc (Nat.le_refl _) (.cells #[.int .i64 k, .int .i64 u, .int .i64 s, .int .i64 a, .int .i64 x, .int .i64 y, .int .i64 z, .int .i64 t] 23)).trans (hb.mono (by simp)))
  go_ret2
  exact ⟨rfl, hB⟩
end Go.Proofs.YtodngcpphnmphaaDoor
