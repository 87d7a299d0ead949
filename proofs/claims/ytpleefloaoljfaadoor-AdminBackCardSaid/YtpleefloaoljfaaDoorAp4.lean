/- admin.Put: plain words on its bytes; and where the thing may not be. No condition. -/
import Derived.Test.YtpleefloaoljfaaDoorAp3
import Derived.Test.YtpleefloaoljfaaDoorParts2
namespace Go.Proofs.YtpleefloaoljfaaDoor
open Go Go.RowKit

def apout (k : Int) (U : Nat) (r : Nat → Int) : ByteArray := accP k U r 5
theorem apout_of {k : Int} (U : Nat) (r : Nat → Int) (l : List Bool) (h : ∀ j, j < 5 → pT U (j : Nat) = l.getD j false) :
    apout k U r = (let a1 := if l.getD 0 false then numS k ++ numS (r 0) else numS k
      let a2 := if l.getD 1 false then a1 ++ numS (r 1) else a1
      let a3 := if l.getD 2 false then a2 ++ numS (r 2) else a2
      let a4 := if l.getD 3 false then a3 ++ numS (r 3) else a3
      let a5 := if l.getD 4 false then a4 ++ numS (r 4) else a4
      a5) := by
  unfold apout
  simp only [accP, h 0 (by omega), h 1 (by omega), h 2 (by omega), h 3 (by omega), h 4 (by omega)]
theorem apout_ok {k u y x q s : Int} (hm : (Ad.mk k u y x q s).may = true) : apout k (apU k) (rowL [u, y, x, q, s]) = (Ad.mk k u y x q s).putS := by
  have hp : (Ad.mk k u y x q s).putS = encL (Ad.mk k u y x q s).fl := by unfold Ad.putS; rw [hm]; rfl
  rw [hp]
  obtain ⟨hr, hk, -⟩ := (Ad.may_iff _).1 hm
  have nl : ∀ x : ByteArray, x ++ (⟨#[]⟩ : ByteArray) = x := ba_nil
  rcases Ad.kinds hk with e | e | e | e | e <;> simp only at e <;> subst e
  · rw [show apU 0 = 15 from rfl, apout_of 15 _ [true, true, true, true, false] (fun j hj => by match j, hj with | 0, _ | 1, _ | 2, _ | 3, _ | 4, _ => show (_ : Bool) = _; kernel_rfl)]
    simp [Ad.fl, encL, Fld.enc, rowL, nl, ba_assoc]
  · rw [show apU 1 = 1 from rfl, apout_of 1 _ [true, false, false, false, false] (fun j hj => by match j, hj with | 0, _ | 1, _ | 2, _ | 3, _ | 4, _ => show (_ : Bool) = _; kernel_rfl)]
    simp [Ad.fl, encL, Fld.enc, rowL, nl]
  · rw [show apU 2 = 1 from rfl, apout_of 1 _ [true, false, false, false, false] (fun j hj => by match j, hj with | 0, _ | 1, _ | 2, _ | 3, _ | 4, _ => show (_ : Bool) = _; kernel_rfl)]
    simp [Ad.fl, encL, Fld.enc, rowL, nl]
  · rw [show apU 3 = 0 from rfl, apout_of 0 _ [false, false, false, false, false] (fun j hj => by match j, hj with | 0, _ | 1, _ | 2, _ | 3, _ | 4, _ => show (_ : Bool) = _; kernel_rfl)]
    simp [Ad.fl, encL, Fld.enc, nl]
  · rw [show apU 4 = 16 from rfl, apout_of 16 _ [false, false, false, false, true] (fun j hj => by match j, hj with | 0, _ | 1, _ | 2, _ | 3, _ | 4, _ => show (_ : Bool) = _; kernel_rfl)]
    simp [Ad.fl, encL, Fld.enc, rowL, nl]

theorem apput_no (p : Ad) (w : World) (hm : p.may = false) : Calls Tryd.prog 7 #[p.val] w fun e w' => e = .returned (.tuple #[.string ⟨#[]⟩, .int .i64 600]) ∧ Below w.heap.size w w' := by
  have HM := fun w => apmay p w
  rw [hm] at HM
  obtain ⟨k, u, y, x, q, s⟩ := p
  have HM := Lib.hid HM
  unfold Ad.val at HM
  unfold Ad.val
  clear hm
  go_enter Tryd.func7, Tryd.ntmps7
  go_wp2_with (go_at_call 12; (with_reducible refine (HM.out _).mono ?_); rintro e w1 ⟨rfl, hb⟩; have hB := ((Below.refl w.heap.size w).alloc (Nat.le_refl _) (.cells #[.int .i64 k, .int .i64 u, .int .i64 y, .int .i64 x, .int .i64 q, .int .i64 s] 23)).trans (hb.mono (by simp)))
  go_ret2
  exact ⟨rfl, hB⟩
end Go.Proofs.YtpleefloaoljfaaDoor
