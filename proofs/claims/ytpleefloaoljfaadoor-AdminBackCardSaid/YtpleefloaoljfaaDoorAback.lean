/- The walk of AdminBack: what may be is written and read again; cut it is none; what is read is written as it stood. Condition: errors.errorType holds the handle of the type error. -/
import Derived.Test.YtpleefloaoljfaaDoorAun
import Derived.Deep.RegionWith
import Derived.IntWalk
namespace Go.Proofs.YtpleefloaoljfaaDoor
open Go Go.RowKit

theorem put_size {p : Ad} (h : p.may = true) : p.put.size ≤ 100 := by
  obtain ⟨hr, hk, -⟩ := (Ad.may_iff p).1 h
  have h1 := numS_size
  have h0 : (⟨#[]⟩ : ByteArray).size = 0 := rfl
  unfold Ad.put Ad.fl
  rcases Ad.kinds hk with e | e | e | e | e <;> rw [e] <;> simp only [reduceIte, Int.reduceEq, encL, ByteArray.size_append, Fld.enc, h0] <;> (have a0 := h1 0; have a1 := h1 1; have a2 := h1 2; have a3 := h1 3; have a4 := h1 4; have b0 := h1 p.user; have b1 := h1 p.key; have b2 := h1 p.secret; have b3 := h1 p.quota; have b4 := h1 p.session; omega)
theorem getP_some {t : ByteArray} {p : Ad} (h : Ad.get t = some p) : Ad.getP t = p ∧ Ad.getE t = 0 := by unfold Ad.getP Ad.getE; rw [h]; exact ⟨rfl, rfl⟩
theorem getP_none {t : ByteArray} (h : Ad.get t = none) : Ad.getP t = Ad.zero ∧ Ad.getE t = 600 := by unfold Ad.getP Ad.getE; rw [h]; exact ⟨rfl, rfl⟩

set_option maxRecDepth 100000 in
set_option maxHeartbeats 16000000 in
theorem back_ff (k x1 x2 x3 x4 x5 cut : Int) (t : ByteArray) (w : World) (hg : Gd w) (hs : t.size ≤ 140737488351232) (hm : (Ad.mk k x1 x2 x3 x4 x5).may = false) (ht : Ad.get t = none) :
    Calls Tryd.prog 4 #[(Ad.mk k x1 x2 x3 x4 x5).val, .string t, .int .i64 cut] w fun e w' => e = .returned (.bool true) ∧ Gr w w' := by
  have hr := Gr.refl hg
  have P1 := Lib.hid (fun w => apput (Ad.mk k x1 x2 x3 x4 x5) w)
  have P2 := Lib.hid (fun w => apmay (Ad.mk k x1 x2 x3 x4 x5) w)
  have P6 := Lib.hid (fun w hg => apget t w (by omega) hg)
  rw [show (Ad.mk k x1 x2 x3 x4 x5).putS = ⟨#[]⟩ by unfold Ad.putS; rw [hm]; rfl, show (Ad.mk k x1 x2 x3 x4 x5).putE = 600 by unfold Ad.putE; rw [hm]; rfl] at P1
  rw [hm] at P2
  rw [(getP_none ht).1, (getP_none ht).2] at P6
  unfold Ad.zero Ad.val at *
  clear hm ht hs hg
  go_enter Tryd.func4, Tryd.ntmps4
  go_wp2_with (first
    | (go_at_call 14; (with_reducible refine (awake6 _ (hr.alloc _).good).mono ?_); rintro e w1 ⟨rfl, hb⟩; replace hr := (hr.alloc _).step hb; have kp := (Blk.new _ _ _).step hb; have e1 := kp.cell; clear hb)
    | (go_at_call 7; (with_reducible refine (P1.out _).mono ?_); rintro e w1 ⟨rfl, hb⟩; replace hr := hr.step hb; replace kp := kp.step hb; have e1 := kp.cell; clear hb)
    | (go_at_call 11; (with_reducible refine (lnum _ _).mono ?_); rintro e w1 ⟨rfl, rfl⟩))
  replace hr := hr.drew
  replace kp := kp.drew
  first
    | (go_region_with (first
        | (go_at_call 11; (with_reducible refine (lnum _ _).mono ?_); rintro e w1 ⟨rfl, rfl⟩)
        | (go_at_call 12; (with_reducible refine (P2.out _).mono ?_); rintro e w1 ⟨rfl, hb⟩; replace hr := hr.step hb; replace kp := kp.step hb; have e1 := kp.cell; have l1 := kp.lt; clear hb)))
    | fail
  all_goals
    go_wp2_with (first
      | (go_at_call 9; first
          | ((with_reducible refine (P6.out _ hr.good).mono ?_); rintro e w1 ⟨rfl, hb⟩; replace hr := hr.step hb; clear hb))
      | (go_at_call 11; (with_reducible refine (lnum _ _).mono ?_); rintro e w1 ⟨rfl, rfl⟩))
    go_ret
    exact ⟨rfl, hr.alloc _⟩

set_option maxRecDepth 100000 in
set_option maxHeartbeats 16000000 in
theorem back_ft (k x1 x2 x3 x4 x5 k2 y1 y2 y3 y4 y5 cut : Int) (t : ByteArray) (w : World) (hg : Gd w) (hs : t.size ≤ 140737488351232) (hm : (Ad.mk k x1 x2 x3 x4 x5).may = false) (ht : Ad.get t = some (Ad.mk k2 y1 y2 y3 y4 y5)) :
    Calls Tryd.prog 4 #[(Ad.mk k x1 x2 x3 x4 x5).val, .string t, .int .i64 cut] w fun e w' => e = .returned (.bool true) ∧ Gr w w' := by
  have hr := Gr.refl hg
  have P1 := Lib.hid (fun w => apput (Ad.mk k x1 x2 x3 x4 x5) w)
  have P2 := Lib.hid (fun w => apmay (Ad.mk k x1 x2 x3 x4 x5) w)
  have P6 := Lib.hid (fun w hg => apget t w (by omega) hg)
  rw [show (Ad.mk k x1 x2 x3 x4 x5).putS = ⟨#[]⟩ by unfold Ad.putS; rw [hm]; rfl, show (Ad.mk k x1 x2 x3 x4 x5).putE = 600 by unfold Ad.putE; rw [hm]; rfl] at P1
  rw [hm] at P2
  rw [(getP_some ht).1, (getP_some ht).2] at P6
  obtain ⟨hmb, hpb⟩ := Ad.codec.form _ _ ht
  have P7 := Lib.hid (fun w => apput (Ad.mk k2 y1 y2 y3 y4 y5) w)
  rw [show (Ad.mk k2 y1 y2 y3 y4 y5).putS = t by unfold Ad.putS; rw [hmb]; exact hpb, show (Ad.mk k2 y1 y2 y3 y4 y5).putE = 0 by unfold Ad.putE; rw [hmb]; rfl] at P7
  unfold Ad.val at P7
  clear hmb hpb
  unfold Ad.zero Ad.val at *
  clear hm ht hs hg
  go_enter Tryd.func4, Tryd.ntmps4
  go_wp2_with (first
    | (go_at_call 14; (with_reducible refine (awake6 _ (hr.alloc _).good).mono ?_); rintro e w1 ⟨rfl, hb⟩; replace hr := (hr.alloc _).step hb; have kp := (Blk.new _ _ _).step hb; have e1 := kp.cell; clear hb)
    | (go_at_call 7; (with_reducible refine (P1.out _).mono ?_); rintro e w1 ⟨rfl, hb⟩; replace hr := hr.step hb; replace kp := kp.step hb; have e1 := kp.cell; clear hb)
    | (go_at_call 11; (with_reducible refine (lnum _ _).mono ?_); rintro e w1 ⟨rfl, rfl⟩))
  replace hr := hr.drew
  replace kp := kp.drew
  first
    | (go_region_with (first
        | (go_at_call 11; (with_reducible refine (lnum _ _).mono ?_); rintro e w1 ⟨rfl, rfl⟩)
        | (go_at_call 12; (with_reducible refine (P2.out _).mono ?_); rintro e w1 ⟨rfl, hb⟩; replace hr := hr.step hb; replace kp := kp.step hb; have e1 := kp.cell; have l1 := kp.lt; clear hb)))
    | fail
  all_goals
    go_wp2_with (first
      | (go_at_call 9; first
          | ((with_reducible refine (P6.out _ hr.good).mono ?_); rintro e w1 ⟨rfl, hb⟩; replace hr := hr.step hb; clear hb))
      | (go_at_call 7; (with_reducible refine (P7.out _).mono ?_); rintro e w1 ⟨rfl, hb⟩; replace hr := (hr.alloc _).step hb; clear hb)
      | (go_at_call 11; (with_reducible refine (lnum _ _).mono ?_); rintro e w1 ⟨rfl, rfl⟩))
    go_ret
    exact ⟨rfl, hr⟩
end Go.Proofs.YtpleefloaoljfaaDoor
