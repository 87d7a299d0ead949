/- The walk of EventBack: what may be is written and read again; cut it is none; what is read is written as it stood. Condition: errors.errorType holds the handle of the type error. -/
import Derived.Test.YtodngcpphnmphaaDoorEun
import Derived.Deep.RegionWith
import Derived.IntWalk
namespace Go.Proofs.YtodngcpphnmphaaDoor
open Go Go.RowKit

theorem put_size {p : Ev} (h : p.may = true) : p.put.size ≤ 100 := by
  obtain ⟨hr, hk, -⟩ := (Ev.may_iff p).1 h
  have h1 := numS_size
  have h0 : (⟨#[]⟩ : ByteArray).size = 0 := rfl
  unfold Ev.put Ev.fl
  rcases Ev.kinds hk with e | e | e | e | e | e | e | e | e | e <;> rw [e] <;> simp only [reduceIte, Int.reduceEq, encL, ByteArray.size_append, Fld.enc, h0] <;> (have a0 := h1 0; have a1 := h1 1; have a2 := h1 2; have a3 := h1 3; have a4 := h1 4; have a5 := h1 5; have a6 := h1 6; have a7 := h1 7; have a8 := h1 8; have a9 := h1 9; have b0 := h1 p.user; have b1 := h1 p.session; have b2 := h1 p.address; have b3 := h1 p.a; have b4 := h1 p.b; have b5 := h1 p.c; have b6 := h1 p.tick; omega)
theorem getP_some {t : ByteArray} {p : Ev} (h : Ev.get t = some p) : Ev.getP t = p ∧ Ev.getE t = 0 := by unfold Ev.getP Ev.getE; rw [h]; exact ⟨rfl, rfl⟩
theorem getP_none {t : ByteArray} (h : Ev.get t = none) : Ev.getP t = Ev.zero ∧ Ev.getE t = 700 := by unfold Ev.getP Ev.getE; rw [h]; exact ⟨rfl, rfl⟩

set_option maxRecDepth 100000 in
set_option maxHeartbeats 16000000 in
theorem back_ff (k x1 x2 x3 x4 x5 x6 x7 cut : Int) (t : ByteArray) (w : World) (hg : Gd w) (hs : t.size ≤ 140737488351232) (hm : (Ev.mk k x1 x2 x3 x4 x5 x6 x7).may = false) (ht : Ev.get t = none) :
    Calls Tryd.prog 4 #[(Ev.mk k x1 x2 x3 x4 x5 x6 x7).val, .string t, .int .i64 cut] w fun e w' => e = .returned (.bool true) ∧ Gr w w' := by
  have hr := Gr.refl hg
  have P1 := Lib.hid (fun w => epput (Ev.mk k x1 x2 x3 x4 x5 x6 x7) w)
  have P2 := Lib.hid (fun w => epmay (Ev.mk k x1 x2 x3 x4 x5 x6 x7) w)
  have P6 := Lib.hid (fun w hg => epget t w (by omega) hg)
  rw [show (Ev.mk k x1 x2 x3 x4 x5 x6 x7).putS = ⟨#[]⟩ by unfold Ev.putS; rw [hm]; rfl, show (Ev.mk k x1 x2 x3 x4 x5 x6 x7).putE = 700 by unfold Ev.putE; rw [hm]; rfl] at P1
  rw [hm] at P2
  rw [(getP_none ht).1, (getP_none ht).2] at P6
  unfold Ev.zero Ev.val at *
  clear hm ht hs hg
  go_enter Tryd.func4, Tryd.ntmps4
  go_wp2_with (first
    | (go_at_call 14; (with_reducible refine (awake7 _ (hr.alloc _).good).mono ?_); rintro e w1 ⟨rfl, hb⟩; replace hr := (hr.alloc _).step hb; have kp := (Blk.new _ _ _).step hb; have e1 := kp.cell; clear hb)
    | (go_at_call 7; (with_reducible refine (P1.out _).mono ?_); rintro e w1 ⟨rfl, hb⟩; replace hr := hr.step hb; replace kp := kp.step hb; have e1 := kp.cell; clear hb)
    | (go_at_call 11; (with_reducible refine (lnum _ _).mono ?_); rintro e w1 ⟨rfl, rfl⟩))
  replace hr := hr.drew
  replace kp := kp.drew
  first
    | (go_region_with (first
        | (go_at_call 11; (with_reducible refine (lnum _ _).mono ?_); rintro e w1 ⟨rfl, rfl⟩)
        | (go_at_call 12; (with_reducible refine (P2.out _).mono ?_); rintro e w1 ⟨rfl, hb⟩; replace hr := hr.step hb; replace kp := kp.step hb; have e1 := kp.cell; have l1 := kp.lt; clear hb)))
    | fail
  all_goals
    go_wp2_with (first
      | (go_at_call 9; first
          | ((with_reducible refine (P6.out _ hr.good).mono ?_); rintro e w1 ⟨rfl, hb⟩; replace hr := hr.step hb; clear hb))
      | (go_at_call 11; (with_reducible refine (lnum _ _).mono ?_); rintro e w1 ⟨rfl, rfl⟩))
    go_ret
    exact ⟨rfl, hr.alloc _⟩

set_option maxRecDepth 100000 in
set_option maxHeartbeats 16000000 in
theorem back_ft (k x1 x2 x3 x4 x5 x6 x7 k2 y1 y2 y3 y4 y5 y6 y7 cut : Int) (t : ByteArray) (w : World) (hg : Gd w) (hs : t.size ≤ 140737488351232) (hm : (Ev.mk k x1 x2 x3 x4 x5 x6 x7).may = false) (ht : Ev.get t = some (Ev.mk k2 y1 y2 y3 y4 y5 y6 y7)) :
    Calls Tryd.prog 4 #[(Ev.mk k x1 x2 x3 x4 x5 x6 x7).val, .string t, .int .i64 cut] w fun e w' => e = .returned (.bool true) ∧ Gr w w' := by
  have hr := Gr.refl hg
  have P1 := Lib.hid (fun w => epput (Ev.mk k x1 x2 x3 x4 x5 x6 x7) w)
  have P2 := Lib.hid (fun w => epmay (Ev.mk k x1 x2 x3 x4 x5 x6 x7) w)
  have P6 := Lib.hid (fun w hg => epget t w (by omega) hg)
  rw [show (Ev.mk k x1 x2 x3 x4 x5 x6 x7).putS = ⟨#[]⟩ by unfold Ev.putS; rw [hm]; rfl, show (Ev.mk k x1 x2 x3 x4 x5 x6 x7).putE = 700 by unfold Ev.putE; rw [hm]; rfl] at P1
  rw [hm] at P2
  rw [(getP_some ht).1, (getP_some ht).2] at P6
  obtain ⟨hmb, hpb⟩ := Ev.codec.form _ _ ht
  have P7 := Lib.hid (fun w => epput (Ev.mk k2 y1 y2 y3 y4 y5 y6 y7) w)
  rw [show (Ev.mk k2 y1 y2 y3 y4 y5 y6 y7).putS = t by unfold Ev.putS; rw [hmb]; exact hpb, show (Ev.mk k2 y1 y2 y3 y4 y5 y6 y7).putE = 0 by unfold Ev.putE; rw [hmb]; rfl] at P7
  unfold Ev.val at P7
  clear hmb hpb
  unfold Ev.zero Ev.val at *
  clear hm ht hs hg
  go_enter Tryd.func4, Tryd.ntmps4
  go_wp2_with (first
    | (go_at_call 14; (with_reducible refine (awake7 _ (hr.alloc _).good).mono ?_); rintro e w1 ⟨rfl, hb⟩; replace hr := (hr.alloc _).step hb; have kp := (Blk.new _ _ _).step hb; have e1 := kp.cell; clear hb)
    | (go_at_call 7; (with_reducible refine (P1.out _).mono ?_); rintro e w1 ⟨rfl, hb⟩; replace hr := hr.step hb; replace kp := kp.step hb; have e1 := kp.cell; clear hb)
    | (go_at_call 11; (with_reducible refine (lnum _ _).mono ?_); rintro e w1 ⟨rfl, rfl⟩))
  replace hr := hr.drew
  replace kp := kp.drew
  first
    | (go_region_with (first
        | (go_at_call 11; (with_reducible refine (lnum _ _).mono ?_); rintro e w1 ⟨rfl, rfl⟩)
        | (go_at_call 12; (with_reducible refine (P2.out _).mono ?_); rintro e w1 ⟨rfl, hb⟩; replace hr := hr.step hb; replace kp := kp.step hb; have e1 := kp.cell; have l1 := kp.lt; clear hb)))
    | fail
  all_goals
    go_wp2_with (first
      | (go_at_call 9; first
          | ((with_reducible refine (P6.out _ hr.good).mono ?_); rintro e w1 ⟨rfl, hb⟩; replace hr := hr.step hb; clear hb))
      | (go_at_call 7; (with_reducible refine (P7.out _).mono ?_); rintro e w1 ⟨rfl, hb⟩; replace hr := (hr.alloc _).step hb; clear hb)
      | (go_at_call 11; (with_reducible refine (lnum _ _).mono ?_); rintro e w1 ⟨rfl, rfl⟩))
    go_ret
    exact ⟨rfl, hr⟩
end Go.Proofs.YtodngcpphnmphaaDoor
