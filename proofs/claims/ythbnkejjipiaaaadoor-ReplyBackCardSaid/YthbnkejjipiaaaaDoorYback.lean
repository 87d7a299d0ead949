/- The walk of ReplyBack: what may be is written and read again; cut it is none; what is read is written as it stood. Condition: errors.errorType holds the handle of the type error. -/
import Derived.Test.YthbnkejjipiaaaaDoorYun
import Derived.Deep.RegionWith
import Derived.IntWalk
namespace Go.Proofs.YthbnkejjipiaaaaDoor
open Go Go.RowKit

theorem put_size {p : Ry} (h : p.may = true) : p.put.size ≤ 100 := by
  obtain ⟨hr, hk, -⟩ := (Ry.may_iff p).1 h
  have h1 := numS_size
  have h0 : (⟨#[]⟩ : ByteArray).size = 0 := rfl
  have r1 := ((Ry.rng_iff p).1 hr).1
  have h2 : (textS p.data).size ≤ 69 := by rw [textS_ok (by omega), ByteArray.size_append]; have := numS_size (p.data.size : Int); omega
  unfold Ry.put Ry.fl
  rcases Ry.kinds hk with e | e | e | e | e | e <;> rw [e] <;> simp only [reduceIte, Int.reduceEq, encL, ByteArray.size_append, Fld.enc, h0] <;> (have a0 := h1 0; have a1 := h1 1; have a2 := h1 2; have a3 := h1 3; have a4 := h1 4; have a5 := h1 5; have b0 := h1 p.half; have b1 := h1 p.nonce; have b2 := h1 p.session; have b3 := h1 p.address; have b4 := h1 p.ticket; have b5 := h1 p.seq; have b6 := h1 p.code; omega)
theorem getP_some {t : ByteArray} {p : Ry} (h : Ry.get t = some p) : Ry.getP t = p ∧ Ry.getE t = 0 := by unfold Ry.getP Ry.getE; rw [h]; exact ⟨rfl, rfl⟩
theorem getP_none {t : ByteArray} (h : Ry.get t = none) : Ry.getP t = Ry.zero ∧ Ry.getE t = 500 := by unfold Ry.getP Ry.getE; rw [h]; exact ⟨rfl, rfl⟩

set_option maxRecDepth 100000 in
set_option maxHeartbeats 16000000 in
theorem back_ff (k u n h tg c s q cut : Int) (d t : ByteArray) (w : World) (hg : Gd w) (hs : t.size ≤ 140737488351232) (hm : (Ry.mk k u n h tg c s q d).may = false) (ht : Ry.get t = none) :
    Calls Tryd.prog 8 #[(Ry.mk k u n h tg c s q d).val, .string t, .int .i64 cut] w fun e w' => e = .returned (.bool true) ∧ Gr w w' := by
  have hr := Gr.refl hg
  have P1 := Lib.hid (fun w => ypput (Ry.mk k u n h tg c s q d) w)
  have P2 := Lib.hid (fun w => ypmay (Ry.mk k u n h tg c s q d) w)
  have P6 := Lib.hid (fun w hg => ypget t w (by omega) hg)
  rw [show (Ry.mk k u n h tg c s q d).putS = ⟨#[]⟩ by unfold Ry.putS; rw [hm]; rfl, show (Ry.mk k u n h tg c s q d).putE = 500 by unfold Ry.putE; rw [hm]; rfl] at P1
  rw [hm] at P2
  rw [(getP_none ht).1, (getP_none ht).2] at P6
  unfold Ry.zero Ry.val at *
  clear hm ht hs hg
  go_enter Tryd.func8, Tryd.ntmps8
  go_wp2_with (first
    | (go_at_call 25; (with_reducible refine (awake5 _ (hr.alloc _).good).mono ?_); rintro e w1 ⟨rfl, hb⟩; replace hr := (hr.alloc _).step hb; have kp := (Blk.new _ _ _).step hb; have e1 := kp.cell; clear hb)
    | (go_at_call 19; (with_reducible refine (P1.out _).mono ?_); rintro e w1 ⟨rfl, hb⟩; replace hr := hr.step hb; replace kp := kp.step hb; have e1 := kp.cell; clear hb)
    | (go_at_call 15; (with_reducible refine (lnum _ _).mono ?_); rintro e w1 ⟨rfl, rfl⟩))
  replace hr := hr.drew
  replace kp := kp.drew
  first
    | (go_region_with (first
        | (go_at_call 15; (with_reducible refine (lnum _ _).mono ?_); rintro e w1 ⟨rfl, rfl⟩)
        | (go_at_call 23; (with_reducible refine (P2.out _).mono ?_); rintro e w1 ⟨rfl, hb⟩; replace hr := hr.step hb; replace kp := kp.step hb; have e1 := kp.cell; have l1 := kp.lt; clear hb)))
    | fail
  all_goals
    go_wp2_with (first
      | (go_at_call 21; first
          | ((with_reducible refine (P6.out _ hr.good).mono ?_); rintro e w1 ⟨rfl, hb⟩; replace hr := hr.step hb; clear hb))
      | (go_at_call 15; (with_reducible refine (lnum _ _).mono ?_); rintro e w1 ⟨rfl, rfl⟩))
    go_ret
    exact ⟨rfl, hr.alloc _⟩

set_option maxRecDepth 100000 in
set_option maxHeartbeats 16000000 in
theorem back_ft (k u n h tg c s q k2 u2 n2 h2 tg2 c2 s2 q2 cut : Int) (d d2 t : ByteArray) (w : World) (hg : Gd w) (hs : t.size ≤ 140737488351232) (hm : (Ry.mk k u n h tg c s q d).may = false) (ht : Ry.get t = some (Ry.mk k2 u2 n2 h2 tg2 c2 s2 q2 d2)) :
    Calls Tryd.prog 8 #[(Ry.mk k u n h tg c s q d).val, .string t, .int .i64 cut] w fun e w' => e = .returned (.bool true) ∧ Gr w w' := by
  have hr := Gr.refl hg
  have P1 := Lib.hid (fun w => ypput (Ry.mk k u n h tg c s q d) w)
  have P2 := Lib.hid (fun w => ypmay (Ry.mk k u n h tg c s q d) w)
  have P6 := Lib.hid (fun w hg => ypget t w (by omega) hg)
  rw [show (Ry.mk k u n h tg c s q d).putS = ⟨#[]⟩ by unfold Ry.putS; rw [hm]; rfl, show (Ry.mk k u n h tg c s q d).putE = 500 by unfold Ry.putE; rw [hm]; rfl] at P1
  rw [hm] at P2
  rw [(getP_some ht).1, (getP_some ht).2] at P6
  obtain ⟨hmb, hpb⟩ := Ry.codec.form _ _ ht
  have P7 := Lib.hid (fun w => ypput (Ry.mk k2 u2 n2 h2 tg2 c2 s2 q2 d2) w)
  rw [show (Ry.mk k2 u2 n2 h2 tg2 c2 s2 q2 d2).putS = t by unfold Ry.putS; rw [hmb]; exact hpb, show (Ry.mk k2 u2 n2 h2 tg2 c2 s2 q2 d2).putE = 0 by unfold Ry.putE; rw [hmb]; rfl] at P7
  unfold Ry.val at P7
  clear hmb hpb
  unfold Ry.zero Ry.val at *
  clear hm ht hs hg
  go_enter Tryd.func8, Tryd.ntmps8
  go_wp2_with (first
    | (go_at_call 25; (with_reducible refine (awake5 _ (hr.alloc _).good).mono ?_); rintro e w1 ⟨rfl, hb⟩; replace hr := (hr.alloc _).step hb; have kp := (Blk.new _ _ _).step hb; have e1 := kp.cell; clear hb)
    | (go_at_call 19; (with_reducible refine (P1.out _).mono ?_); rintro e w1 ⟨rfl, hb⟩; replace hr := hr.step hb; replace kp := kp.step hb; have e1 := kp.cell; clear hb)
    | (go_at_call 15; (with_reducible refine (lnum _ _).mono ?_); rintro e w1 ⟨rfl, rfl⟩))
  replace hr := hr.drew
  replace kp := kp.drew
  first
    | (go_region_with (first
        | (go_at_call 15; (with_reducible refine (lnum _ _).mono ?_); rintro e w1 ⟨rfl, rfl⟩)
        | (go_at_call 23; (with_reducible refine (P2.out _).mono ?_); rintro e w1 ⟨rfl, hb⟩; replace hr := hr.step hb; replace kp := kp.step hb; have e1 := kp.cell; have l1 := kp.lt; clear hb)))
    | fail
  all_goals
    go_wp2_with (first
      | (go_at_call 21; first
          | ((with_reducible refine (P6.out _ hr.good).mono ?_); rintro e w1 ⟨rfl, hb⟩; replace hr := hr.step hb; clear hb))
      | (go_at_call 19; (with_reducible refine (P7.out _).mono ?_); rintro e w1 ⟨rfl, hb⟩; replace hr := (hr.alloc _).step hb; clear hb)
      | (go_at_call 15; (with_reducible refine (lnum _ _).mono ?_); rintro e w1 ⟨rfl, rfl⟩))
    go_ret
    exact ⟨rfl, hr⟩
end Go.Proofs.YthbnkejjipiaaaaDoor
