/- The walk of PacketBack: what may be is written and read again; cut it is none; what is read is written as it stood. Condition: errors.errorType holds the handle of the type error. -/
import Derived.Test.YthbnkejjipiaaaaDoorPun
import Derived.Deep.RegionWith
import Derived.IntWalk
namespace Go.Proofs.YthbnkejjipiaaaaDoor
open Go Go.RowKit

theorem put_size {p : Pk} (h : p.may = true) : p.put.size ≤ 100 := by
  obtain ⟨hr, hk, -⟩ := (Pk.may_iff p).1 h
  obtain ⟨r1, _⟩ := (Pk.rng_iff p).1 hr
  have h1 := numS_size
  have h2 : (textS p.data).size ≤ 69 := by rw [textS_ok (by omega), ByteArray.size_append]; have := numS_size (p.data.size : Int); omega
  have h0 : (⟨#[]⟩ : ByteArray).size = 0 := rfl
  unfold Pk.put Pk.fl
  rcases Pk.kinds hk with e | e | e | e | e <;> rw [e] <;> simp only [reduceIte, Int.reduceEq, encL, ByteArray.size_append, Fld.enc, h0] <;> (have a0 := h1 0; have a1 := h1 1; have a2 := h1 2; have a3 := h1 3; have a4 := h1 4; have b := h1 p.user; have c := h1 p.nonce; have d := h1 p.half; have e := h1 p.tag; have f := h1 p.code; have g := h1 p.session; have i := h1 p.seq; omega)
theorem getP_some {t : ByteArray} {p : Pk} (h : Pk.get t = some p) : Pk.getP t = p ∧ Pk.getE t = 0 := by unfold Pk.getP Pk.getE; rw [h]; exact ⟨rfl, rfl⟩
theorem getP_none {t : ByteArray} (h : Pk.get t = none) : Pk.getP t = Pk.zero ∧ Pk.getE t = 400 := by unfold Pk.getP Pk.getE; rw [h]; exact ⟨rfl, rfl⟩

set_option maxRecDepth 100000 in
set_option maxHeartbeats 16000000 in
theorem back_ff (k u n h tg c s q cut : Int) (d t : ByteArray) (w : World) (hg : Gd w) (hs : t.size ≤ 140737488351232) (hm : (Pk.mk k u n h tg c s q d).may = false) (ht : Pk.get t = none) :
    Calls Tryd.prog 4 #[(Pk.mk k u n h tg c s q d).val, .string t, .int .i64 cut] w fun e w' => e = .returned (.bool true) ∧ Gr w w' := by
  have hr := Gr.refl hg
  have P1 := Lib.hid (fun w => ppput (Pk.mk k u n h tg c s q d) w)
  have P2 := Lib.hid (fun w => ppmay (Pk.mk k u n h tg c s q d) w)
  have P6 := Lib.hid (fun w hg => ppget t w (by omega) hg)
  rw [show (Pk.mk k u n h tg c s q d).putS = ⟨#[]⟩ by unfold Pk.putS; rw [hm]; rfl, show (Pk.mk k u n h tg c s q d).putE = 400 by unfold Pk.putE; rw [hm]; rfl] at P1
  rw [hm] at P2
  rw [(getP_none ht).1, (getP_none ht).2] at P6
  unfold Pk.zero Pk.val at *
  clear hm ht hs hg
  go_enter Tryd.func4, Tryd.ntmps4
  go_wp2_with (first
    | (go_at_call 18; (with_reducible refine (awake4 _ (hr.alloc _).good).mono ?_); rintro e w1 ⟨rfl, hb⟩; replace hr := (hr.alloc _).step hb; have kp := (Blk.new _ _ _).step hb; have e1 := kp.cell; clear hb)
    | (go_at_call 11; (with_reducible refine (P1.out _).mono ?_); rintro e w1 ⟨rfl, hb⟩; replace hr := hr.step hb; replace kp := kp.step hb; have e1 := kp.cell; clear hb)
    | (go_at_call 15; (with_reducible refine (lnum _ _).mono ?_); rintro e w1 ⟨rfl, rfl⟩))
  replace hr := hr.drew
  replace kp := kp.drew
  first
    | (go_region_with (first
        | (go_at_call 15; (with_reducible refine (lnum _ _).mono ?_); rintro e w1 ⟨rfl, rfl⟩)
        | (go_at_call 16; (with_reducible refine (P2.out _).mono ?_); rintro e w1 ⟨rfl, hb⟩; replace hr := hr.step hb; replace kp := kp.step hb; have e1 := kp.cell; have l1 := kp.lt; clear hb)))
    | fail
  all_goals
    go_wp2_with (first
      | (go_at_call 13; first
          | ((with_reducible refine (P6.out _ hr.good).mono ?_); rintro e w1 ⟨rfl, hb⟩; replace hr := hr.step hb; clear hb))
      | (go_at_call 15; (with_reducible refine (lnum _ _).mono ?_); rintro e w1 ⟨rfl, rfl⟩))
    go_ret
    exact ⟨rfl, hr.alloc _⟩

set_option maxRecDepth 100000 in
set_option maxHeartbeats 16000000 in
theorem back_ft (k u n h tg c s q k2 u2 n2 h2 tg2 c2 s2 q2 cut : Int) (d d2 t : ByteArray) (w : World) (hg : Gd w) (hs : t.size ≤ 140737488351232) (hm : (Pk.mk k u n h tg c s q d).may = false) (ht : Pk.get t = some (Pk.mk k2 u2 n2 h2 tg2 c2 s2 q2 d2)) :
    Calls Tryd.prog 4 #[(Pk.mk k u n h tg c s q d).val, .string t, .int .i64 cut] w fun e w' => e = .returned (.bool true) ∧ Gr w w' := by
  have hr := Gr.refl hg
  have P1 := Lib.hid (fun w => ppput (Pk.mk k u n h tg c s q d) w)
  have P2 := Lib.hid (fun w => ppmay (Pk.mk k u n h tg c s q d) w)
  have P6 := Lib.hid (fun w hg => ppget t w (by omega) hg)
  rw [show (Pk.mk k u n h tg c s q d).putS = ⟨#[]⟩ by unfold Pk.putS; rw [hm]; rfl, show (Pk.mk k u n h tg c s q d).putE = 400 by unfold Pk.putE; rw [hm]; rfl] at P1
  rw [hm] at P2
  rw [(getP_some ht).1, (getP_some ht).2] at P6
  obtain ⟨hmb, hpb⟩ := Pk.codec.form _ _ ht
  have P7 := Lib.hid (fun w => ppput (Pk.mk k2 u2 n2 h2 tg2 c2 s2 q2 d2) w)
  rw [show (Pk.mk k2 u2 n2 h2 tg2 c2 s2 q2 d2).putS = t by unfold Pk.putS; rw [hmb]; exact hpb, show (Pk.mk k2 u2 n2 h2 tg2 c2 s2 q2 d2).putE = 0 by unfold Pk.putE; rw [hmb]; rfl] at P7
  unfold Pk.val at P7
  clear hmb hpb
  unfold Pk.zero Pk.val at *
  clear hm ht hs hg
  go_enter Tryd.func4, Tryd.ntmps4
  go_wp2_with (first
    | (go_at_call 18; (with_reducible refine (awake4 _ (hr.alloc _).good).mono ?_); rintro e w1 ⟨rfl, hb⟩; replace hr := (hr.alloc _).step hb; have kp := (Blk.new _ _ _).step hb; have e1 := kp.cell; clear hb)
    | (go_at_call 11; (with_reducible refine (P1.out _).mono ?_); rintro e w1 ⟨rfl, hb⟩; replace hr := hr.step hb; replace kp := kp.step hb; have e1 := kp.cell; clear hb)
    | (go_at_call 15; (with_reducible refine (lnum _ _).mono ?_); rintro e w1 ⟨rfl, rfl⟩))
  replace hr := hr.drew
  replace kp := kp.drew
  first
    | (go_region_with (first
        | (go_at_call 15; (with_reducible refine (lnum _ _).mono ?_); rintro e w1 ⟨rfl, rfl⟩)
        | (go_at_call 16; (with_reducible refine (P2.out _).mono ?_); rintro e w1 ⟨rfl, hb⟩; replace hr := hr.step hb; replace kp := kp.step hb; have e1 := kp.cell; have l1 := kp.lt; clear hb)))
    | fail
  all_goals
    go_wp2_with (first
      | (go_at_call 13; first
          | ((with_reducible refine (P6.out _ hr.good).mono ?_); rintro e w1 ⟨rfl, hb⟩; replace hr := hr.step hb; clear hb))
      | (go_at_call 11; (with_reducible refine (P7.out _).mono ?_); rintro e w1 ⟨rfl, hb⟩; replace hr := (hr.alloc _).step hb; clear hb)
      | (go_at_call 15; (with_reducible refine (lnum _ _).mono ?_); rintro e w1 ⟨rfl, rfl⟩))
    go_ret
    exact ⟨rfl, hr⟩
end Go.Proofs.YthbnkejjipiaaaaDoor
