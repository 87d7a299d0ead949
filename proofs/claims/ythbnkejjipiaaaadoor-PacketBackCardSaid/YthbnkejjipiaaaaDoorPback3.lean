/- The walk of PacketBack, whole. Condition: errors.errorType holds the handle of the type error. -/
import Derived.Test.YthbnkejjipiaaaaDoorPback2
namespace Go.Proofs.YthbnkejjipiaaaaDoor
open Go Go.RowKit

set_option maxRecDepth 100000 in
set_option maxHeartbeats 16000000 in
theorem back_tt (k u n h tg c s q k2 u2 n2 h2 tg2 c2 s2 q2 cut : Int) (d d2 t : ByteArray) (w : World) (hg : Gd w) (hs : t.size ≤ 140737488351232) (hm : (Pk.mk k u n h tg c s q d).may = true) (ht : Pk.get t = some (Pk.mk k2 u2 n2 h2 tg2 c2 s2 q2 d2)) :
    Calls Tryd.prog 4 #[(Pk.mk k u n h tg c s q d).val, .string t, .int .i64 cut] w fun e w' => e = .returned (.bool true) ∧ Gr w w' := by
  have hr := Gr.refl hg
  have P1 := Lib.hid (fun w => ppput (Pk.mk k u n h tg c s q d) w)
  have P2 := Lib.hid (fun w => ppmay (Pk.mk k u n h tg c s q d) w)
  have P6 := Lib.hid (fun w hg => ppget t w (by omega) hg)
  have hA0 := Pk.codec.pos _ hm
  have hA1 := put_size hm
  rw [show (Pk.mk k u n h tg c s q d).putS = (Pk.mk k u n h tg c s q d).put by unfold Pk.putS; rw [hm]; rfl, show (Pk.mk k u n h tg c s q d).putE = 0 by unfold Pk.putE; rw [hm]; rfl] at P1
  rw [hm] at P2
  have P3 := Lib.hid (fun w hg => ppget (Pk.mk k u n h tg c s q d).put w (by omega) hg)
  rw [(getP_some (Pk.codec.back _ hm)).1, (getP_some (Pk.codec.back _ hm)).2] at P3
  have hu0 : 0 ≤ IntKind.u64.wrap cut := by rw [IntKind.wrap_u64]; omega
  obtain ⟨cc, hcc, hcl⟩ : ∃ cc : Nat, (IntKind.u64.wrap cut).tmod (((Pk.mk k u n h tg c s q d).put.size : Nat) : Int) = (cc : Int) ∧ cc < (Pk.mk k u n h tg c s q d).put.size := by
    refine ⟨((IntKind.u64.wrap cut) % (((Pk.mk k u n h tg c s q d).put.size : Nat) : Int)).toNat, ?_, ?_⟩
    · rw [Int.tmod_eq_emod_of_nonneg hu0, Int.toNat_of_nonneg (Int.emod_nonneg _ (by omega))]
    · have := Int.emod_lt_of_pos (IntKind.u64.wrap cut) (show (0 : Int) < (((Pk.mk k u n h tg c s q d).put.size : Nat) : Int) by omega)
      have := Int.emod_nonneg (IntKind.u64.wrap cut) (show (((Pk.mk k u n h tg c s q d).put.size : Nat) : Int) ≠ 0 by omega)
      omega
  have P4 := Lib.hid (fun w hg => ppget ((Pk.mk k u n h tg c s q d).put.extract 0 cc) w (by rw [ByteArray.size_extract]; omega) hg)
  rw [(getP_none (Pk.codec.cut hm hcl)).1, (getP_none (Pk.codec.cut hm hcl)).2] at P4
  have P5 := Lib.hid (fun w hg => ppget ((Pk.mk k u n h tg c s q d).put ++ ⟨#[0]⟩) w (by rw [ByteArray.size_append]; have : (⟨#[0]⟩ : ByteArray).size = 1 := rfl; omega) hg)
  have hmore := Pk.codec.more hm (r := ⟨#[0]⟩) (by decide)
  rw [(getP_none hmore).1, (getP_none hmore).2] at P5
  have hL : IntKind.u64.wrap (((Pk.mk k u n h tg c s q d).put.size : Nat) : Int) = (((Pk.mk k u n h tg c s q d).put.size : Nat) : Int) := by rw [IntKind.wrap_u64]; omega
  have hcw : IntKind.i64.wrap (cc : Int) = (cc : Int) := IntWalk.i64_in _ (by omega)
  have hAne : ¬ (Pk.mk k u n h tg c s q d).put.toList = [] := by
    intro e
    have e2 := (isE _).1 e
    rw [e2] at hA0
    exact absurd hA0 (by decide)
  have hAn2 : ((Pk.mk k u n h tg c s q d).put.toList == []) = false := by simpa using hAne
  have hAn3 : (Pk.mk k u n h tg c s q d).put.toList.isEmpty = false := by simpa using hAne
  have hLz : ((((Pk.mk k u n h tg c s q d).put.size : Nat) : Int) == 0) = false := by rw [beq_eq_false_iff_ne]; omega
  generalize (Pk.mk k u n h tg c s q d).put = A at *
  clear hmore hu0
  rw [(getP_some ht).1, (getP_some ht).2] at P6
  obtain ⟨hmb, hpb⟩ := Pk.codec.form _ _ ht
  have P7 := Lib.hid (fun w => ppput (Pk.mk k2 u2 n2 h2 tg2 c2 s2 q2 d2) w)
  rw [show (Pk.mk k2 u2 n2 h2 tg2 c2 s2 q2 d2).putS = t by unfold Pk.putS; rw [hmb]; exact hpb, show (Pk.mk k2 u2 n2 h2 tg2 c2 s2 q2 d2).putE = 0 by unfold Pk.putE; rw [hmb]; rfl] at P7
  unfold Pk.val at P7
  clear hmb hpb
  unfold Pk.zero Pk.val at *
  clear hm ht hs hg
  go_enter Tryd.func4, Tryd.ntmps4
  go_wp2_with (first
    | (go_at_call 18; (with_reducible refine (awake4 _ (hr.alloc _).good).mono ?_); rintro e w1 ⟨rfl, hb⟩; replace hr := (hr.alloc _).step hb; have kp := (Blk.new _ _ _).step hb; have e1 := kp.cell; clear hb)
    | (go_at_call 11; (with_reducible refine (P1.out _).mono ?_); rintro e w1 ⟨rfl, hb⟩; replace hr := hr.step hb; replace kp := kp.step hb; have e1 := kp.cell; clear hb)
    | (go_at_call 15; (with_reducible refine (lnum _ _).mono ?_); rintro e w1 ⟨rfl, rfl⟩))
  replace hr := hr.drew
  replace kp := kp.drew
  first
    | (go_region_with (first
        | (go_at_call 15; (with_reducible refine (lnum _ _).mono ?_); rintro e w1 ⟨rfl, rfl⟩)
        | (go_at_call 16; (with_reducible refine (P2.out _).mono ?_); rintro e w1 ⟨rfl, hb⟩; replace hr := hr.step hb; replace kp := kp.step hb; have e1 := kp.cell; have l1 := kp.lt; clear hb)))
    | fail
  all_goals
    go_wp2_with (first
      | (go_at_call 13; first
          | ((with_reducible refine (P3.out _ hr.good).mono ?_); rintro e w1 ⟨rfl, hb⟩; replace hr := hr.step hb; replace kp := kp.step hb; have e1 := kp.cell; have l1 := kp.lt; clear hb)
          | ((with_reducible refine (P4.out _ (hr.alloc _).good).mono ?_); rintro e w1 ⟨rfl, hb⟩; replace hr := (hr.alloc _).step hb; replace kp := (kp.alloc _).step hb; have kq := (Blk.new _ _ _).step hb; have e1 := kp.cell; have l1 := kp.lt; have e2 := kq.cell; have l2 := kq.lt; clear hb)
          | ((with_reducible refine (P5.out _ (hr.alloc _).good).mono ?_); rintro e w1 ⟨rfl, hb⟩; replace hr := (hr.alloc _).step hb; replace kp := (kp.alloc _).step hb; replace kq := (kq.alloc _).step hb; have e1 := kp.cell; have l1 := kp.lt; have e2 := kq.cell; have l2 := kq.lt; clear hb)
          | ((with_reducible refine (P6.out _ (hr.alloc _).good).mono ?_); rintro e w1 ⟨rfl, hb⟩; replace hr := (hr.alloc _).step hb; clear hb))
      | (go_at_call 11; (with_reducible refine (P7.out _).mono ?_); rintro e w1 ⟨rfl, hb⟩; replace hr := (hr.alloc _).step hb; clear hb)
      | (go_at_call 15; (with_reducible refine (lnum _ _).mono ?_); rintro e w1 ⟨rfl, rfl⟩))
    go_ret
    exact ⟨rfl, hr⟩

theorem back_walk (p : Pk) (t : ByteArray) (cut : Int) (w : World) (hg : Gd w) (hs : t.size ≤ 140737488351232) : Calls Tryd.prog 4 #[p.val, .string t, .int .i64 cut] w fun e w' => e = .returned (.bool true) ∧ Gr w w' := by
  obtain ⟨k, u, n, h, tg, c, s, q, d⟩ := p
  cases hm : (Pk.mk k u n h tg c s q d).may with
  | false =>
    cases ht : Pk.get t with
    | none => exact back_ff k u n h tg c s q cut d t w hg hs hm ht
    | some b =>
      obtain ⟨k2, u2, n2, h2, tg2, c2, s2, q2, d2⟩ := b
      exact back_ft k u n h tg c s q k2 u2 n2 h2 tg2 c2 s2 q2 cut d d2 t w hg hs hm ht
  | true =>
    cases ht : Pk.get t with
    | none => exact back_tf k u n h tg c s q cut d t w hg hs hm ht
    | some b =>
      obtain ⟨k2, u2, n2, h2, tg2, c2, s2, q2, d2⟩ := b
      exact back_tt k u n h tg c s q k2 u2 n2 h2 tg2 c2 s2 q2 cut d d2 t w hg hs hm ht
end Go.Proofs.YthbnkejjipiaaaaDoor
