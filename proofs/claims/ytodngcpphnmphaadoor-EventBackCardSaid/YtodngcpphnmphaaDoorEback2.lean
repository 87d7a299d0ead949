/- The walk of EventBack where the event may be. Condition: errors.errorType holds the handle of the type error. -/
import Derived.Test.YtodngcpphnmphaaDoorEback
namespace Go.Proofs.YtodngcpphnmphaaDoor
open Go Go.RowKit

set_option maxRecDepth 100000 in
set_option maxHeartbeats 16000000 in
theorem back_tf (k x1 x2 x3 x4 x5 x6 x7 cut : Int) (t : ByteArray) (w : World) (hg : Gd w) (hs : t.size ≤ 140737488351232) (hm : (Ev.mk k x1 x2 x3 x4 x5 x6 x7).may = true) (ht : Ev.get t = none) :
    Calls Tryd.prog 4 #[(Ev.mk k x1 x2 x3 x4 x5 x6 x7).val, .string t, .int .i64 cut] w fun e w' => e = .returned (.bool true) ∧ Gr w w' := by
  have hr := Gr.refl hg
  have P1 := Lib.hid (fun w => epput (Ev.mk k x1 x2 x3 x4 x5 x6 x7) w)
  have P2 := Lib.hid (fun w => epmay (Ev.mk k x1 x2 x3 x4 x5 x6 x7) w)
  have P6 := Lib.hid (fun w hg => epget t w (by omega) hg)
  have hA0 := Ev.codec.pos _ hm
  have hA1 := put_size hm
  rw [show (Ev.mk k x1 x2 x3 x4 x5 x6 x7).putS = (Ev.mk k x1 x2 x3 x4 x5 x6 x7).put by unfold Ev.putS; rw [hm]; rfl, show (Ev.mk k x1 x2 x3 x4 x5 x6 x7).putE = 0 by unfold Ev.putE; rw [hm]; rfl] at P1
  rw [hm] at P2
  have P3 := Lib.hid (fun w hg => epget (Ev.mk k x1 x2 x3 x4 x5 x6 x7).put w (by omega) hg)
  rw [(getP_some (Ev.codec.back _ hm)).1, (getP_some (Ev.codec.back _ hm)).2] at P3
  have hu0 : 0 ≤ IntKind.u64.wrap cut := by rw [IntKind.wrap_u64]; omega
  obtain ⟨cc, hcc, hcl⟩ : ∃ cc : Nat, (IntKind.u64.wrap cut).tmod (((Ev.mk k x1 x2 x3 x4 x5 x6 x7).put.size : Nat) : Int) = (cc : Int) ∧ cc < (Ev.mk k x1 x2 x3 x4 x5 x6 x7).put.size := by
    refine ⟨((IntKind.u64.wrap cut) % (((Ev.mk k x1 x2 x3 x4 x5 x6 x7).put.size : Nat) : Int)).toNat, ?_, ?_⟩
    · rw [Int.tmod_eq_emod_of_nonneg hu0, Int.toNat_of_nonneg (Int.emod_nonneg _ (by omega))]
    · have := Int.emod_lt_of_pos (IntKind.u64.wrap cut) (show (0 : Int) < (((Ev.mk k x1 x2 x3 x4 x5 x6 x7).put.size : Nat) : Int) by omega)
      have := Int.emod_nonneg (IntKind.u64.wrap cut) (show (((Ev.mk k x1 x2 x3 x4 x5 x6 x7).put.size : Nat) : Int) ≠ 0 by omega)
      omega
  have P4 := Lib.hid (fun w hg => epget ((Ev.mk k x1 x2 x3 x4 x5 x6 x7).put.extract 0 cc) w (by rw [ByteArray.size_extract]; omega) hg)
  rw [(getP_none (Ev.codec.cut hm hcl)).1, (getP_none (Ev.codec.cut hm hcl)).2] at P4
  have P5 := Lib.hid (fun w hg => epget ((Ev.mk k x1 x2 x3 x4 x5 x6 x7).put ++ ⟨#[0]⟩) w (by rw [ByteArray.size_append]; have : (⟨#[0]⟩ : ByteArray).size = 1 := rfl; omega) hg)
  have hmore := Ev.codec.more hm (r := ⟨#[0]⟩) (by decide)
  rw [(getP_none hmore).1, (getP_none hmore).2] at P5
  have hL : IntKind.u64.wrap (((Ev.mk k x1 x2 x3 x4 x5 x6 x7).put.size : Nat) : Int) = (((Ev.mk k x1 x2 x3 x4 x5 x6 x7).put.size : Nat) : Int) := by rw [IntKind.wrap_u64]; omega
  have hcw : IntKind.i64.wrap (cc : Int) = (cc : Int) := IntWalk.i64_in _ (by omega)
  have hAne : ¬ (Ev.mk k x1 x2 x3 x4 x5 x6 x7).put.toList = [] := by
    intro e
    have e2 := (isE _).1 e
    rw [e2] at hA0
    exact absurd hA0 (by decide)
  have hAn2 : ((Ev.mk k x1 x2 x3 x4 x5 x6 x7).put.toList == []) = false := by simpa using hAne
  have hAn3 : (Ev.mk k x1 x2 x3 x4 x5 x6 x7).put.toList.isEmpty = false := by simpa using hAne
  have hLz : ((((Ev.mk k x1 x2 x3 x4 x5 x6 x7).put.size : Nat) : Int) == 0) = false := by rw [beq_eq_false_iff_ne]; omega
  generalize (Ev.mk k x1 x2 x3 x4 x5 x6 x7).put = A at *
  clear hmore hu0
  rw [(getP_none ht).1, (getP_none ht).2] at P6
  unfold Ev.zero Ev.val at *
  clear hm ht hs hg
  go_enter Tryd.func4, Tryd.ntmps4
  go_wp2_with (first
    | (go_at_call 14; (with_reducible refine (awake7 _ (hr.alloc _).good).mono ?_); rintro e w1 ⟨rfl, hb⟩; replace hr := (hr.alloc _).step hb; have kp := (Blk.new _ _ _).step hb; have e1 := kp.cell; clear hb)
    | (go_at_call 7; (with_reducible refine (P1.out _).mono ?_); rintro e w1 ⟨rfl, hb⟩; replace hr := hr.step hb; replace kp := kp.step hb; have e1 := kp.cell; clear hb)
    | (go_at_call 11; (with_reducible refine (lnum _ _).mono ?_); rintro e w1 ⟨rfl, rfl⟩))
  replace hr := hr.drew
  replace kp := kp.drew
  first
    | (go_region_with (first
        | (go_at_call 11; (with_reducible refine (lnum _ _).mono ?_); rintro e w1 ⟨rfl, rfl⟩)
        | (go_at_call 12; (with_reducible refine (P2.out _).mono ?_); rintro e w1 ⟨rfl, hb⟩; replace hr := hr.step hb; replace kp := kp.step hb; have e1 := kp.cell; have l1 := kp.lt; clear hb)))
    | fail
  all_goals
    go_wp2_with (first
      | (go_at_call 9; first
          | ((with_reducible refine (P3.out _ hr.good).mono ?_); rintro e w1 ⟨rfl, hb⟩; replace hr := hr.step hb; replace kp := kp.step hb; have e1 := kp.cell; have l1 := kp.lt; clear hb)
          | ((with_reducible refine (P4.out _ (hr.alloc _).good).mono ?_); rintro e w1 ⟨rfl, hb⟩; replace hr := (hr.alloc _).step hb; replace kp := (kp.alloc _).step hb; have kq := (Blk.new _ _ _).step hb; have e1 := kp.cell; have l1 := kp.lt; have e2 := kq.cell; have l2 := kq.lt; clear hb)
          | ((with_reducible refine (P5.out _ (hr.alloc _).good).mono ?_); rintro e w1 ⟨rfl, hb⟩; replace hr := (hr.alloc _).step hb; replace kp := (kp.alloc _).step hb; replace kq := (kq.alloc _).step hb; have e1 := kp.cell; have l1 := kp.lt; have e2 := kq.cell; have l2 := kq.lt; clear hb)
          | ((with_reducible refine (P6.out _ (hr.alloc _).good).mono ?_); rintro e w1 ⟨rfl, hb⟩; replace hr := (hr.alloc _).step hb; clear hb))
      | (go_at_call 11; (with_reducible refine (lnum _ _).mono ?_); rintro e w1 ⟨rfl, rfl⟩))
    go_ret
    exact ⟨rfl, hr.alloc _⟩
end Go.Proofs.YtodngcpphnmphaaDoor
