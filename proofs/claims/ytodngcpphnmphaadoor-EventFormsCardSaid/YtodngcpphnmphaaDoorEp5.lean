/- event.Put answers the bytes, and the error where the thing may not be. No condition. -/
import Derived.Test.YtodngcpphnmphaaDoorEp4
import Derived.Deep.RegionWith
namespace Go.Proofs.YtodngcpphnmphaaDoor
open Go Go.RowKit

set_option maxRecDepth 100000 in
set_option maxHeartbeats 4000000 in
theorem epput_yes (k u s a x y z t : Int) (w : World) (hm : (Ev.mk k u s a x y z t).may = true) (hk0 : 0 ≤ k) (hk1 : k ≤ 9)
    (hr : ∀ j, j < 7 → -9223372036854775808 ≤ (rowL [s, u, a, x, y, z, t]) j ∧ (rowL [s, u, a, x, y, z, t]) j ≤ 9223372036854775807) :
    Calls Tryd.prog 7 #[.agg #[.int .i64 k, .int .i64 u, .int .i64 s, .int .i64 a, .int .i64 x, .int .i64 y, .int .i64 z, .int .i64 t]] w fun e w' => e = .returned (.tuple #[.string (epout k (epU k) (rowL [s, u, a, x, y, z, t])), .int .i64 0]) ∧ Below w.heap.size w w' := by
  have HM := fun w => epmay (Ev.mk k u s a x y z t) w
  rw [hm] at HM
  unfold Ev.val at HM
  have HM := Lib.hid HM
  clear hm
  have HN := Lib.hid (fun w => epnamed k w)
  have HR := Lib.hid (fun w => eprow k u s a x y z t w)
  have HA1 := Lib.hid (fun j hj => arrN_get 7 (rowL [s, u, a, x, y, z, t]) j hj)
  have HP := Lib.hid (fun b w hb hc => pPut (epU k) 7 k (rowL [s, u, a, x, y, z, t]) b w (by omega) (by omega) (by omega) hb hr hc)
  clear hr hk0 hk1
  have HO : Hid (epout k (epU k) (rowL [s, u, a, x, y, z, t]) = accP k (epU k) (rowL [s, u, a, x, y, z, t]) 7) := Lib.hid rfl
  have hz := accP_size k (epU k) (rowL [s, u, a, x, y, z, t]) 7
  generalize epout k (epU k) (rowL [s, u, a, x, y, z, t]) = O at *
  generalize accP k (epU k) (rowL [s, u, a, x, y, z, t]) 7 = ac at *
  generalize (rowL [s, u, a, x, y, z, t]) = r at *
  generalize epI k = I at *
  generalize epU k = U at *
  go_enter Tryd.func7, Tryd.ntmps7
  go_wp2_with (first
    | (go_at_call 12; (with_reducible refine (HM.out _).mono ?_); rintro e w1 ⟨rfl, hb⟩; have kp := (Blk.new _ _ _).step hb; have e1 := kp.cell; have g1 := kp.froz; have l1 := kp.lt; have hB := ((Below.refl w.heap.size w).alloc (Nat.le_refl _) (.cells #[.int .i64 k, .int .i64 u, .int .i64 s, .int .i64 a, .int .i64 x, .int .i64 y, .int .i64 z, .int .i64 t] 23)).trans (hb.mono (by simp)); clear hb)
    | (go_at_call 15; (with_reducible refine (HN.out _).mono ?_); rintro e w1 ⟨rfl, rfl⟩))
  replace kp := kp.drew
  have e1 := kp.cell
  replace hB : Below w.heap.size w _ := hB.trans (⟨rfl, rfl, rfl, Nat.le_refl _, fun _ _ => rfl⟩ : Below w.heap.size w1 w1.drew)
  first
    | (go_region_with (first
        | (go_at_call 17; (with_reducible refine (HR.out _).mono ?_); rintro e w2 ⟨x1, rfl, hb, -, k1⟩; replace kp := kp.step hb; have e1 := kp.cell; have g1 := kp.froz; have l1 := kp.lt; replace hB := hB.trans (hb.mono hB.size); clear hb)
        | (go_at_call 16; (with_reducible refine (HP.out _ _ k1.lt (fun j hj => (k1.cell j).trans (HA1.out j hj))).mono ?_); rintro e w3 ⟨rfl, hb⟩; replace kp := kp.step hb; have e1 := kp.cell; have g1 := kp.froz; have l1 := kp.lt; replace hB := hB.trans (hb.mono hB.size); clear hb)))
    | fail
  all_goals
    go_wp2
    go_ret2
    exact ⟨ret_s2 HO.out.symm, hB⟩
theorem epkind_bd {p : Ev} (h : p.may = true) : 0 ≤ p.kind ∧ p.kind ≤ 9 := by
  have := Ev.kinds ((Ev.may_iff p).1 h).2.1
  omega
theorem epput (p : Ev) (w : World) : Calls Tryd.prog 7 #[p.val] w fun e w' => e = .returned (.tuple #[.string p.putS, .int .i64 p.putE]) ∧ Below w.heap.size w w' := by
  cases hm : p.may with
  | false =>
    rw [show p.putS = ⟨#[]⟩ by unfold Ev.putS; rw [hm]; rfl, show p.putE = 700 by unfold Ev.putE; rw [hm]; rfl]
    exact epput_no p w hm
  | true =>
    have hb := epkind_bd hm
    have hr := (Ev.rng_iff p).1 ((Ev.may_iff p).1 hm).1
    simp only [okNum_iff] at hr
    rw [show p.putE = 0 by unfold Ev.putE; rw [hm]; rfl]
    obtain ⟨k, u, s, a, x, y, z, t⟩ := p
    simp only at hr
    rw [← epout_ok hm]
    exact epput_yes k u s a x y z t w hm hb.1 hb.2 (fun j hj => by
      match j, hj with
      | 0, _ | 1, _ | 2, _ | 3, _ | 4, _ | 5, _ | 6, _ => simp only [rowL, List.getD_cons_zero, List.getD_cons_succ]; omega)
end Go.Proofs.YtodngcpphnmphaaDoor
