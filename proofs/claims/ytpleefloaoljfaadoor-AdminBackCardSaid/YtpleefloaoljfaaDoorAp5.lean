/- admin.Put answers the bytes, and the error where the thing may not be. No condition. -/
import Derived.Test.YtpleefloaoljfaaDoorAp4
import Derived.Deep.RegionWith
namespace Go.Proofs.YtpleefloaoljfaaDoor
open Go Go.RowKit

set_option maxRecDepth 100000 in
set_option maxHeartbeats 4000000 in
theorem apput_yes (k u y x q s : Int) (w : World) (hm : (Ad.mk k u y x q s).may = true) (hk0 : 0 ≤ k) (hk1 : k ≤ 4)
    (hr : ∀ j, j < 5 → -9223372036854775808 ≤ (rowL [u, y, x, q, s]) j ∧ (rowL [u, y, x, q, s]) j ≤ 9223372036854775807) :
    Calls Tryd.prog 7 #[.agg #[.int .i64 k, .int .i64 u, .int .i64 y, .int .i64 x, .int .i64 q, .int .i64 s]] w fun e w' => e = .returned (.tuple #[.string (apout k (apU k) (rowL [u, y, x, q, s])), .int .i64 0]) ∧ Below w.heap.size w w' := by
  have HM := fun w => apmay (Ad.mk k u y x q s) w
  rw [hm] at HM
  unfold Ad.val at HM
  have HM := Lib.hid HM
  clear hm
  have HN := Lib.hid (fun w => apnamed k w)
  have HR := Lib.hid (fun w => aprow k u y x q s w)
  have HA1 := Lib.hid (fun j hj => arrN_get 5 (rowL [u, y, x, q, s]) j hj)
  have HP := Lib.hid (fun b w hb hc => pPut (apU k) 5 k (rowL [u, y, x, q, s]) b w (by omega) (by omega) (by omega) hb hr hc)
  clear hr hk0 hk1
  have HO : Hid (apout k (apU k) (rowL [u, y, x, q, s]) = accP k (apU k) (rowL [u, y, x, q, s]) 5) := Lib.hid rfl
  have hz := accP_size k (apU k) (rowL [u, y, x, q, s]) 5
  generalize apout k (apU k) (rowL [u, y, x, q, s]) = O at *
  generalize accP k (apU k) (rowL [u, y, x, q, s]) 5 = ac at *
  generalize (rowL [u, y, x, q, s]) = r at *
  generalize apI k = I at *
  generalize apU k = U at *
  go_enter Tryd.func7, Tryd.ntmps7
  go_wp2_with (first
    | (go_at_call 12; (with_reducible refine (HM.out _).mono ?_); rintro e w1 ⟨rfl, hb⟩; have kp := (Blk.new _ _ _).step hb; have e1 := kp.cell; have g1 := kp.froz; have l1 := kp.lt; have hB := ((Below.refl w.heap.size w).alloc (Nat.le_refl _) (.cells #[.int .i64 k, .int .i64 u, .int .i64 y, .int .i64 x, .int .i64 q, .int .i64 s] 23)).trans (hb.mono (by simp)); clear hb)
    | (go_at_call 15; (with_reducible refine (HN.out _).mono ?_); rintro e w1 ⟨rfl, rfl⟩))
  replace kp := kp.drew
  have e1 := kp.cell
  replace hB : Below w.heap.size w _ := hB.trans (⟨rfl, rfl, rfl, Nat.le_refl _, fun _ _ => rfl⟩ : Below w.heap.size w1 w1.drew)
  first
    | (go_region_with (first
        | (go_at_call 17; (with_reducible refine (HR.out _).mono ?_); rintro e w2 ⟨x1, rfl, hb, -, k1⟩; replace kp := kp.step hb; have e1 := kp.cell; have g1 := kp.froz; have l1 := kp.lt; replace hB := hB.trans (hb.mono hB.size); clear hb)
        | (go_at_call 16; (with_reducible refine (HP.out _ _ k1.lt (fun j hj => (k1.cell j).trans (HA1.out j hj))).mono ?_); rintro e w3 ⟨rfl, hb⟩; replace kp := kp.step hb; have e1 := kp.cell; have g1 := kp.froz; have l1 := kp.lt; replace hB := hB.trans (hb.mono hB.size); clear hb)))
    | fail
  all_goals
    go_wp2
    go_ret2
    exact ⟨ret_s2 HO.out.symm, hB⟩
theorem apkind_bd {p : Ad} (h : p.may = true) : 0 ≤ p.kind ∧ p.kind ≤ 4 := by
  have := Ad.kinds ((Ad.may_iff p).1 h).2.1
  omega
theorem apput (p : Ad) (w : World) : Calls Tryd.prog 7 #[p.val] w fun e w' => e = .returned (.tuple #[.string p.putS, .int .i64 p.putE]) ∧ Below w.heap.size w w' := by
  cases hm : p.may with
  | false =>
    rw [show p.putS = ⟨#[]⟩ by unfold Ad.putS; rw [hm]; rfl, show p.putE = 600 by unfold Ad.putE; rw [hm]; rfl]
    exact apput_no p w hm
  | true =>
    have hb := apkind_bd hm
    have hr := (Ad.rng_iff p).1 ((Ad.may_iff p).1 hm).1
    simp only [okNum_iff] at hr
    rw [show p.putE = 0 by unfold Ad.putE; rw [hm]; rfl]
    obtain ⟨k, u, y, x, q, s⟩ := p
    simp only at hr
    rw [← apout_ok hm]
    exact apput_yes k u y x q s w hm hb.1 hb.2 (fun j hj => by
      match j, hj with
      | 0, _ | 1, _ | 2, _ | 3, _ | 4, _ => simp only [rowL, List.getD_cons_zero, List.getD_cons_succ]; omega)
end Go.Proofs.YtpleefloaoljfaaDoor
