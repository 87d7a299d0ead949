/- reply.Put answers the bytes, and the error where the thing may not be. No condition. -/
import Derived.Test.YthbnkejjipiaaaaDoorYp4
import Derived.Test.YthbnkejjipiaaaaDoorFtext
import Derived.Deep.RegionWith
namespace Go.Proofs.YthbnkejjipiaaaaDoor
open Go Go.RowKit

set_option maxRecDepth 100000 in
set_option maxHeartbeats 4000000 in
theorem ypput_yes (k h n s a t q c : Int) (d : ByteArray) (w : World) (hm : (Ry.mk k h n s a t q c d).may = true) (hk0 : 0 ≤ k) (hk1 : k ≤ 5) (hd : d.size ≤ 64)
    (hr : ∀ j, j < 7 → -9223372036854775808 ≤ (rowL [h, n, s, a, t, q, c]) j ∧ (rowL [h, n, s, a, t, q, c]) j ≤ 9223372036854775807) :
    Calls Tryd.prog 19 #[.agg #[.int .i64 k, .int .i64 h, .int .i64 n, .int .i64 s, .int .i64 a, .int .i64 t, .int .i64 q, .int .i64 c, .string d]] w fun e w' => e = .returned (.tuple #[.string (ypout k (ypU k) (rowL [h, n, s, a, t, q, c]) d), .int .i64 0]) ∧ Below w.heap.size w w' := by
  have HM := fun w => ypmay (Ry.mk k h n s a t q c d) w
  rw [hm] at HM
  unfold Ry.val at HM
  have HM := Lib.hid HM
  clear hm
  have HN := Lib.hid (fun w => ypnamed k w)
  have HR := Lib.hid (fun w => yprow k h n s a t q c d w)
  have HH := Lib.hid (fun w => pHas (ypU k) 7 w (by omega) (by omega))
  have HA1 := Lib.hid (fun j hj => arrN_get 7 (rowL [h, n, s, a, t, q, c]) j hj)
  have HP := Lib.hid (fun b w hb hc => pPut (ypU k) 7 k (rowL [h, n, s, a, t, q, c]) b w (by omega) (by omega) (by omega) hb hr hc)
  have HT := Lib.hid (fun w => ftext d w (by omega))
  have hts : (textS d).size ≤ 69 := by rw [textS_ok (by omega), ByteArray.size_append]; have := numS_size (d.size : Int); omega
  clear hr hd hk0 hk1
  have HO : Hid (ypout k (ypU k) (rowL [h, n, s, a, t, q, c]) d = if pT (ypU k) 7 then accP k (ypU k) (rowL [h, n, s, a, t, q, c]) 7 ++ textS d else accP k (ypU k) (rowL [h, n, s, a, t, q, c]) 7) := Lib.hid rfl
  have hz := accP_size k (ypU k) (rowL [h, n, s, a, t, q, c]) 7
  generalize ypout k (ypU k) (rowL [h, n, s, a, t, q, c]) d = O at *
  generalize accP k (ypU k) (rowL [h, n, s, a, t, q, c]) 7 = ac at *
  generalize (rowL [h, n, s, a, t, q, c]) = r at *
  generalize textS d = ts at *
  generalize textE d = te at *
  generalize pT (ypU k) 7 = B2 at *
  generalize ypI k = I at *
  generalize ypU k = U at *
  cases B2
  all_goals
    go_enter Tryd.func19, Tryd.ntmps19
    go_wp2_with (first
      | (go_at_call 23; (with_reducible refine (HM.out _).mono ?_); rintro e w1 ⟨rfl, hb⟩; have kp := (Blk.new _ _ _).step hb; have e1 := kp.cell; have g1 := kp.froz; have l1 := kp.lt; have hB := ((Below.refl w.heap.size w).alloc (Nat.le_refl _) (.cells #[.int .i64 k, .int .i64 h, .int .i64 n, .int .i64 s, .int .i64 a, .int .i64 t, .int .i64 q, .int .i64 c, .string d] 44)).trans (hb.mono (by simp)); clear hb)
      | (go_at_call 39; (with_reducible refine (HN.out _).mono ?_); rintro e w1 ⟨rfl, rfl⟩))
    replace kp := kp.drew
    have e1 := kp.cell
    replace hB : Below w.heap.size w _ := hB.trans (⟨rfl, rfl, rfl, Nat.le_refl _, fun _ _ => rfl⟩ : Below w.heap.size w1 w1.drew)
    first
      | (go_region_with (first
          | (go_at_call 40; (with_reducible refine (HR.out _).mono ?_); rintro e w2 ⟨x1, rfl, hb, -, k1⟩; replace kp := kp.step hb; have e1 := kp.cell; have g1 := kp.froz; have l1 := kp.lt; replace hB := hB.trans (hb.mono hB.size); clear hb)
          | (go_at_call 27; (with_reducible refine (HP.out _ _ k1.lt (fun j hj => (k1.cell j).trans (HA1.out j hj))).mono ?_); rintro e w3 ⟨rfl, hb⟩; replace kp := kp.step hb; have e1 := kp.cell; have g1 := kp.froz; have l1 := kp.lt; replace hB := hB.trans (hb.mono hB.size); clear hb)))
      | fail
    all_goals
      go_wp2_with (first
        | (go_at_call 29; (with_reducible refine (HH.out _).mono ?_); rintro e w4 ⟨rfl, rfl⟩)
        | (go_at_call 30; (with_reducible refine (HT.out _).mono ?_); rintro e w4 ⟨rfl, hb⟩; replace kp := kp.step hb; have e1 := kp.cell; have g1 := kp.froz; have l1 := kp.lt; replace hB := hB.trans (hb.mono hB.size); clear hb))
      go_ret2
      exact ⟨ret_s2 (by rw [HO.out]; rfl), hB⟩
theorem ypkind_bd {p : Ry} (h : p.may = true) : 0 ≤ p.kind ∧ p.kind ≤ 5 := by
  have := Ry.kinds ((Ry.may_iff p).1 h).2.1
  omega
theorem ypput (p : Ry) (w : World) : Calls Tryd.prog 19 #[p.val] w fun e w' => e = .returned (.tuple #[.string p.putS, .int .i64 p.putE]) ∧ Below w.heap.size w w' := by
  cases hm : p.may with
  | false =>
    rw [show p.putS = ⟨#[]⟩ by unfold Ry.putS; rw [hm]; rfl, show p.putE = 500 by unfold Ry.putE; rw [hm]; rfl]
    exact ypput_no p w hm
  | true =>
    have hb := ypkind_bd hm
    have hr := (Ry.rng_iff p).1 ((Ry.may_iff p).1 hm).1
    simp only [okNum_iff] at hr
    rw [show p.putE = 0 by unfold Ry.putE; rw [hm]; rfl]
    obtain ⟨k, h, n, s, a, t, q, c, d⟩ := p
    simp only at hr
    rw [← ypout_ok hm]
    exact ypput_yes k h n s a t q c d w hm hb.1 hb.2 hr.1 (fun j hj => by
      match j, hj with
      | 0, _ | 1, _ | 2, _ | 3, _ | 4, _ | 5, _ | 6, _ => simp only [rowL, List.getD_cons_zero, List.getD_cons_succ]; omega)
end Go.Proofs.YthbnkejjipiaaaaDoor
