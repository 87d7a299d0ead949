/- Put together: Remay, Reput. Conditions: each theorem's own. -/
import Derived.Test.YtiebpjkppjollaaDoorBra
import Derived.Test.YtiebpjkppjollaaDoorRemay2
namespace Go.Proofs.YtiebpjkppjollaaDoor
open Go Go.RowKit

set_option maxHeartbeats 2000000 in
theorem remay_ok6 (u s a x y z t : Int) (w : World) (HP : ∀ w, Calls Tryd.prog 75 #[.agg #[.int .i64 6, .int .i64 u, .int .i64 s, .int .i64 a, .int .i64 x, .int .i64 y, .int .i64 z, .int .i64 t]] w fun e w' => e = .returned (.tuple #[.agg #[.int .i64 6, .int .i64 u, .int .i64 s, .int .i64 a, .int .i64 x, .int .i64 y, .int .i64 z, .int .i64 t], .bool true]) ∧ Below w.heap.size w w') (l_user : 0 ≤ u) (u_user : u ≤ 7) (l_address : 0 ≤ a) (u_address : a ≤ 15) (l_tick : 0 ≤ t) (u_tick : t ≤ 1048575) (n_session : okNum s = true) (n_a : okNum x = true) (n_b : okNum y = true) (l_c : 0 ≤ z) (u_c : z ≤ 1048576) :
    Calls Tryd.prog 58 #[.agg #[.int .i64 6, .int .i64 u, .int .i64 s, .int .i64 a, .int .i64 x, .int .i64 y, .int .i64 z, .int .i64 t]] w fun e w' => e = .returned (.bool (decide (y ≤ 4))) ∧ Below w.heap.size w w' := by
  have HP := Lib.hid HP
  have dl_user : decide (u < 0) = false := by simp; omega
  have du_user : decide ((8 : Int) ≤ u) = false := by simp; omega
  have dl_address : decide (a < 0) = false := by simp; omega
  have du_address : decide ((16 : Int) ≤ a) = false := by simp; omega
  have dl_tick : decide (t < 0) = false := by simp; omega
  have du_tick : decide ((1048575 : Int) < t) = false := by simp; omega
  have N_session := Lib.hid (rnumb s true n_session)
  clear n_session
  have N_a := Lib.hid (rnumb x true n_a)
  clear n_a
  have N_b := Lib.hid (rnumb y true n_b)
  clear n_b
  have dl_c : decide (z < 0) = false := by simp; omega
  have du_c : decide ((1048576 : Int) < z) = false := by simp; omega
  go_enter Tryd.func58, Tryd.ntmps58
  go_wp2_with (first | (go_at_call 75; (with_reducible refine (HP.out _).mono ?_); rintro e w1 ⟨rfl, hb⟩; have kp := (Blk.new _ _ _).step hb; have e1 := kp.cell; have g1 := kp.froz; have l1 := kp.lt; have hB := ((Below.refl w.heap.size w).alloc (Nat.le_refl _) (.cells #[.int .i64 6, .int .i64 u, .int .i64 s, .int .i64 a, .int .i64 x, .int .i64 y, .int .i64 z, .int .i64 t] 32)).trans (hb.mono (by simp)); clear hb) | (go_at_call 37; first | ((with_reducible refine (N_session.out _).mono ?_); rintro e w1 ⟨rfl, rfl⟩) | ((with_reducible refine (N_a.out _).mono ?_); rintro e w1 ⟨rfl, rfl⟩) | ((with_reducible refine (N_b.out _).mono ?_); rintro e w1 ⟨rfl, rfl⟩)))
  go_ret
  exact ⟨rfl, by (repeat (first | exact hB | (with_reducible refine Below.setCell ?_ (by (try simp) <;> omega) _) | (with_reducible refine Below.alloc ?_ (by (try simp) <;> omega) _)))⟩

set_option maxHeartbeats 2000000 in
theorem remay_ok (k : Int) (u s a x y z t : Int) (w : World) (HP : ∀ w, Calls Tryd.prog 75 #[.agg #[.int .i64 k, .int .i64 u, .int .i64 s, .int .i64 a, .int .i64 x, .int .i64 y, .int .i64 z, .int .i64 t]] w fun e w' => e = .returned (.tuple #[.agg #[.int .i64 k, .int .i64 u, .int .i64 s, .int .i64 a, .int .i64 x, .int .i64 y, .int .i64 z, .int .i64 t], .bool true]) ∧ Below w.heap.size w w') (l_user : 0 ≤ u) (u_user : u ≤ 7) (l_address : 0 ≤ a) (u_address : a ≤ 15) (l_tick : 0 ≤ t) (u_tick : t ≤ 1048575) (n_session : okNum s = true) (n_a : okNum x = true) (n_b : okNum y = true) (l_c : 0 ≤ z) (u_c : z ≤ 1048576) (hk : k ≠ 6) :
    Calls Tryd.prog 58 #[.agg #[.int .i64 k, .int .i64 u, .int .i64 s, .int .i64 a, .int .i64 x, .int .i64 y, .int .i64 z, .int .i64 t]] w fun e w' => e = .returned (.bool true) ∧ Below w.heap.size w w' := by
  have HP := Lib.hid HP
  have dl_user : decide (u < 0) = false := by simp; omega
  have du_user : decide ((8 : Int) ≤ u) = false := by simp; omega
  have dl_address : decide (a < 0) = false := by simp; omega
  have du_address : decide ((16 : Int) ≤ a) = false := by simp; omega
  have dl_tick : decide (t < 0) = false := by simp; omega
  have du_tick : decide ((1048575 : Int) < t) = false := by simp; omega
  have N_session := Lib.hid (rnumb s true n_session)
  clear n_session
  have N_a := Lib.hid (rnumb x true n_a)
  clear n_a
  have N_b := Lib.hid (rnumb y true n_b)
  clear n_b
  have dl_c : decide (z < 0) = false := by simp; omega
  have du_c : decide ((1048576 : Int) < z) = false := by simp; omega
  have gk : (k != 6) = true := by simpa using hk
  have gk2 : (k == 6) = false := by simpa using hk
  clear hk
  go_enter Tryd.func58, Tryd.ntmps58
  go_wp2_with (first | (go_at_call 75; (with_reducible refine (HP.out _).mono ?_); rintro e w1 ⟨rfl, hb⟩; have kp := (Blk.new _ _ _).step hb; have e1 := kp.cell; have g1 := kp.froz; have l1 := kp.lt; have hB := ((Below.refl w.heap.size w).alloc (Nat.le_refl _) (.cells #[.int .i64 k, .int .i64 u, .int .i64 s, .int .i64 a, .int .i64 x, .int .i64 y, .int .i64 z, .int .i64 t] 32)).trans (hb.mono (by simp)); clear hb) | (go_at_call 37; first | ((with_reducible refine (N_session.out _).mono ?_); rintro e w1 ⟨rfl, rfl⟩) | ((with_reducible refine (N_a.out _).mono ?_); rintro e w1 ⟨rfl, rfl⟩) | ((with_reducible refine (N_b.out _).mono ?_); rintro e w1 ⟨rfl, rfl⟩)))
  go_ret
  exact ⟨rfl, by (repeat (first | exact hB | (with_reducible refine Below.setCell ?_ (by (try simp) <;> omega) _) | (with_reducible refine Below.alloc ?_ (by (try simp) <;> omega) _)))⟩

theorem remay_rng {p : Ev} (h : p.rng = false) : p.may = false := by unfold Ev.may; rw [h]; rfl
set_option maxHeartbeats 2000000 in
theorem remay (p : Ev) (w : World) : Calls Tryd.prog 58 #[p.val] w fun e w' => e = .returned (.bool p.may) ∧ Below w.heap.size w w' := by
  have HP := fun w => remay_part p w
  cases hp : p.part with
  | none =>
    rw [show p.pi = false by unfold Ev.pi; rw [hp]; rfl] at HP
    rw [show p.may = false by unfold Ev.may; rw [hp]; simp]
    generalize p.pv = v at *
    obtain ⟨k, u, s, a, x, y, z, t⟩ := p
    obtain ⟨k2, y1, y2, y3, y4, y5, y6, y7⟩ := v
    exact remay_no k u s a x y z t k2 y1 y2 y3 y4 y5 y6 y7 w HP
  | some v =>
    rw [show p.pi = true by unfold Ev.pi; rw [hp]; rfl, show p.pv = v by unfold Ev.pv; rw [hp]; rfl] at HP
    by_cases hv : v = p
    · subst hv
      obtain ⟨k, u, s, a, x, y, z, t⟩ := v
      by_cases l_user : u < 0
      · rw [remay_rng (by unfold Ev.rng; simp; omega)]; exact remay_bad0 k u s a x y z t w HP l_user
      replace l_user : 0 ≤ u := by omega
      by_cases u_user : 7 < u
      · rw [remay_rng (by unfold Ev.rng; simp; omega)]; exact remay_bad1 k u s a x y z t w HP l_user u_user
      replace u_user : u ≤ 7 := by omega
      by_cases l_address : a < 0
      · rw [remay_rng (by unfold Ev.rng; simp; omega)]; exact remay_bad2 k u s a x y z t w HP l_user u_user l_address
      replace l_address : 0 ≤ a := by omega
      by_cases u_address : 15 < a
      · rw [remay_rng (by unfold Ev.rng; simp; omega)]; exact remay_bad3 k u s a x y z t w HP l_user u_user l_address u_address
      replace u_address : a ≤ 15 := by omega
      by_cases l_tick : t < 0
      · rw [remay_rng (by unfold Ev.rng; simp; omega)]; exact remay_bad4 k u s a x y z t w HP l_user u_user l_address u_address l_tick
      replace l_tick : 0 ≤ t := by omega
      by_cases u_tick : 1048575 < t
      · rw [remay_rng (by unfold Ev.rng; simp; omega)]; exact remay_bad5 k u s a x y z t w HP l_user u_user l_address u_address l_tick u_tick
      replace u_tick : t ≤ 1048575 := by omega
      by_cases n_session : okNum s = false
      · rw [remay_rng (by unfold Ev.rng; simp [n_session])]; exact remay_bad6 k u s a x y z t w HP l_user u_user l_address u_address l_tick u_tick n_session
      replace n_session : okNum s = true := by simpa using n_session
      by_cases n_a : okNum x = false
      · rw [remay_rng (by unfold Ev.rng; simp [n_a])]; exact remay_bad7 k u s a x y z t w HP l_user u_user l_address u_address l_tick u_tick n_session n_a
      replace n_a : okNum x = true := by simpa using n_a
      by_cases n_b : okNum y = false
      · rw [remay_rng (by unfold Ev.rng; simp [n_b])]; exact remay_bad8 k u s a x y z t w HP l_user u_user l_address u_address l_tick u_tick n_session n_a n_b
      replace n_b : okNum y = true := by simpa using n_b
      by_cases l_c : z < 0
      · rw [remay_rng (by unfold Ev.rng; simp; omega)]; exact remay_bad9 k u s a x y z t w HP l_user u_user l_address u_address l_tick u_tick n_session n_a n_b l_c
      replace l_c : 0 ≤ z := by omega
      by_cases u_c : 1048576 < z
      · rw [remay_rng (by unfold Ev.rng; simp; omega)]; exact remay_bad10 k u s a x y z t w HP l_user u_user l_address u_address l_tick u_tick n_session n_a n_b l_c u_c
      replace u_c : z ≤ 1048576 := by omega
      have hr : (Ev.mk k u s a x y z t).rng = true := (Ev.rng_iff _).2 ⟨l_user, u_user, l_address, u_address, l_tick, u_tick, l_c, u_c, n_session, n_a, n_b⟩
      have hm : (Ev.mk k u s a x y z t).may = (Ev.mk k u s a x y z t).lim := by unfold Ev.may; rw [hr, hp]; simp
      rw [hm]
      by_cases hk : k = 6
      · subst hk
        rw [show (Ev.mk 6 u s a x y z t).lim = decide (y ≤ 4) by simp [Ev.lim]]
        exact remay_ok6 u s a x y z t w HP l_user u_user l_address u_address l_tick u_tick n_session n_a n_b l_c u_c
      · rw [show (Ev.mk k u s a x y z t).lim = true by simp [Ev.lim, hk]]
        exact remay_ok k u s a x y z t w HP l_user u_user l_address u_address l_tick u_tick n_session n_a n_b l_c u_c hk
    · rw [show p.may = false by unfold Ev.may; rw [hp]; simp [hv]]
      obtain ⟨k, u, s, a, x, y, z, t⟩ := p
      obtain ⟨k2, y1, y2, y3, y4, y5, y6, y7⟩ := v
      exact remay_ne k u s a x y z t k2 y1 y2 y3 y4 y5 y6 y7 w HP (fun e0 e1 e2 e3 e4 e5 e6 e7 => hv (by rw [e0, e1, e2, e3, e4, e5, e6, e7]))
end Go.Proofs.YtiebpjkppjollaaDoor

namespace Go.Proofs.YtiebpjkppjollaaDoor
open Go Go.RowKit

theorem reput_no (p : Ev) (w : World) (hm : p.may = false) : Calls Tryd.prog 36 #[p.val] w fun e w' => e = .returned (.tuple #[.string ⟨#[]⟩, .int .i64 700]) ∧ Below w.heap.size w w' := by
  have HM := fun w => remay p w
  rw [hm] at HM
  obtain ⟨k, u, s, a, x, y, z, t⟩ := p
  have HM := Lib.hid (HM)
  unfold Ev.val at HM
  unfold Ev.val
  clear hm
  go_enter Tryd.func36, Tryd.ntmps36
  go_wp2_with (go_at_call 58; (with_reducible refine (HM.out _).mono ?_); rintro e w1 ⟨rfl, hb⟩; have hS := (Held.start w _).step hb)
  go_ret2
  exact ⟨rfl, hS.bel⟩

set_option maxHeartbeats 4000000 in
theorem reput_0 (t : Int) (w : World) (r_t : okNum t = true) (hm : (Ev.mk 0 0 0 0 0 0 0 t).may = true) :
    Calls Tryd.prog 36 #[(Ev.mk 0 0 0 0 0 0 0 t).val] w fun e w' => e = .returned (.tuple #[.string (encL (.n 0 :: [.n t])), .int .i64 0]) ∧ Below w.heap.size w w' := by
  have hM := fun w => remay (Ev.mk 0 0 0 0 0 0 0 t) w
  rw [hm] at hM
  have H1 := Lib.hid (fun w => rn1 0 3 w (by decide) (by decide))
  have z1 : (numsB [0]).size ≤ 5 := numsB_size [0]
  have H2 := Lib.hid (fun w => rn1 t 3 w (okn r_t).1 (okn r_t).2)
  have z2 : (numsB [t]).size ≤ 5 := numsB_size [t]
  have HF := Lib.hid (enc_nums 0 [t])
  have HM := Lib.hid hM
  unfold Ev.val at HM
  unfold Ev.val
  clear hm hM r_t
  generalize numsB [0] = e1 at *
  generalize numsB [t] = e2 at *
  go_enter Tryd.func36, Tryd.ntmps36
  go_wp2_with (first
    | (go_at_call 58; (with_reducible refine (HM.out _).mono ?_); rintro e w1 ⟨rfl, hb⟩; have hS := (Held.start w _).step hb; have c0 := hS.cell (i := 0) rfl; have c7 := hS.cell (i := 7) rfl; clear hb)
    | (go_at_call 39; first | ((with_reducible refine (H1.out _).mono ?_); rintro e w1 ⟨rfl, hb⟩; replace hS := hS.step hb; have c0 := hS.cell (i := 0) rfl; have c7 := hS.cell (i := 7) rfl; clear hb) | ((with_reducible refine (H2.out _).mono ?_); rintro e w1 ⟨rfl, hb⟩; replace hS := hS.step hb; have c0 := hS.cell (i := 0) rfl; have c7 := hS.cell (i := 7) rfl; clear hb))
    | fail)
  go_ret2
  exact ⟨ret_s2 HF.out, hS.bel⟩

set_option maxHeartbeats 4000000 in
theorem reput_1 (u x y z : Int) (w : World) (r_u : okNum u = true) (r_x : okNum x = true) (r_y : okNum y = true) (r_z : okNum z = true) (hm : (Ev.mk 1 u 0 0 x y z 0).may = true) :
    Calls Tryd.prog 36 #[(Ev.mk 1 u 0 0 x y z 0).val] w fun e w' => e = .returned (.tuple #[.string (encL (.n 1 :: [.n u, .n x, .n y, .n z])), .int .i64 0]) ∧ Below w.heap.size w w' := by
  have hM := fun w => remay (Ev.mk 1 u 0 0 x y z 0) w
  rw [hm] at hM
  have H1 := Lib.hid (fun w => rn1 1 3 w (by decide) (by decide))
  have z1 : (numsB [1]).size ≤ 5 := numsB_size [1]
  have H2 := Lib.hid (fun w => rn4 u x y z 3 w (okn r_u).1 (okn r_u).2 (okn r_x).1 (okn r_x).2 (okn r_y).1 (okn r_y).2 (okn r_z).1 (okn r_z).2)
  have z2 : (numsB [u, x, y, z]).size ≤ 20 := numsB_size [u, x, y, z]
  have HF := Lib.hid (enc_nums 1 [u, x, y, z])
  have HM := Lib.hid hM
  unfold Ev.val at HM
  unfold Ev.val
  clear hm hM r_u r_x r_y r_z
  generalize numsB [1] = e1 at *
  generalize numsB [u, x, y, z] = e2 at *
  go_enter Tryd.func36, Tryd.ntmps36
  go_wp2_with (first
    | (go_at_call 58; (with_reducible refine (HM.out _).mono ?_); rintro e w1 ⟨rfl, hb⟩; have hS := (Held.start w _).step hb; have c0 := hS.cell (i := 0) rfl; have c1 := hS.cell (i := 1) rfl; have c4 := hS.cell (i := 4) rfl; have c5 := hS.cell (i := 5) rfl; have c6 := hS.cell (i := 6) rfl; clear hb)
    | (go_at_call 39; first | ((with_reducible refine (H1.out _).mono ?_); rintro e w1 ⟨rfl, hb⟩; replace hS := hS.step hb; have c0 := hS.cell (i := 0) rfl; have c1 := hS.cell (i := 1) rfl; have c4 := hS.cell (i := 4) rfl; have c5 := hS.cell (i := 5) rfl; have c6 := hS.cell (i := 6) rfl; clear hb) | ((with_reducible refine (H2.out _).mono ?_); rintro e w1 ⟨rfl, hb⟩; replace hS := hS.step hb; have c0 := hS.cell (i := 0) rfl; have c1 := hS.cell (i := 1) rfl; have c4 := hS.cell (i := 4) rfl; have c5 := hS.cell (i := 5) rfl; have c6 := hS.cell (i := 6) rfl; clear hb))
    | fail)
  go_ret2
  exact ⟨ret_s2 HF.out, hS.bel⟩

set_option maxHeartbeats 4000000 in
theorem reput_2 (u t : Int) (w : World) (r_u : okNum u = true) (r_t : okNum t = true) (hm : (Ev.mk 2 u 0 0 0 0 0 t).may = true) :
    Calls Tryd.prog 36 #[(Ev.mk 2 u 0 0 0 0 0 t).val] w fun e w' => e = .returned (.tuple #[.string (encL (.n 2 :: [.n u, .n t])), .int .i64 0]) ∧ Below w.heap.size w w' := by
  have hM := fun w => remay (Ev.mk 2 u 0 0 0 0 0 t) w
  rw [hm] at hM
  have H1 := Lib.hid (fun w => rn1 2 3 w (by decide) (by decide))
  have z1 : (numsB [2]).size ≤ 5 := numsB_size [2]
  have H2 := Lib.hid (fun w => rn2 u t 3 w (okn r_u).1 (okn r_u).2 (okn r_t).1 (okn r_t).2)
  have z2 : (numsB [u, t]).size ≤ 10 := numsB_size [u, t]
  have HF := Lib.hid (enc_nums 2 [u, t])
  have HM := Lib.hid hM
  unfold Ev.val at HM
  unfold Ev.val
  clear hm hM r_u r_t
  generalize numsB [2] = e1 at *
  generalize numsB [u, t] = e2 at *
  go_enter Tryd.func36, Tryd.ntmps36
  go_wp2_with (first
    | (go_at_call 58; (with_reducible refine (HM.out _).mono ?_); rintro e w1 ⟨rfl, hb⟩; have hS := (Held.start w _).step hb; have c0 := hS.cell (i := 0) rfl; have c1 := hS.cell (i := 1) rfl; have c7 := hS.cell (i := 7) rfl; clear hb)
    | (go_at_call 39; first | ((with_reducible refine (H1.out _).mono ?_); rintro e w1 ⟨rfl, hb⟩; replace hS := hS.step hb; have c0 := hS.cell (i := 0) rfl; have c1 := hS.cell (i := 1) rfl; have c7 := hS.cell (i := 7) rfl; clear hb) | ((with_reducible refine (H2.out _).mono ?_); rintro e w1 ⟨rfl, hb⟩; replace hS := hS.step hb; have c0 := hS.cell (i := 0) rfl; have c1 := hS.cell (i := 1) rfl; have c7 := hS.cell (i := 7) rfl; clear hb))
    | fail)
  go_ret2
  exact ⟨ret_s2 HF.out, hS.bel⟩

set_option maxHeartbeats 4000000 in
theorem reput_3 (u x : Int) (w : World) (r_u : okNum u = true) (r_x : okNum x = true) (hm : (Ev.mk 3 u 0 0 x 0 0 0).may = true) :
    Calls Tryd.prog 36 #[(Ev.mk 3 u 0 0 x 0 0 0).val] w fun e w' => e = .returned (.tuple #[.string (encL (.n 3 :: [.n u, .n x])), .int .i64 0]) ∧ Below w.heap.size w w' := by
  have hM := fun w => remay (Ev.mk 3 u 0 0 x 0 0 0) w
  rw [hm] at hM
  have H1 := Lib.hid (fun w => rn1 3 3 w (by decide) (by decide))
  have z1 : (numsB [3]).size ≤ 5 := numsB_size [3]
  have H2 := Lib.hid (fun w => rn2 u x 3 w (okn r_u).1 (okn r_u).2 (okn r_x).1 (okn r_x).2)
  have z2 : (numsB [u, x]).size ≤ 10 := numsB_size [u, x]
  have HF := Lib.hid (enc_nums 3 [u, x])
  have HM := Lib.hid hM
  unfold Ev.val at HM
  unfold Ev.val
  clear hm hM r_u r_x
  generalize numsB [3] = e1 at *
  generalize numsB [u, x] = e2 at *
  go_enter Tryd.func36, Tryd.ntmps36
  go_wp2_with (first
    | (go_at_call 58; (with_reducible refine (HM.out _).mono ?_); rintro e w1 ⟨rfl, hb⟩; have hS := (Held.start w _).step hb; have c0 := hS.cell (i := 0) rfl; have c1 := hS.cell (i := 1) rfl; have c4 := hS.cell (i := 4) rfl; clear hb)
    | (go_at_call 39; first | ((with_reducible refine (H1.out _).mono ?_); rintro e w1 ⟨rfl, hb⟩; replace hS := hS.step hb; have c0 := hS.cell (i := 0) rfl; have c1 := hS.cell (i := 1) rfl; have c4 := hS.cell (i := 4) rfl; clear hb) | ((with_reducible refine (H2.out _).mono ?_); rintro e w1 ⟨rfl, hb⟩; replace hS := hS.step hb; have c0 := hS.cell (i := 0) rfl; have c1 := hS.cell (i := 1) rfl; have c4 := hS.cell (i := 4) rfl; clear hb))
    | fail)
  go_ret2
  exact ⟨ret_s2 HF.out, hS.bel⟩

set_option maxHeartbeats 4000000 in
theorem reput_4 (u : Int) (w : World) (r_u : okNum u = true) (hm : (Ev.mk 4 u 0 0 0 0 0 0).may = true) :
    Calls Tryd.prog 36 #[(Ev.mk 4 u 0 0 0 0 0 0).val] w fun e w' => e = .returned (.tuple #[.string (encL (.n 4 :: [.n u])), .int .i64 0]) ∧ Below w.heap.size w w' := by
  have hM := fun w => remay (Ev.mk 4 u 0 0 0 0 0 0) w
  rw [hm] at hM
  have H1 := Lib.hid (fun w => rn1 4 3 w (by decide) (by decide))
  have z1 : (numsB [4]).size ≤ 5 := numsB_size [4]
  have H2 := Lib.hid (fun w => rn1 u 3 w (okn r_u).1 (okn r_u).2)
  have z2 : (numsB [u]).size ≤ 5 := numsB_size [u]
  have HF := Lib.hid (enc_nums 4 [u])
  have HM := Lib.hid hM
  unfold Ev.val at HM
  unfold Ev.val
  clear hm hM r_u
  generalize numsB [4] = e1 at *
  generalize numsB [u] = e2 at *
  go_enter Tryd.func36, Tryd.ntmps36
  go_wp2_with (first
    | (go_at_call 58; (with_reducible refine (HM.out _).mono ?_); rintro e w1 ⟨rfl, hb⟩; have hS := (Held.start w _).step hb; have c0 := hS.cell (i := 0) rfl; have c1 := hS.cell (i := 1) rfl; clear hb)
    | (go_at_call 39; first | ((with_reducible refine (H1.out _).mono ?_); rintro e w1 ⟨rfl, hb⟩; replace hS := hS.step hb; have c0 := hS.cell (i := 0) rfl; have c1 := hS.cell (i := 1) rfl; clear hb) | ((with_reducible refine (H2.out _).mono ?_); rintro e w1 ⟨rfl, hb⟩; replace hS := hS.step hb; have c0 := hS.cell (i := 0) rfl; have c1 := hS.cell (i := 1) rfl; clear hb))
    | fail)
  go_ret2
  exact ⟨ret_s2 HF.out, hS.bel⟩

set_option maxHeartbeats 4000000 in
theorem reput_5 (s u a t : Int) (w : World) (r_s : okNum s = true) (r_u : okNum u = true) (r_a : okNum a = true) (r_t : okNum t = true) (hm : (Ev.mk 5 u s a 0 0 0 t).may = true) :
    Calls Tryd.prog 36 #[(Ev.mk 5 u s a 0 0 0 t).val] w fun e w' => e = .returned (.tuple #[.string (encL (.n 5 :: [.n s, .n u, .n a, .n t])), .int .i64 0]) ∧ Below w.heap.size w w' := by
  have hM := fun w => remay (Ev.mk 5 u s a 0 0 0 t) w
  rw [hm] at hM
  have H1 := Lib.hid (fun w => rn1 5 3 w (by decide) (by decide))
  have z1 : (numsB [5]).size ≤ 5 := numsB_size [5]
  have H2 := Lib.hid (fun w => rn4 s u a t 3 w (okn r_s).1 (okn r_s).2 (okn r_u).1 (okn r_u).2 (okn r_a).1 (okn r_a).2 (okn r_t).1 (okn r_t).2)
  have z2 : (numsB [s, u, a, t]).size ≤ 20 := numsB_size [s, u, a, t]
  have HF := Lib.hid (enc_nums 5 [s, u, a, t])
  have HM := Lib.hid hM
  unfold Ev.val at HM
  unfold Ev.val
  clear hm hM r_s r_u r_a r_t
  generalize numsB [5] = e1 at *
  generalize numsB [s, u, a, t] = e2 at *
  go_enter Tryd.func36, Tryd.ntmps36
  go_wp2_with (first
    | (go_at_call 58; (with_reducible refine (HM.out _).mono ?_); rintro e w1 ⟨rfl, hb⟩; have hS := (Held.start w _).step hb; have c0 := hS.cell (i := 0) rfl; have c1 := hS.cell (i := 1) rfl; have c2 := hS.cell (i := 2) rfl; have c3 := hS.cell (i := 3) rfl; have c7 := hS.cell (i := 7) rfl; clear hb)
    | (go_at_call 39; first | ((with_reducible refine (H1.out _).mono ?_); rintro e w1 ⟨rfl, hb⟩; replace hS := hS.step hb; have c0 := hS.cell (i := 0) rfl; have c1 := hS.cell (i := 1) rfl; have c2 := hS.cell (i := 2) rfl; have c3 := hS.cell (i := 3) rfl; have c7 := hS.cell (i := 7) rfl; clear hb) | ((with_reducible refine (H2.out _).mono ?_); rintro e w1 ⟨rfl, hb⟩; replace hS := hS.step hb; have c0 := hS.cell (i := 0) rfl; have c1 := hS.cell (i := 1) rfl; have c2 := hS.cell (i := 2) rfl; have c3 := hS.cell (i := 3) rfl; have c7 := hS.cell (i := 7) rfl; clear hb))
    | fail)
  go_ret2
  exact ⟨ret_s2 HF.out, hS.bel⟩

set_option maxHeartbeats 4000000 in
theorem reput_6 (s x y t : Int) (w : World) (r_s : okNum s = true) (r_x : okNum x = true) (r_y : okNum y = true) (r_t : okNum t = true) (hm : (Ev.mk 6 0 s 0 x y 0 t).may = true) :
    Calls Tryd.prog 36 #[(Ev.mk 6 0 s 0 x y 0 t).val] w fun e w' => e = .returned (.tuple #[.string (encL (.n 6 :: [.n s, .n x, .n y, .n t])), .int .i64 0]) ∧ Below w.heap.size w w' := by
  have hM := fun w => remay (Ev.mk 6 0 s 0 x y 0 t) w
  rw [hm] at hM
  have H1 := Lib.hid (fun w => rn1 6 3 w (by decide) (by decide))
  have z1 : (numsB [6]).size ≤ 5 := numsB_size [6]
  have H2 := Lib.hid (fun w => rn4 s x y t 3 w (okn r_s).1 (okn r_s).2 (okn r_x).1 (okn r_x).2 (okn r_y).1 (okn r_y).2 (okn r_t).1 (okn r_t).2)
  have z2 : (numsB [s, x, y, t]).size ≤ 20 := numsB_size [s, x, y, t]
  have HF := Lib.hid (enc_nums 6 [s, x, y, t])
  have HM := Lib.hid hM
  unfold Ev.val at HM
  unfold Ev.val
  clear hm hM r_s r_x r_y r_t
  generalize numsB [6] = e1 at *
  generalize numsB [s, x, y, t] = e2 at *
  go_enter Tryd.func36, Tryd.ntmps36
  go_wp2_with (first
    | (go_at_call 58; (with_reducible refine (HM.out _).mono ?_); rintro e w1 ⟨rfl, hb⟩; have hS := (Held.start w _).step hb; have c0 := hS.cell (i := 0) rfl; have c2 := hS.cell (i := 2) rfl; have c4 := hS.cell (i := 4) rfl; have c5 := hS.cell (i := 5) rfl; have c7 := hS.cell (i := 7) rfl; clear hb)
    | (go_at_call 39; first | ((with_reducible refine (H1.out _).mono ?_); rintro e w1 ⟨rfl, hb⟩; replace hS := hS.step hb; have c0 := hS.cell (i := 0) rfl; have c2 := hS.cell (i := 2) rfl; have c4 := hS.cell (i := 4) rfl; have c5 := hS.cell (i := 5) rfl; have c7 := hS.cell (i := 7) rfl; clear hb) | ((with_reducible refine (H2.out _).mono ?_); rintro e w1 ⟨rfl, hb⟩; replace hS := hS.step hb; have c0 := hS.cell (i := 0) rfl; have c2 := hS.cell (i := 2) rfl; have c4 := hS.cell (i := 4) rfl; have c5 := hS.cell (i := 5) rfl; have c7 := hS.cell (i := 7) rfl; clear hb))
    | fail)
  go_ret2
  exact ⟨ret_s2 HF.out, hS.bel⟩

set_option maxHeartbeats 4000000 in
theorem reput_7 (u : Int) (w : World) (r_u : okNum u = true) (hm : (Ev.mk 7 u 0 0 0 0 0 0).may = true) :
    Calls Tryd.prog 36 #[(Ev.mk 7 u 0 0 0 0 0 0).val] w fun e w' => e = .returned (.tuple #[.string (encL (.n 7 :: [.n u])), .int .i64 0]) ∧ Below w.heap.size w w' := by
  have hM := fun w => remay (Ev.mk 7 u 0 0 0 0 0 0) w
  rw [hm] at hM
  have H1 := Lib.hid (fun w => rn1 7 3 w (by decide) (by decide))
  have z1 : (numsB [7]).size ≤ 5 := numsB_size [7]
  have H2 := Lib.hid (fun w => rn1 u 3 w (okn r_u).1 (okn r_u).2)
  have z2 : (numsB [u]).size ≤ 5 := numsB_size [u]
  have HF := Lib.hid (enc_nums 7 [u])
  have HM := Lib.hid hM
  unfold Ev.val at HM
  unfold Ev.val
  clear hm hM r_u
  generalize numsB [7] = e1 at *
  generalize numsB [u] = e2 at *
  go_enter Tryd.func36, Tryd.ntmps36
  go_wp2_with (first
    | (go_at_call 58; (with_reducible refine (HM.out _).mono ?_); rintro e w1 ⟨rfl, hb⟩; have hS := (Held.start w _).step hb; have c0 := hS.cell (i := 0) rfl; have c1 := hS.cell (i := 1) rfl; clear hb)
    | (go_at_call 39; first | ((with_reducible refine (H1.out _).mono ?_); rintro e w1 ⟨rfl, hb⟩; replace hS := hS.step hb; have c0 := hS.cell (i := 0) rfl; have c1 := hS.cell (i := 1) rfl; clear hb) | ((with_reducible refine (H2.out _).mono ?_); rintro e w1 ⟨rfl, hb⟩; replace hS := hS.step hb; have c0 := hS.cell (i := 0) rfl; have c1 := hS.cell (i := 1) rfl; clear hb))
    | fail)
  go_ret2
  exact ⟨ret_s2 HF.out, hS.bel⟩

set_option maxHeartbeats 4000000 in
theorem reput_8 (w : World)  (hm : (Ev.mk 8 0 0 0 0 0 0 0).may = true) :
    Calls Tryd.prog 36 #[(Ev.mk 8 0 0 0 0 0 0 0).val] w fun e w' => e = .returned (.tuple #[.string (encL (.n 8 :: [])), .int .i64 0]) ∧ Below w.heap.size w w' := by
  have hM := fun w => remay (Ev.mk 8 0 0 0 0 0 0 0) w
  rw [hm] at hM
  have H1 := Lib.hid (fun w => rn1 8 3 w (by decide) (by decide))
  have z1 : (numsB [8]).size ≤ 5 := numsB_size [8]
  have HF := Lib.hid (enc_nums 8 [])
  rw [show numsB [8] ++ numsB [] = numsB [8] from ba_nil _] at HF
  have HM := Lib.hid hM
  unfold Ev.val at HM
  unfold Ev.val
  clear hm hM 
  generalize numsB [8] = e1 at *
  go_enter Tryd.func36, Tryd.ntmps36
  go_wp2_with (first
    | (go_at_call 58; (with_reducible refine (HM.out _).mono ?_); rintro e w1 ⟨rfl, hb⟩; have hS := (Held.start w _).step hb; have c0 := hS.cell (i := 0) rfl; clear hb)
    | (go_at_call 39; ((with_reducible refine (H1.out _).mono ?_); rintro e w1 ⟨rfl, hb⟩; replace hS := hS.step hb; have c0 := hS.cell (i := 0) rfl; clear hb))
    | fail)
  go_ret2
  exact ⟨ret_s2 HF.out, hS.bel⟩

set_option maxHeartbeats 4000000 in
theorem reput_9 (s : Int) (w : World) (r_s : okNum s = true) (hm : (Ev.mk 9 0 s 0 0 0 0 0).may = true) :
    Calls Tryd.prog 36 #[(Ev.mk 9 0 s 0 0 0 0 0).val] w fun e w' => e = .returned (.tuple #[.string (encL (.n 9 :: [.n s])), .int .i64 0]) ∧ Below w.heap.size w w' := by
  have hM := fun w => remay (Ev.mk 9 0 s 0 0 0 0 0) w
  rw [hm] at hM
  have H1 := Lib.hid (fun w => rn1 9 3 w (by decide) (by decide))
  have z1 : (numsB [9]).size ≤ 5 := numsB_size [9]
  have H2 := Lib.hid (fun w => rn1 s 3 w (okn r_s).1 (okn r_s).2)
  have z2 : (numsB [s]).size ≤ 5 := numsB_size [s]
  have HF := Lib.hid (enc_nums 9 [s])
  have HM := Lib.hid hM
  unfold Ev.val at HM
  unfold Ev.val
  clear hm hM r_s
  generalize numsB [9] = e1 at *
  generalize numsB [s] = e2 at *
  go_enter Tryd.func36, Tryd.ntmps36
  go_wp2_with (first
    | (go_at_call 58; (with_reducible refine (HM.out _).mono ?_); rintro e w1 ⟨rfl, hb⟩; have hS := (Held.start w _).step hb; have c0 := hS.cell (i := 0) rfl; have c2 := hS.cell (i := 2) rfl; clear hb)
    | (go_at_call 39; first | ((with_reducible refine (H1.out _).mono ?_); rintro e w1 ⟨rfl, hb⟩; replace hS := hS.step hb; have c0 := hS.cell (i := 0) rfl; have c2 := hS.cell (i := 2) rfl; clear hb) | ((with_reducible refine (H2.out _).mono ?_); rintro e w1 ⟨rfl, hb⟩; replace hS := hS.step hb; have c0 := hS.cell (i := 0) rfl; have c2 := hS.cell (i := 2) rfl; clear hb))
    | fail)
  go_ret2
  exact ⟨ret_s2 HF.out, hS.bel⟩

theorem Ev.norm {p : Ev} (h : p.part = some p) : (p.kind = 0 → p = (Ev.mk 0 0 0 0 0 0 0 p.tick)) ∧ (p.kind = 1 → p = (Ev.mk 1 p.user 0 0 p.a p.b p.c 0)) ∧ (p.kind = 2 → p = (Ev.mk 2 p.user 0 0 0 0 0 p.tick)) ∧ (p.kind = 3 → p = (Ev.mk 3 p.user 0 0 p.a 0 0 0)) ∧ (p.kind = 4 → p = (Ev.mk 4 p.user 0 0 0 0 0 0)) ∧ (p.kind = 5 → p = (Ev.mk 5 p.user p.session p.address 0 0 0 p.tick)) ∧ (p.kind = 6 → p = (Ev.mk 6 0 p.session 0 p.a p.b 0 p.tick)) ∧ (p.kind = 7 → p = (Ev.mk 7 p.user 0 0 0 0 0 0)) ∧ (p.kind = 8 → p = (Ev.mk 8 0 0 0 0 0 0 0)) ∧ (p.kind = 9 → p = (Ev.mk 9 0 p.session 0 0 0 0 0)) := by
  refine ⟨?_, ?_, ?_, ?_, ?_, ?_, ?_, ?_, ?_, ?_⟩ <;> intro e <;> unfold Ev.part at h <;> rw [e] at h <;> exact (Option.some.inj h).symm
theorem reput (p : Ev) (w : World) : Calls Tryd.prog 36 #[p.val] w fun e w' => e = .returned (.tuple #[.string p.putS, .int .i64 p.putE]) ∧ Below w.heap.size w w' := by
  cases hm : p.may with
  | false => rw [show p.putS = ⟨#[]⟩ by unfold Ev.putS; rw [hm]; rfl, show p.putE = 700 by unfold Ev.putE; rw [hm]; rfl]; exact reput_no p w hm
  | true =>
    rw [show p.putS = encL p.fl by unfold Ev.putS; rw [hm]; rfl, show p.putE = 0 by unfold Ev.putE; rw [hm]; rfl]
    obtain ⟨hr, hk, -⟩ := (Ev.may_iff p).1 hm
    obtain ⟨l_user, u_user, l_address, u_address, l_tick, u_tick, l_c, u_c, n_session, n_a, n_b⟩ := (Ev.rng_iff p).1 hr
    have n_user : okNum p.user = true := (okNum_iff _).2 ⟨l_user, by omega⟩
    have n_address : okNum p.address = true := (okNum_iff _).2 ⟨l_address, by omega⟩
    have n_tick : okNum p.tick = true := (okNum_iff _).2 ⟨l_tick, by omega⟩
    have n_c : okNum p.c = true := (okNum_iff _).2 ⟨l_c, by omega⟩
    obtain ⟨n0, n1, n2, n3, n4, n5, n6, n7, n8, n9⟩ := Ev.norm hk
    obtain ⟨k, u, s, a, x, y, z, t⟩ := p
    rcases Ev.kinds hk with e | e | e | e | e | e | e | e | e | e
    · have := n0 e
      rw [this] at hm ⊢
      exact reput_0 t w n_tick hm
    · have := n1 e
      rw [this] at hm ⊢
      exact reput_1 u x y z w n_user n_a n_b n_c hm
    · have := n2 e
      rw [this] at hm ⊢
      exact reput_2 u t w n_user n_tick hm
    · have := n3 e
      rw [this] at hm ⊢
      exact reput_3 u x w n_user n_a hm
    · have := n4 e
      rw [this] at hm ⊢
      exact reput_4 u w n_user hm
    · have := n5 e
      rw [this] at hm ⊢
      exact reput_5 s u a t w n_session n_user n_address n_tick hm
    · have := n6 e
      rw [this] at hm ⊢
      exact reput_6 s x y t w n_session n_a n_b n_tick hm
    · have := n7 e
      rw [this] at hm ⊢
      exact reput_7 u w n_user hm
    · have := n8 e
      rw [this] at hm ⊢
      exact reput_8 w hm
    · have := n9 e
      rw [this] at hm ⊢
      exact reput_9 s w n_session hm
end Go.Proofs.YtiebpjkppjollaaDoor

