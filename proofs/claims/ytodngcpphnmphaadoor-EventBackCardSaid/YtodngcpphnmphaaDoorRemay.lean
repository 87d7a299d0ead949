/- The reference's May answers as the plain words say. No condition. -/
import Derived.Test.YtodngcpphnmphaaDoorRemay1
import Derived.Test.YtodngcpphnmphaaDoorRemay2
namespace Go.Proofs.YtodngcpphnmphaaDoor
open Go Go.RowKit

set_option maxHeartbeats 2000000 in
theorem remay_ok6 (u s a x y z t : Int) (w : World) (HP : ∀ w, Calls Tryd.prog 23 #[.agg #[.int .i64 6, .int .i64 u, .int .i64 s, .int .i64 a, .int .i64 x, .int .i64 y, .int .i64 z, .int .i64 t]] w fun e w' => e = .returned (.tuple #[.agg #[.int .i64 6, .int .i64 u, .int .i64 s, .int .i64 a, .int .i64 x, .int .i64 y, .int .i64 z, .int .i64 t], .bool true]) ∧ Below w.heap.size w w') (l_user : 0 ≤ u) (u_user : u ≤ 7) (l_address : 0 ≤ a) (u_address : a ≤ 15) (l_tick : 0 ≤ t) (u_tick : t ≤ 1048575) (n_session : okNum s = true) (n_a : okNum x = true) (n_b : okNum y = true) (l_c : 0 ≤ z) (u_c : z ≤ 1048576) :
    Calls Tryd.prog 13 #[.agg #[.int .i64 6, .int .i64 u, .int .i64 s, .int .i64 a, .int .i64 x, .int .i64 y, .int .i64 z, .int .i64 t]] w fun e w' => e = .returned (.bool (decide (y ≤ 4))) ∧ Below w.heap.size w w' := by
  have HP := Lib.hid HP
  have dl_user : decide (u < 0) = false := by simp; omega
  have du_user : decide ((8 : Int) ≤ u) = false := by simp; omega
  have dl_address : decide (a < 0) = false := by simp; omega
  have du_address : decide ((16 : Int) ≤ a) = false := by simp; omega
  have dl_tick : decide (t < 0) = false := by simp; omega
  have du_tick : decide ((1048575 : Int) < t) = false := by simp; omega
  have N_session := Lib.hid (rnumb s true n_session)
  clear n_session
  have N_a := Lib.hid (rnumb x true n_a)
  clear n_a
  have N_b := Lib.hid (rnumb y true n_b)
  clear n_b
  have dl_c : decide (z < 0) = false := by simp; omega
  have du_c : decide ((1048576 : Int) < z) = false := by simp; omega
  go_enter Tryd.func13, Tryd.ntmps13
  go_wp2_with (first | (go_at_call 23; (with_reducible refine (HP.out _).mono ?_); rintro e w1 ⟨rfl, hb⟩; have kp := (Blk.new _ _ _).step hb; have e1 := kp.cell; have g1 := kp.froz; have l1 := kp.lt; have hB := ((Below.refl w.heap.size w).alloc (Nat.le_refl _) (.cells #[.int .i64 6, .int .i64 u, .int .i64 s, .int .i64 a, .int .i64 x, .int .i64 y, .int .i64 z, .int .i64 t] 23)).trans (hb.mono (by simp)); clear hb) | (go_at_call 24; first | ((with_reducible refine (N_session.out _).mono ?_); rintro e w1 ⟨rfl, rfl⟩) | ((with_reducible refine (N_a.out _).mono ?_); rintro e w1 ⟨rfl, rfl⟩) | ((with_reducible refine (N_b.out _).mono ?_); rintro e w1 ⟨rfl, rfl⟩)))
  go_ret
  exact ⟨rfl, by (repeat (first | exact hB | (with_reducible refine Below.setCell ?_ (by (try simp) <;> omega) _) | (with_reducible refine Below.alloc ?_ (by (try simp) <;> omega) _)))⟩

set_option maxHeartbeats 2000000 in
theorem remay_ok (k : Int) (u s a x y z t : Int) (w : World) (HP : ∀ w, Calls Tryd.prog 23 #[.agg #[.int .i64 k, .int .i64 u, .int .i64 s, .int .i64 a, .int .i64 x, .int .i64 y, .int .i64 z, .int .i64 t]] w fun e w' => e = .returned (.tuple #[.agg #[.int .i64 k, .int .i64 u, .int .i64 s, .int .i64 a, .int .i64 x, .int .i64 y, .int .i64 z, .int .i64 t], .bool true]) ∧ Below w.heap.size w w') (l_user : 0 ≤ u) (u_user : u ≤ 7) (l_address : 0 ≤ a) (u_address : a ≤ 15) (l_tick : 0 ≤ t) (u_tick : t ≤ 1048575) (n_session : okNum s = true) (n_a : okNum x = true) (n_b : okNum y = true) (l_c : 0 ≤ z) (u_c : z ≤ 1048576) (hk : k ≠ 6) :
    Calls Tryd.prog 13 #[.agg #[.int .i64 k, .int .i64 u, .int .i64 s, .int .i64 a, .int .i64 x, .int .i64 y, .int .i64 z, .int .i64 t]] w fun e w' => e = .returned (.bool true) ∧ Below w.heap.size w w' := by
  have HP := Lib.hid HP
  have dl_user : decide (u < 0) = false := by simp; omega
  have du_user : decide ((8 : Int) ≤ u) = false := by simp; omega
  have dl_address : decide (a < 0) = false := by simp; omega
  have du_address : decide ((16 : Int) ≤ a) = false := by simp; omega
  have dl_tick : decide (t < 0) = false := by simp; omega
  have du_tick : decide ((1048575 : Int) < t) = false := by simp; omega
  have N_session := Lib.hid (rnumb s true n_session)
  clear n_session
  have N_a := Lib.hid (rnumb x true n_a)
  clear n_a
  have N_b := Lib.hid (rnumb y true n_b)
  clear n_b
  have dl_c : decide (z < 0) = false := by simp; omega
  have du_c : decide ((1048576 : Int) < z) = false := by simp; omega
  have gk : (k != 6) = true := by simpa using hk
  have gk2 : (k == 6) = false := by simpa using hk
  clear hk
  go_enter Tryd.func13, Tryd.ntmps13
  go_wp2_with (first | (go_at_call 23; (with_reducible refine (HP.out _).mono ?_); rintro e w1 ⟨rfl, hb⟩; have kp := (Blk.new _ _ _).step hb; have e1 := kp.cell; have g1 := kp.froz; have l1 := kp.lt; have hB := ((Below.refl w.heap.size w).alloc (Nat.le_refl _) (.cells #[.int .i64 k, .int .i64 u, .int .i64 s, .int .i64 a, .int .i64 x, .int .i64 y, .int .i64 z, .int .i64 t] 23)).trans (hb.mono (by simp)); clear hb) | (go_at_call 24; first | ((with_reducible refine (N_session.out _).mono ?_); rintro e w1 ⟨rfl, rfl⟩) | ((with_reducible refine (N_a.out _).mono ?_); rintro e w1 ⟨rfl, rfl⟩) | ((with_reducible refine (N_b.out _).mono ?_); rintro e w1 ⟨rfl, rfl⟩)))
  go_ret
  exact ⟨rfl, by (repeat (first | exact hB | (with_reducible refine Below.setCell ?_ (by (try simp) <;> omega) _) | (with_reducible refine Below.alloc ?_ (by (try simp) <;> omega) _)))⟩

theorem remay_rng {p : Ev} (h : p.rng = false) : p.may = false := by unfold Ev.may; rw [h]; rfl
set_option maxHeartbeats 2000000 in
theorem remay (p : Ev) (w : World) : Calls Tryd.prog 13 #[p.val] w fun e w' => e = .returned (.bool p.may) ∧ Below w.heap.size w w' := by
  have HP := fun w => remay_part p w
  cases hp : p.part with
  | none =>
    rw [show p.pi = false by unfold Ev.pi; rw [hp]; rfl] at HP
    rw [show p.may = false by unfold Ev.may; rw [hp]; simp]
    generalize p.pv = v at *
    obtain ⟨k, u, s, a, x, y, z, t⟩ := p
    obtain ⟨k2, y1, y2, y3, y4, y5, y6, y7⟩ := v
    exact remay_no k u s a x y z t k2 y1 y2 y3 y4 y5 y6 y7 w HP
  | some v =>
    rw [show p.pi = true by unfold Ev.pi; rw [hp]; rfl, show p.pv = v by unfold Ev.pv; rw [hp]; rfl] at HP
    by_cases hv : v = p
    · subst hv
      obtain ⟨k, u, s, a, x, y, z, t⟩ := v
      by_cases l_user : u < 0
      · rw [remay_rng (by unfold Ev.rng; simp; omega)]; exact remay_bad0 k u s a x y z t w HP l_user
      replace l_user : 0 ≤ u := by omega
      by_cases u_user : 7 < u
      · rw [remay_rng (by unfold Ev.rng; simp; omega)]; exact remay_bad1 k u s a x y z t w HP l_user u_user
      replace u_user : u ≤ 7 := by omega
      by_cases l_address : a < 0
      · rw [remay_rng (by unfold Ev.rng; simp; omega)]; exact remay_bad2 k u s a x y z t w HP l_user u_user l_address
      replace l_address : 0 ≤ a := by omega
      by_cases u_address : 15 < a
      · rw [remay_rng (by unfold Ev.rng; simp; omega)]; exact remay_bad3 k u s a x y z t w HP l_user u_user l_address u_address
      replace u_address : a ≤ 15 := by omega
      by_cases l_tick : t < 0
      · rw [remay_rng (by unfold Ev.rng; simp; omega)]; exact remay_bad4 k u s a x y z t w HP l_user u_user l_address u_address l_tick
      replace l_tick : 0 ≤ t := by omega
      by_cases u_tick : 1048575 < t
      · rw [remay_rng (by unfold Ev.rng; simp; omega)]; exact remay_bad5 k u s a x y z t w HP l_user u_user l_address u_address l_tick u_tick
      replace u_tick : t ≤ 1048575 := by omega
      by_cases n_session : okNum s = false
      · rw [remay_rng (by unfold Ev.rng; simp [n_session])]; exact remay_bad6 k u s a x y z t w HP l_user u_user l_address u_address l_tick u_tick n_session
      replace n_session : okNum s = true := by simpa using n_session
      by_cases n_a : okNum x = false
      · rw [remay_rng (by unfold Ev.rng; simp [n_a])]; exact remay_bad7 k u s a x y z t w HP l_user u_user l_address u_address l_tick u_tick n_session n_a
      replace n_a : okNum x = true := by simpa using n_a
      by_cases n_b : okNum y = false
      · rw [remay_rng (by unfold Ev.rng; simp [n_b])]; exact remay_bad8 k u s a x y z t w HP l_user u_user l_address u_address l_tick u_tick n_session n_a n_b
      replace n_b : okNum y = true := by simpa using n_b
      by_cases l_c : z < 0
      · rw [remay_rng (by unfold Ev.rng; simp; omega)]; exact remay_bad9 k u s a x y z t w HP l_user u_user l_address u_address l_tick u_tick n_session n_a n_b l_c
      replace l_c : 0 ≤ z := by omega
      by_cases u_c : 1048576 < z
      · rw [remay_rng (by unfold Ev.rng; simp; omega)]; exact remay_bad10 k u s a x y z t w HP l_user u_user l_address u_address l_tick u_tick n_session n_a n_b l_c u_c
      replace u_c : z ≤ 1048576 := by omega
      have hr : (Ev.mk k u s a x y z t).rng = true := (Ev.rng_iff _).2 ⟨l_user, u_user, l_address, u_address, l_tick, u_tick, l_c, u_c, n_session, n_a, n_b⟩
      have hm : (Ev.mk k u s a x y z t).may = (Ev.mk k u s a x y z t).lim := by unfold Ev.may; rw [hr, hp]; simp
      rw [hm]
      by_cases hk : k = 6
      · subst hk
        rw [show (Ev.mk 6 u s a x y z t).lim = decide (y ≤ 4) by simp [Ev.lim]]
        exact remay_ok6 u s a x y z t w HP l_user u_user l_address u_address l_tick u_tick n_session n_a n_b l_c u_c
      · rw [show (Ev.mk k u s a x y z t).lim = true by simp [Ev.lim, hk]]
        exact remay_ok k u s a x y z t w HP l_user u_user l_address u_address l_tick u_tick n_session n_a n_b l_c u_c hk
    · rw [show p.may = false by unfold Ev.may; rw [hp]; simp [hv]]
      obtain ⟨k, u, s, a, x, y, z, t⟩ := p
      obtain ⟨k2, y1, y2, y3, y4, y5, y6, y7⟩ := v
      exact remay_ne k u s a x y z t k2 y1 y2 y3 y4 y5 y6 y7 w HP (fun e0 e1 e2 e3 e4 e5 e6 e7 => hv (by rw [e0, e1, e2, e3, e4, e5, e6, e7]))
end Go.Proofs.YtodngcpphnmphaaDoor
