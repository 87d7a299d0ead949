/- The reference's AdminMay answers as the plain words say. No condition. -/
import Derived.Test.YtpleefloaoljfaaDoorAdm
import Derived.Test.YtpleefloaoljfaaDoorRefkit
namespace Go.Proofs.YtpleefloaoljfaaDoor
open Go Go.RowKit

set_option maxHeartbeats 2000000 in
theorem ramay_bad0 (k : Int) (u y x q s : Int) (w : World)  (l_user : u < 0) :
    Calls Tryd.prog 13 #[.agg #[.int .i64 k, .int .i64 u, .int .i64 y, .int .i64 x, .int .i64 q, .int .i64 s]] w fun e w' => e = .returned (.bool false) ∧ Below w.heap.size w w' := by
  have dl_user : decide (u < 0) = true := by simp; omega
  go_enter Tryd.func13, Tryd.ntmps13
  go_wp2_with fail
  go_ret
  exact ⟨rfl, by repeat (first | exact Below.refl _ _ | refine Below.setCell ?_ (by simp) _ | refine Below.alloc ?_ (by simp) _)⟩

set_option maxHeartbeats 2000000 in
theorem ramay_bad1 (k : Int) (u y x q s : Int) (w : World) (l_user : 0 ≤ u) (u_user : 7 < u) :
    Calls Tryd.prog 13 #[.agg #[.int .i64 k, .int .i64 u, .int .i64 y, .int .i64 x, .int .i64 q, .int .i64 s]] w fun e w' => e = .returned (.bool false) ∧ Below w.heap.size w w' := by
  have dl_user : decide (u < 0) = false := by simp; omega
  have du_user : decide ((8 : Int) ≤ u) = true := by simp; omega
  go_enter Tryd.func13, Tryd.ntmps13
  go_wp2_with fail
  go_ret
  exact ⟨rfl, by repeat (first | exact Below.refl _ _ | refine Below.setCell ?_ (by simp) _ | refine Below.alloc ?_ (by simp) _)⟩

set_option maxHeartbeats 2000000 in
theorem ramay_bad2 (k : Int) (u y x q s : Int) (w : World) (l_user : 0 ≤ u) (u_user : u ≤ 7) (n_key : okNum y = false) :
    Calls Tryd.prog 13 #[.agg #[.int .i64 k, .int .i64 u, .int .i64 y, .int .i64 x, .int .i64 q, .int .i64 s]] w fun e w' => e = .returned (.bool false) ∧ Below w.heap.size w w' := by
  have dl_user : decide (u < 0) = false := by simp; omega
  have du_user : decide ((8 : Int) ≤ u) = false := by simp; omega
  have N_key := Lib.hid (rnumb y false n_key)
  clear n_key
  go_enter Tryd.func13, Tryd.ntmps13
  go_wp2_with (go_at_call 23; ((with_reducible refine (N_key.out _).mono ?_); rintro e w1 ⟨rfl, rfl⟩))
  go_ret
  exact ⟨rfl, by repeat (first | exact Below.refl _ _ | refine Below.setCell ?_ (by simp) _ | refine Below.alloc ?_ (by simp) _)⟩

set_option maxHeartbeats 2000000 in
theorem ramay_bad3 (k : Int) (u y x q s : Int) (w : World) (l_user : 0 ≤ u) (u_user : u ≤ 7) (n_key : okNum y = true) (n_secret : okNum x = false) :
    Calls Tryd.prog 13 #[.agg #[.int .i64 k, .int .i64 u, .int .i64 y, .int .i64 x, .int .i64 q, .int .i64 s]] w fun e w' => e = .returned (.bool false) ∧ Below w.heap.size w w' := by
  have dl_user : decide (u < 0) = false := by simp; omega
  have du_user : decide ((8 : Int) ≤ u) = false := by simp; omega
  have N_key := Lib.hid (rnumb y true n_key)
  clear n_key
  have N_secret := Lib.hid (rnumb x false n_secret)
  clear n_secret
  go_enter Tryd.func13, Tryd.ntmps13
  go_wp2_with (go_at_call 23; first | ((with_reducible refine (N_key.out _).mono ?_); rintro e w1 ⟨rfl, rfl⟩) | ((with_reducible refine (N_secret.out _).mono ?_); rintro e w1 ⟨rfl, rfl⟩))
  go_ret
  exact ⟨rfl, by repeat (first | exact Below.refl _ _ | refine Below.setCell ?_ (by simp) _ | refine Below.alloc ?_ (by simp) _)⟩

set_option maxHeartbeats 2000000 in
theorem ramay_bad4 (k : Int) (u y x q s : Int) (w : World) (l_user : 0 ≤ u) (u_user : u ≤ 7) (n_key : okNum y = true) (n_secret : okNum x = true) (l_quota : q < 0) :
    Calls Tryd.prog 13 #[.agg #[.int .i64 k, .int .i64 u, .int .i64 y, .int .i64 x, .int .i64 q, .int .i64 s]] w fun e w' => e = .returned (.bool false) ∧ Below w.heap.size w w' := by
  have dl_user : decide (u < 0) = false := by simp; omega
  have du_user : decide ((8 : Int) ≤ u) = false := by simp; omega
  have N_key := Lib.hid (rnumb y true n_key)
  clear n_key
  have N_secret := Lib.hid (rnumb x true n_secret)
  clear n_secret
  have dl_quota : decide (q < 0) = true := by simp; omega
  go_enter Tryd.func13, Tryd.ntmps13
  go_wp2_with (go_at_call 23; first | ((with_reducible refine (N_key.out _).mono ?_); rintro e w1 ⟨rfl, rfl⟩) | ((with_reducible refine (N_secret.out _).mono ?_); rintro e w1 ⟨rfl, rfl⟩))
  go_ret
  exact ⟨rfl, by repeat (first | exact Below.refl _ _ | refine Below.setCell ?_ (by simp) _ | refine Below.alloc ?_ (by simp) _)⟩

set_option maxHeartbeats 2000000 in
theorem ramay_bad5 (k : Int) (u y x q s : Int) (w : World) (l_user : 0 ≤ u) (u_user : u ≤ 7) (n_key : okNum y = true) (n_secret : okNum x = true) (l_quota : 0 ≤ q) (u_quota : 1048576 < q) :
    Calls Tryd.prog 13 #[.agg #[.int .i64 k, .int .i64 u, .int .i64 y, .int .i64 x, .int .i64 q, .int .i64 s]] w fun e w' => e = .returned (.bool false) ∧ Below w.heap.size w w' := by
  have dl_user : decide (u < 0) = false := by simp; omega
  have du_user : decide ((8 : Int) ≤ u) = false := by simp; omega
  have N_key := Lib.hid (rnumb y true n_key)
  clear n_key
  have N_secret := Lib.hid (rnumb x true n_secret)
  clear n_secret
  have dl_quota : decide (q < 0) = false := by simp; omega
  have du_quota : decide ((1048576 : Int) < q) = true := by simp; omega
  go_enter Tryd.func13, Tryd.ntmps13
  go_wp2_with (go_at_call 23; first | ((with_reducible refine (N_key.out _).mono ?_); rintro e w1 ⟨rfl, rfl⟩) | ((with_reducible refine (N_secret.out _).mono ?_); rintro e w1 ⟨rfl, rfl⟩))
  go_ret
  exact ⟨rfl, by repeat (first | exact Below.refl _ _ | refine Below.setCell ?_ (by simp) _ | refine Below.alloc ?_ (by simp) _)⟩

set_option maxHeartbeats 2000000 in
theorem ramay_bad6 (k : Int) (u y x q s : Int) (w : World) (l_user : 0 ≤ u) (u_user : u ≤ 7) (n_key : okNum y = true) (n_secret : okNum x = true) (l_quota : 0 ≤ q) (u_quota : q ≤ 1048576) (n_session : okNum s = false) :
    Calls Tryd.prog 13 #[.agg #[.int .i64 k, .int .i64 u, .int .i64 y, .int .i64 x, .int .i64 q, .int .i64 s]] w fun e w' => e = .returned (.bool false) ∧ Below w.heap.size w w' := by
  have dl_user : decide (u < 0) = false := by simp; omega
  have du_user : decide ((8 : Int) ≤ u) = false := by simp; omega
  have N_key := Lib.hid (rnumb y true n_key)
  clear n_key
  have N_secret := Lib.hid (rnumb x true n_secret)
  clear n_secret
  have dl_quota : decide (q < 0) = false := by simp; omega
  have du_quota : decide ((1048576 : Int) < q) = false := by simp; omega
  have N_session := Lib.hid (rnumb s false n_session)
  clear n_session
  go_enter Tryd.func13, Tryd.ntmps13
  go_wp2_with (go_at_call 23; first | ((with_reducible refine (N_key.out _).mono ?_); rintro e w1 ⟨rfl, rfl⟩) | ((with_reducible refine (N_secret.out _).mono ?_); rintro e w1 ⟨rfl, rfl⟩) | ((with_reducible refine (N_session.out _).mono ?_); rintro e w1 ⟨rfl, rfl⟩))
  go_ret
  exact ⟨rfl, by repeat (first | exact Below.refl _ _ | refine Below.setCell ?_ (by simp) _ | refine Below.alloc ?_ (by simp) _)⟩

set_option maxHeartbeats 4000000 in
theorem ramay_k0 (u y x q s : Int) (B : Bool) (w : World) (l_user : 0 ≤ u) (u_user : u ≤ 7) (n_key : okNum y = true) (n_secret : okNum x = true) (l_quota : 0 ≤ q) (u_quota : q ≤ 1048576) (n_session : okNum s = true) (hB : (s = 0 → B = true) ∧ (¬ (s = 0) → B = false)) :
    Calls Tryd.prog 13 #[.agg #[.int .i64 0, .int .i64 u, .int .i64 y, .int .i64 x, .int .i64 q, .int .i64 s]] w fun e w' => e = .returned (.bool B) ∧ Below w.heap.size w w' := by
  have dl_user : decide (u < 0) = false := by simp; omega
  have du_user : decide ((8 : Int) ≤ u) = false := by simp; omega
  have N_key := Lib.hid (rnumb y true n_key)
  clear n_key
  have N_secret := Lib.hid (rnumb x true n_secret)
  clear n_secret
  have dl_quota : decide (q < 0) = false := by simp; omega
  have du_quota : decide ((1048576 : Int) < q) = false := by simp; omega
  have N_session := Lib.hid (rnumb s true n_session)
  clear n_session
  have HB := Lib.hid hB
  clear hB
  go_enter Tryd.func13, Tryd.ntmps13
  go_wp2_with (go_at_call 23; first | ((with_reducible refine (N_key.out _).mono ?_); rintro e w1 ⟨rfl, rfl⟩) | ((with_reducible refine (N_secret.out _).mono ?_); rintro e w1 ⟨rfl, rfl⟩) | ((with_reducible refine (N_session.out _).mono ?_); rintro e w1 ⟨rfl, rfl⟩))
  all_goals
    go_ret
    refine ⟨congrArg (fun b => Ending.returned (Value.bool b)) ?_, by repeat (first | exact Below.refl _ _ | refine Below.setCell ?_ (by simp) _ | refine Below.alloc ?_ (by simp) _)⟩
    first
      | exact (HB.out.1 (by simp [*])).symm
      | exact (HB.out.2 (by simp [*])).symm

set_option maxHeartbeats 4000000 in
theorem ramay_k1 (u y x q s : Int) (B : Bool) (w : World) (l_user : 0 ≤ u) (u_user : u ≤ 7) (n_key : okNum y = true) (n_secret : okNum x = true) (l_quota : 0 ≤ q) (u_quota : q ≤ 1048576) (n_session : okNum s = true) (hB : (y = 0 ∧ x = 0 ∧ q = 0 ∧ s = 0 → B = true) ∧ (¬ (y = 0 ∧ x = 0 ∧ q = 0 ∧ s = 0) → B = false)) :
    Calls Tryd.prog 13 #[.agg #[.int .i64 1, .int .i64 u, .int .i64 y, .int .i64 x, .int .i64 q, .int .i64 s]] w fun e w' => e = .returned (.bool B) ∧ Below w.heap.size w w' := by
  have dl_user : decide (u < 0) = false := by simp; omega
  have du_user : decide ((8 : Int) ≤ u) = false := by simp; omega
  have N_key := Lib.hid (rnumb y true n_key)
  clear n_key
  have N_secret := Lib.hid (rnumb x true n_secret)
  clear n_secret
  have dl_quota : decide (q < 0) = false := by simp; omega
  have du_quota : decide ((1048576 : Int) < q) = false := by simp; omega
  have N_session := Lib.hid (rnumb s true n_session)
  clear n_session
  have HB := Lib.hid hB
  clear hB
  go_enter Tryd.func13, Tryd.ntmps13
  go_wp2_with (go_at_call 23; first | ((with_reducible refine (N_key.out _).mono ?_); rintro e w1 ⟨rfl, rfl⟩) | ((with_reducible refine (N_secret.out _).mono ?_); rintro e w1 ⟨rfl, rfl⟩) | ((with_reducible refine (N_session.out _).mono ?_); rintro e w1 ⟨rfl, rfl⟩))
  all_goals
    go_ret
    refine ⟨congrArg (fun b => Ending.returned (Value.bool b)) ?_, by repeat (first | exact Below.refl _ _ | refine Below.setCell ?_ (by simp) _ | refine Below.alloc ?_ (by simp) _)⟩
    first
      | exact (HB.out.1 (by simp [*])).symm
      | exact (HB.out.2 (by simp [*])).symm

set_option maxHeartbeats 4000000 in
theorem ramay_k2 (u y x q s : Int) (B : Bool) (w : World) (l_user : 0 ≤ u) (u_user : u ≤ 7) (n_key : okNum y = true) (n_secret : okNum x = true) (l_quota : 0 ≤ q) (u_quota : q ≤ 1048576) (n_session : okNum s = true) (hB : (y = 0 ∧ x = 0 ∧ q = 0 ∧ s = 0 → B = true) ∧ (¬ (y = 0 ∧ x = 0 ∧ q = 0 ∧ s = 0) → B = false)) :
    Calls Tryd.prog 13 #[.agg #[.int .i64 2, .int .i64 u, .int .i64 y, .int .i64 x, .int .i64 q, .int .i64 s]] w fun e w' => e = .returned (.bool B) ∧ Below w.heap.size w w' := by
  have dl_user : decide (u < 0) = false := by simp; omega
  have du_user : decide ((8 : Int) ≤ u) = false := by simp; omega
  have N_key := Lib.hid (rnumb y true n_key)
  clear n_key
  have N_secret := Lib.hid (rnumb x true n_secret)
  clear n_secret
  have dl_quota : decide (q < 0) = false := by simp; omega
  have du_quota : decide ((1048576 : Int) < q) = false := by simp; omega
  have N_session := Lib.hid (rnumb s true n_session)
  clear n_session
  have HB := Lib.hid hB
  clear hB
  go_enter Tryd.func13, Tryd.ntmps13
  go_wp2_with (go_at_call 23; first | ((with_reducible refine (N_key.out _).mono ?_); rintro e w1 ⟨rfl, rfl⟩) | ((with_reducible refine (N_secret.out _).mono ?_); rintro e w1 ⟨rfl, rfl⟩) | ((with_reducible refine (N_session.out _).mono ?_); rintro e w1 ⟨rfl, rfl⟩))
  all_goals
    go_ret
    refine ⟨congrArg (fun b => Ending.returned (Value.bool b)) ?_, by repeat (first | exact Below.refl _ _ | refine Below.setCell ?_ (by simp) _ | refine Below.alloc ?_ (by simp) _)⟩
    first
      | exact (HB.out.1 (by simp [*])).symm
      | exact (HB.out.2 (by simp [*])).symm

set_option maxHeartbeats 4000000 in
theorem ramay_k3 (u y x q s : Int) (B : Bool) (w : World) (l_user : 0 ≤ u) (u_user : u ≤ 7) (n_key : okNum y = true) (n_secret : okNum x = true) (l_quota : 0 ≤ q) (u_quota : q ≤ 1048576) (n_session : okNum s = true) (hB : (u = 0 ∧ y = 0 ∧ x = 0 ∧ q = 0 ∧ s = 0 → B = true) ∧ (¬ (u = 0 ∧ y = 0 ∧ x = 0 ∧ q = 0 ∧ s = 0) → B = false)) :
    Calls Tryd.prog 13 #[.agg #[.int .i64 3, .int .i64 u, .int .i64 y, .int .i64 x, .int .i64 q, .int .i64 s]] w fun e w' => e = .returned (.bool B) ∧ Below w.heap.size w w' := by
  have dl_user : decide (u < 0) = false := by simp; omega
  have du_user : decide ((8 : Int) ≤ u) = false := by simp; omega
  have N_key := Lib.hid (rnumb y true n_key)
  clear n_key
  have N_secret := Lib.hid (rnumb x true n_secret)
  clear n_secret
  have dl_quota : decide (q < 0) = false := by simp; omega
  have du_quota : decide ((1048576 : Int) < q) = false := by simp; omega
  have N_session := Lib.hid (rnumb s true n_session)
  clear n_session
  have HB := Lib.hid hB
  clear hB
  go_enter Tryd.func13, Tryd.ntmps13
  go_wp2_with (go_at_call 23; first | ((with_reducible refine (N_key.out _).mono ?_); rintro e w1 ⟨rfl, rfl⟩) | ((with_reducible refine (N_secret.out _).mono ?_); rintro e w1 ⟨rfl, rfl⟩) | ((with_reducible refine (N_session.out _).mono ?_); rintro e w1 ⟨rfl, rfl⟩))
  all_goals
    go_ret
    refine ⟨congrArg (fun b => Ending.returned (Value.bool b)) ?_, by repeat (first | exact Below.refl _ _ | refine Below.setCell ?_ (by simp) _ | refine Below.alloc ?_ (by simp) _)⟩
    first
      | exact (HB.out.1 (by simp [*])).symm
      | exact (HB.out.2 (by simp [*])).symm

set_option maxHeartbeats 4000000 in
theorem ramay_k4 (u y x q s : Int) (B : Bool) (w : World) (l_user : 0 ≤ u) (u_user : u ≤ 7) (n_key : okNum y = true) (n_secret : okNum x = true) (l_quota : 0 ≤ q) (u_quota : q ≤ 1048576) (n_session : okNum s = true) (hB : (u = 0 ∧ y = 0 ∧ x = 0 ∧ q = 0 → B = true) ∧ (¬ (u = 0 ∧ y = 0 ∧ x = 0 ∧ q = 0) → B = false)) :
    Calls Tryd.prog 13 #[.agg #[.int .i64 4, .int .i64 u, .int .i64 y, .int .i64 x, .int .i64 q, .int .i64 s]] w fun e w' => e = .returned (.bool B) ∧ Below w.heap.size w w' := by
  have dl_user : decide (u < 0) = false := by simp; omega
  have du_user : decide ((8 : Int) ≤ u) = false := by simp; omega
  have N_key := Lib.hid (rnumb y true n_key)
  clear n_key
  have N_secret := Lib.hid (rnumb x true n_secret)
  clear n_secret
  have dl_quota : decide (q < 0) = false := by simp; omega
  have du_quota : decide ((1048576 : Int) < q) = false := by simp; omega
  have N_session := Lib.hid (rnumb s true n_session)
  clear n_session
  have HB := Lib.hid hB
  clear hB
  go_enter Tryd.func13, Tryd.ntmps13
  go_wp2_with (go_at_call 23; first | ((with_reducible refine (N_key.out _).mono ?_); rintro e w1 ⟨rfl, rfl⟩) | ((with_reducible refine (N_secret.out _).mono ?_); rintro e w1 ⟨rfl, rfl⟩) | ((with_reducible refine (N_session.out _).mono ?_); rintro e w1 ⟨rfl, rfl⟩))
  all_goals
    go_ret
    refine ⟨congrArg (fun b => Ending.returned (Value.bool b)) ?_, by repeat (first | exact Below.refl _ _ | refine Below.setCell ?_ (by simp) _ | refine Below.alloc ?_ (by simp) _)⟩
    first
      | exact (HB.out.1 (by simp [*])).symm
      | exact (HB.out.2 (by simp [*])).symm

set_option maxHeartbeats 2000000 in
theorem ramay_else (k : Int) (u y x q s : Int) (w : World) (l_user : 0 ≤ u) (u_user : u ≤ 7) (n_key : okNum y = true) (n_secret : okNum x = true) (l_quota : 0 ≤ q) (u_quota : q ≤ 1048576) (n_session : okNum s = true) (h0 : k ≠ 0) (h1 : k ≠ 1) (h2 : k ≠ 2) (h3 : k ≠ 3) (h4 : k ≠ 4) :
    Calls Tryd.prog 13 #[.agg #[.int .i64 k, .int .i64 u, .int .i64 y, .int .i64 x, .int .i64 q, .int .i64 s]] w fun e w' => e = .returned (.bool false) ∧ Below w.heap.size w w' := by
  have dl_user : decide (u < 0) = false := by simp; omega
  have du_user : decide ((8 : Int) ≤ u) = false := by simp; omega
  have N_key := Lib.hid (rnumb y true n_key)
  clear n_key
  have N_secret := Lib.hid (rnumb x true n_secret)
  clear n_secret
  have dl_quota : decide (q < 0) = false := by simp; omega
  have du_quota : decide ((1048576 : Int) < q) = false := by simp; omega
  have N_session := Lib.hid (rnumb s true n_session)
  clear n_session
  have g0 : (k == 0) = false := by simpa using h0
  clear h0
  have g1 : (k == 1) = false := by simpa using h1
  clear h1
  have g2 : (k == 2) = false := by simpa using h2
  clear h2
  have g3 : (k == 3) = false := by simpa using h3
  clear h3
  have g4 : (k == 4) = false := by simpa using h4
  clear h4
  go_enter Tryd.func13, Tryd.ntmps13
  go_wp2_with (go_at_call 23; first | ((with_reducible refine (N_key.out _).mono ?_); rintro e w1 ⟨rfl, rfl⟩) | ((with_reducible refine (N_secret.out _).mono ?_); rintro e w1 ⟨rfl, rfl⟩) | ((with_reducible refine (N_session.out _).mono ?_); rintro e w1 ⟨rfl, rfl⟩))
  go_ret
  exact ⟨rfl, by repeat (first | exact Below.refl _ _ | refine Below.setCell ?_ (by simp) _ | refine Below.alloc ?_ (by simp) _)⟩

theorem ramay_rng {p : Ad} (h : p.rng = false) : p.may = false := by unfold Ad.may; rw [h]; rfl
set_option maxHeartbeats 2000000 in
theorem ramay (p : Ad) (w : World) : Calls Tryd.prog 13 #[p.val] w fun e w' => e = .returned (.bool p.may) ∧ Below w.heap.size w w' := by
  obtain ⟨k, u, y, x, q, s⟩ := p
  show Calls Tryd.prog 13 #[.agg #[.int .i64 k, .int .i64 u, .int .i64 y, .int .i64 x, .int .i64 q, .int .i64 s]] w _
  by_cases l_user : u < 0
  · rw [ramay_rng (by unfold Ad.rng; simp; omega)]; exact ramay_bad0 k u y x q s w l_user
  replace l_user : 0 ≤ u := by omega
  by_cases u_user : 7 < u
  · rw [ramay_rng (by unfold Ad.rng; simp; omega)]; exact ramay_bad1 k u y x q s w l_user u_user
  replace u_user : u ≤ 7 := by omega
  by_cases n_key : okNum y = false
  · rw [ramay_rng (by unfold Ad.rng; simp [n_key])]; exact ramay_bad2 k u y x q s w l_user u_user n_key
  replace n_key : okNum y = true := by simpa using n_key
  by_cases n_secret : okNum x = false
  · rw [ramay_rng (by unfold Ad.rng; simp [n_secret])]; exact ramay_bad3 k u y x q s w l_user u_user n_key n_secret
  replace n_secret : okNum x = true := by simpa using n_secret
  by_cases l_quota : q < 0
  · rw [ramay_rng (by unfold Ad.rng; simp; omega)]; exact ramay_bad4 k u y x q s w l_user u_user n_key n_secret l_quota
  replace l_quota : 0 ≤ q := by omega
  by_cases u_quota : 1048576 < q
  · rw [ramay_rng (by unfold Ad.rng; simp; omega)]; exact ramay_bad5 k u y x q s w l_user u_user n_key n_secret l_quota u_quota
  replace u_quota : q ≤ 1048576 := by omega
  by_cases n_session : okNum s = false
  · rw [ramay_rng (by unfold Ad.rng; simp [n_session])]; exact ramay_bad6 k u y x q s w l_user u_user n_key n_secret l_quota u_quota n_session
  replace n_session : okNum s = true := by simpa using n_session
  have hr : (Ad.mk k u y x q s).rng = true := (Ad.rng_iff _).2 ⟨l_user, u_user, l_quota, u_quota, n_key, n_secret, n_session⟩
  have hm : (Ad.mk k u y x q s).may = (decide ((Ad.mk k u y x q s).part = some (Ad.mk k u y x q s)) && (Ad.mk k u y x q s).lim) := by unfold Ad.may; rw [hr]; rfl
  rw [hm]
  by_cases h0 : k = 0
  · subst h0
    refine ramay_k0 u y x q s _ w l_user u_user n_key n_secret l_quota u_quota n_session ⟨?_, ?_⟩ <;> intro e <;> simp [Ad.part, Ad.lim] <;> grind
  by_cases h1 : k = 1
  · subst h1
    refine ramay_k1 u y x q s _ w l_user u_user n_key n_secret l_quota u_quota n_session ⟨?_, ?_⟩ <;> intro e <;> simp [Ad.part, Ad.lim] <;> grind
  by_cases h2 : k = 2
  · subst h2
    refine ramay_k2 u y x q s _ w l_user u_user n_key n_secret l_quota u_quota n_session ⟨?_, ?_⟩ <;> intro e <;> simp [Ad.part, Ad.lim] <;> grind
  by_cases h3 : k = 3
  · subst h3
    refine ramay_k3 u y x q s _ w l_user u_user n_key n_secret l_quota u_quota n_session ⟨?_, ?_⟩ <;> intro e <;> simp [Ad.part, Ad.lim] <;> grind
  by_cases h4 : k = 4
  · subst h4
    refine ramay_k4 u y x q s _ w l_user u_user n_key n_secret l_quota u_quota n_session ⟨?_, ?_⟩ <;> intro e <;> simp [Ad.part, Ad.lim] <;> grind
  have : (decide ((Ad.mk k u y x q s).part = some (Ad.mk k u y x q s)) && (Ad.mk k u y x q s).lim) = false := by simp [Ad.part, h0, h1, h2, h3, h4]
  rw [this]
  exact ramay_else k u y x q s w l_user u_user n_key n_secret l_quota u_quota n_session h0 h1 h2 h3 h4
end Go.Proofs.YtpleefloaoljfaaDoor
