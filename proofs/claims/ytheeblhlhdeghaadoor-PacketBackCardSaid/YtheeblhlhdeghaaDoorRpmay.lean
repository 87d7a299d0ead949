/- The reference's PacketMay answers as the plain words say. No condition. -/
import Derived.Test.YtheeblhlhdeghaaDoorPkt
import Derived.Test.YtheeblhlhdeghaaDoorReader
namespace Go.Proofs.YtheeblhlhdeghaaDoor
open Go Go.RowKit

theorem rnumb (x : Int) (b : Bool) (h : okNum x = b) (w : World) : Calls Tryd.prog 26 #[.int .i64 x] w fun e w' => e = .returned (.bool b) ∧ w' = w := by subst h; exact rnum0 x w

set_option maxHeartbeats 2000000 in
theorem rpmay_bad0 (k : Int) (u n h t c s q : Int) (d : ByteArray) (w : World)  (r_data : 64 < d.size) :
    Calls Tryd.prog 13 #[.agg #[.int .i64 k, .int .i64 u, .int .i64 n, .int .i64 h, .int .i64 t, .int .i64 c, .int .i64 s, .int .i64 q, .string d]] w fun e w' => e = .returned (.bool false) ∧ Below w.heap.size w w' := by
  have d_data : decide ((64 : Int) < (d.size : Int)) = true := by simp; omega
  go_enter Tryd.func13, Tryd.ntmps13
  go_wp2_with fail
  go_ret
  exact ⟨rfl, by repeat (first | exact Below.refl _ _ | refine Below.setCell ?_ (by simp) _ | refine Below.alloc ?_ (by simp) _)⟩

set_option maxHeartbeats 2000000 in
theorem rpmay_bad1 (k : Int) (u n h t c s q : Int) (d : ByteArray) (w : World) (r_data : d.size ≤ 64) (r_lo : q < 0) :
    Calls Tryd.prog 13 #[.agg #[.int .i64 k, .int .i64 u, .int .i64 n, .int .i64 h, .int .i64 t, .int .i64 c, .int .i64 s, .int .i64 q, .string d]] w fun e w' => e = .returned (.bool false) ∧ Below w.heap.size w w' := by
  have d_data : decide ((64 : Int) < (d.size : Int)) = false := by simp; omega
  have d_lo : decide (q < 0) = true := by simp; omega
  go_enter Tryd.func13, Tryd.ntmps13
  go_wp2_with fail
  go_ret
  exact ⟨rfl, by repeat (first | exact Below.refl _ _ | refine Below.setCell ?_ (by simp) _ | refine Below.alloc ?_ (by simp) _)⟩

set_option maxHeartbeats 2000000 in
theorem rpmay_bad2 (k : Int) (u n h t c s q : Int) (d : ByteArray) (w : World) (r_data : d.size ≤ 64) (r_lo : 0 ≤ q) (r_hi : 1048575 < q) :
    Calls Tryd.prog 13 #[.agg #[.int .i64 k, .int .i64 u, .int .i64 n, .int .i64 h, .int .i64 t, .int .i64 c, .int .i64 s, .int .i64 q, .string d]] w fun e w' => e = .returned (.bool false) ∧ Below w.heap.size w w' := by
  have d_data : decide ((64 : Int) < (d.size : Int)) = false := by simp; omega
  have d_lo : decide (q < 0) = false := by simp; omega
  have d_hi : decide ((1048575 : Int) < q) = true := by simp; omega
  go_enter Tryd.func13, Tryd.ntmps13
  go_wp2_with fail
  go_ret
  exact ⟨rfl, by repeat (first | exact Below.refl _ _ | refine Below.setCell ?_ (by simp) _ | refine Below.alloc ?_ (by simp) _)⟩

set_option maxHeartbeats 2000000 in
theorem rpmay_bad3 (k : Int) (u n h t c s q : Int) (d : ByteArray) (w : World) (r_data : d.size ≤ 64) (r_lo : 0 ≤ q) (r_hi : q ≤ 1048575) (n_user : okNum u = false) :
    Calls Tryd.prog 13 #[.agg #[.int .i64 k, .int .i64 u, .int .i64 n, .int .i64 h, .int .i64 t, .int .i64 c, .int .i64 s, .int .i64 q, .string d]] w fun e w' => e = .returned (.bool false) ∧ Below w.heap.size w w' := by
  have d_data : decide ((64 : Int) < (d.size : Int)) = false := by simp; omega
  have d_lo : decide (q < 0) = false := by simp; omega
  have d_hi : decide ((1048575 : Int) < q) = false := by simp; omega
  have N_user := Lib.hid (rnumb u false n_user)
  clear n_user
  go_enter Tryd.func13, Tryd.ntmps13
  go_wp2_with (go_at_call 26; ((with_reducible refine (N_user.out _).mono ?_); rintro e w1 ⟨rfl, rfl⟩))
  go_ret
  exact ⟨rfl, by repeat (first | exact Below.refl _ _ | refine Below.setCell ?_ (by simp) _ | refine Below.alloc ?_ (by simp) _)⟩

set_option maxHeartbeats 2000000 in
theorem rpmay_bad4 (k : Int) (u n h t c s q : Int) (d : ByteArray) (w : World) (r_data : d.size ≤ 64) (r_lo : 0 ≤ q) (r_hi : q ≤ 1048575) (n_user : okNum u = true) (n_nonce : okNum n = false) :
    Calls Tryd.prog 13 #[.agg #[.int .i64 k, .int .i64 u, .int .i64 n, .int .i64 h, .int .i64 t, .int .i64 c, .int .i64 s, .int .i64 q, .string d]] w fun e w' => e = .returned (.bool false) ∧ Below w.heap.size w w' := by
  have d_data : decide ((64 : Int) < (d.size : Int)) = false := by simp; omega
  have d_lo : decide (q < 0) = false := by simp; omega
  have d_hi : decide ((1048575 : Int) < q) = false := by simp; omega
  have N_user := Lib.hid (rnumb u true n_user)
  clear n_user
  have N_nonce := Lib.hid (rnumb n false n_nonce)
  clear n_nonce
  go_enter Tryd.func13, Tryd.ntmps13
  go_wp2_with (go_at_call 26; first | ((with_reducible refine (N_user.out _).mono ?_); rintro e w1 ⟨rfl, rfl⟩) | ((with_reducible refine (N_nonce.out _).mono ?_); rintro e w1 ⟨rfl, rfl⟩))
  go_ret
  exact ⟨rfl, by repeat (first | exact Below.refl _ _ | refine Below.setCell ?_ (by simp) _ | refine Below.alloc ?_ (by simp) _)⟩

set_option maxHeartbeats 2000000 in
theorem rpmay_bad5 (k : Int) (u n h t c s q : Int) (d : ByteArray) (w : World) (r_data : d.size ≤ 64) (r_lo : 0 ≤ q) (r_hi : q ≤ 1048575) (n_user : okNum u = true) (n_nonce : okNum n = true) (n_half : okNum h = false) :
    Calls Tryd.prog 13 #[.agg #[.int .i64 k, .int .i64 u, .int .i64 n, .int .i64 h, .int .i64 t, .int .i64 c, .int .i64 s, .int .i64 q, .string d]] w fun e w' => e = .returned (.bool false) ∧ Below w.heap.size w w' := by
  have d_data : decide ((64 : Int) < (d.size : Int)) = false := by simp; omega
  have d_lo : decide (q < 0) = false := by simp; omega
  have d_hi : decide ((1048575 : Int) < q) = false := by simp; omega
  have N_user := Lib.hid (rnumb u true n_user)
  clear n_user
  have N_nonce := Lib.hid (rnumb n true n_nonce)
  clear n_nonce
  have N_half := Lib.hid (rnumb h false n_half)
  clear n_half
  go_enter Tryd.func13, Tryd.ntmps13
  go_wp2_with (go_at_call 26; first | ((with_reducible refine (N_user.out _).mono ?_); rintro e w1 ⟨rfl, rfl⟩) | ((with_reducible refine (N_nonce.out _).mono ?_); rintro e w1 ⟨rfl, rfl⟩) | ((with_reducible refine (N_half.out _).mono ?_); rintro e w1 ⟨rfl, rfl⟩))
  go_ret
  exact ⟨rfl, by repeat (first | exact Below.refl _ _ | refine Below.setCell ?_ (by simp) _ | refine Below.alloc ?_ (by simp) _)⟩

set_option maxHeartbeats 2000000 in
theorem rpmay_bad6 (k : Int) (u n h t c s q : Int) (d : ByteArray) (w : World) (r_data : d.size ≤ 64) (r_lo : 0 ≤ q) (r_hi : q ≤ 1048575) (n_user : okNum u = true) (n_nonce : okNum n = true) (n_half : okNum h = true) (n_tag : okNum t = false) :
    Calls Tryd.prog 13 #[.agg #[.int .i64 k, .int .i64 u, .int .i64 n, .int .i64 h, .int .i64 t, .int .i64 c, .int .i64 s, .int .i64 q, .string d]] w fun e w' => e = .returned (.bool false) ∧ Below w.heap.size w w' := by
  have d_data : decide ((64 : Int) < (d.size : Int)) = false := by simp; omega
  have d_lo : decide (q < 0) = false := by simp; omega
  have d_hi : decide ((1048575 : Int) < q) = false := by simp; omega
  have N_user := Lib.hid (rnumb u true n_user)
  clear n_user
  have N_nonce := Lib.hid (rnumb n true n_nonce)
  clear n_nonce
  have N_half := Lib.hid (rnumb h true n_half)
  clear n_half
  have N_tag := Lib.hid (rnumb t false n_tag)
  clear n_tag
  go_enter Tryd.func13, Tryd.ntmps13
  go_wp2_with (go_at_call 26; first | ((with_reducible refine (N_user.out _).mono ?_); rintro e w1 ⟨rfl, rfl⟩) | ((with_reducible refine (N_nonce.out _).mono ?_); rintro e w1 ⟨rfl, rfl⟩) | ((with_reducible refine (N_half.out _).mono ?_); rintro e w1 ⟨rfl, rfl⟩) | ((with_reducible refine (N_tag.out _).mono ?_); rintro e w1 ⟨rfl, rfl⟩))
  go_ret
  exact ⟨rfl, by repeat (first | exact Below.refl _ _ | refine Below.setCell ?_ (by simp) _ | refine Below.alloc ?_ (by simp) _)⟩

set_option maxHeartbeats 2000000 in
theorem rpmay_bad7 (k : Int) (u n h t c s q : Int) (d : ByteArray) (w : World) (r_data : d.size ≤ 64) (r_lo : 0 ≤ q) (r_hi : q ≤ 1048575) (n_user : okNum u = true) (n_nonce : okNum n = true) (n_half : okNum h = true) (n_tag : okNum t = true) (n_code : okNum c = false) :
    Calls Tryd.prog 13 #[.agg #[.int .i64 k, .int .i64 u, .int .i64 n, .int .i64 h, .int .i64 t, .int .i64 c, .int .i64 s, .int .i64 q, .string d]] w fun e w' => e = .returned (.bool false) ∧ Below w.heap.size w w' := by
  have d_data : decide ((64 : Int) < (d.size : Int)) = false := by simp; omega
  have d_lo : decide (q < 0) = false := by simp; omega
  have d_hi : decide ((1048575 : Int) < q) = false := by simp; omega
  have N_user := Lib.hid (rnumb u true n_user)
  clear n_user
  have N_nonce := Lib.hid (rnumb n true n_nonce)
  clear n_nonce
  have N_half := Lib.hid (rnumb h true n_half)
  clear n_half
  have N_tag := Lib.hid (rnumb t true n_tag)
  clear n_tag
  have N_code := Lib.hid (rnumb c false n_code)
  clear n_code
  go_enter Tryd.func13, Tryd.ntmps13
  go_wp2_with (go_at_call 26; first | ((with_reducible refine (N_user.out _).mono ?_); rintro e w1 ⟨rfl, rfl⟩) | ((with_reducible refine (N_nonce.out _).mono ?_); rintro e w1 ⟨rfl, rfl⟩) | ((with_reducible refine (N_half.out _).mono ?_); rintro e w1 ⟨rfl, rfl⟩) | ((with_reducible refine (N_tag.out _).mono ?_); rintro e w1 ⟨rfl, rfl⟩) | ((with_reducible refine (N_code.out _).mono ?_); rintro e w1 ⟨rfl, rfl⟩))
  go_ret
  exact ⟨rfl, by repeat (first | exact Below.refl _ _ | refine Below.setCell ?_ (by simp) _ | refine Below.alloc ?_ (by simp) _)⟩

set_option maxHeartbeats 2000000 in
theorem rpmay_bad8 (k : Int) (u n h t c s q : Int) (d : ByteArray) (w : World) (r_data : d.size ≤ 64) (r_lo : 0 ≤ q) (r_hi : q ≤ 1048575) (n_user : okNum u = true) (n_nonce : okNum n = true) (n_half : okNum h = true) (n_tag : okNum t = true) (n_code : okNum c = true) (n_session : okNum s = false) :
    Calls Tryd.prog 13 #[.agg #[.int .i64 k, .int .i64 u, .int .i64 n, .int .i64 h, .int .i64 t, .int .i64 c, .int .i64 s, .int .i64 q, .string d]] w fun e w' => e = .returned (.bool false) ∧ Below w.heap.size w w' := by
  have d_data : decide ((64 : Int) < (d.size : Int)) = false := by simp; omega
  have d_lo : decide (q < 0) = false := by simp; omega
  have d_hi : decide ((1048575 : Int) < q) = false := by simp; omega
  have N_user := Lib.hid (rnumb u true n_user)
  clear n_user
  have N_nonce := Lib.hid (rnumb n true n_nonce)
  clear n_nonce
  have N_half := Lib.hid (rnumb h true n_half)
  clear n_half
  have N_tag := Lib.hid (rnumb t true n_tag)
  clear n_tag
  have N_code := Lib.hid (rnumb c true n_code)
  clear n_code
  have N_session := Lib.hid (rnumb s false n_session)
  clear n_session
  go_enter Tryd.func13, Tryd.ntmps13
  go_wp2_with (go_at_call 26; first | ((with_reducible refine (N_user.out _).mono ?_); rintro e w1 ⟨rfl, rfl⟩) | ((with_reducible refine (N_nonce.out _).mono ?_); rintro e w1 ⟨rfl, rfl⟩) | ((with_reducible refine (N_half.out _).mono ?_); rintro e w1 ⟨rfl, rfl⟩) | ((with_reducible refine (N_tag.out _).mono ?_); rintro e w1 ⟨rfl, rfl⟩) | ((with_reducible refine (N_code.out _).mono ?_); rintro e w1 ⟨rfl, rfl⟩) | ((with_reducible refine (N_session.out _).mono ?_); rintro e w1 ⟨rfl, rfl⟩))
  go_ret
  exact ⟨rfl, by repeat (first | exact Below.refl _ _ | refine Below.setCell ?_ (by simp) _ | refine Below.alloc ?_ (by simp) _)⟩

set_option maxHeartbeats 4000000 in
theorem rpmay_k0 (u n h t c s q : Int) (d : ByteArray) (B : Bool) (w : World) (r_data : d.size ≤ 64) (r_lo : 0 ≤ q) (r_hi : q ≤ 1048575) (n_user : okNum u = true) (n_nonce : okNum n = true) (n_half : okNum h = true) (n_tag : okNum t = true) (n_code : okNum c = true) (n_session : okNum s = true) (hB : (h = 0 ∧ t = 0 ∧ c = 0 ∧ s = 0 ∧ q = 0 ∧ d.toList = [] → B = true) ∧ (¬ (h = 0 ∧ t = 0 ∧ c = 0 ∧ s = 0 ∧ q = 0 ∧ d.toList = []) → B = false)) :
    Calls Tryd.prog 13 #[.agg #[.int .i64 0, .int .i64 u, .int .i64 n, .int .i64 h, .int .i64 t, .int .i64 c, .int .i64 s, .int .i64 q, .string d]] w fun e w' => e = .returned (.bool B) ∧ Below w.heap.size w w' := by
  have d_data : decide ((64 : Int) < (d.size : Int)) = false := by simp; omega
  have d_lo : decide (q < 0) = false := by simp; omega
  have d_hi : decide ((1048575 : Int) < q) = false := by simp; omega
  have N_user := Lib.hid (rnumb u true n_user)
  clear n_user
  have N_nonce := Lib.hid (rnumb n true n_nonce)
  clear n_nonce
  have N_half := Lib.hid (rnumb h true n_half)
  clear n_half
  have N_tag := Lib.hid (rnumb t true n_tag)
  clear n_tag
  have N_code := Lib.hid (rnumb c true n_code)
  clear n_code
  have N_session := Lib.hid (rnumb s true n_session)
  clear n_session
  have HB := Lib.hid hB
  clear hB
  go_enter Tryd.func13, Tryd.ntmps13
  go_wp2_with (go_at_call 26; first | ((with_reducible refine (N_user.out _).mono ?_); rintro e w1 ⟨rfl, rfl⟩) | ((with_reducible refine (N_nonce.out _).mono ?_); rintro e w1 ⟨rfl, rfl⟩) | ((with_reducible refine (N_half.out _).mono ?_); rintro e w1 ⟨rfl, rfl⟩) | ((with_reducible refine (N_tag.out _).mono ?_); rintro e w1 ⟨rfl, rfl⟩) | ((with_reducible refine (N_code.out _).mono ?_); rintro e w1 ⟨rfl, rfl⟩) | ((with_reducible refine (N_session.out _).mono ?_); rintro e w1 ⟨rfl, rfl⟩))
  all_goals
    go_ret
    refine ⟨congrArg (fun b => Ending.returned (Value.bool b)) ?_, by repeat (first | exact Below.refl _ _ | refine Below.setCell ?_ (by simp) _ | refine Below.alloc ?_ (by simp) _)⟩
    first
      | exact (HB.out.1 (by simp [*])).symm
      | exact (HB.out.2 (by simp [*])).symm

set_option maxHeartbeats 4000000 in
theorem rpmay_k1 (u n h t c s q : Int) (d : ByteArray) (B : Bool) (w : World) (r_data : d.size ≤ 64) (r_lo : 0 ≤ q) (r_hi : q ≤ 1048575) (n_user : okNum u = true) (n_nonce : okNum n = true) (n_half : okNum h = true) (n_tag : okNum t = true) (n_code : okNum c = true) (n_session : okNum s = true) (hB : (u = 0 ∧ n = 0 ∧ s = 0 ∧ q = 0 ∧ d.toList = [] → B = true) ∧ (¬ (u = 0 ∧ n = 0 ∧ s = 0 ∧ q = 0 ∧ d.toList = []) → B = false)) :
    Calls Tryd.prog 13 #[.agg #[.int .i64 1, .int .i64 u, .int .i64 n, .int .i64 h, .int .i64 t, .int .i64 c, .int .i64 s, .int .i64 q, .string d]] w fun e w' => e = .returned (.bool B) ∧ Below w.heap.size w w' := by
  have d_data : decide ((64 : Int) < (d.size : Int)) = false := by simp; omega
  have d_lo : decide (q < 0) = false := by simp; omega
  have d_hi : decide ((1048575 : Int) < q) = false := by simp; omega
  have N_user := Lib.hid (rnumb u true n_user)
  clear n_user
  have N_nonce := Lib.hid (rnumb n true n_nonce)
  clear n_nonce
  have N_half := Lib.hid (rnumb h true n_half)
  clear n_half
  have N_tag := Lib.hid (rnumb t true n_tag)
  clear n_tag
  have N_code := Lib.hid (rnumb c true n_code)
  clear n_code
  have N_session := Lib.hid (rnumb s true n_session)
  clear n_session
  have HB := Lib.hid hB
  clear hB
  go_enter Tryd.func13, Tryd.ntmps13
  go_wp2_with (go_at_call 26; first | ((with_reducible refine (N_user.out _).mono ?_); rintro e w1 ⟨rfl, rfl⟩) | ((with_reducible refine (N_nonce.out _).mono ?_); rintro e w1 ⟨rfl, rfl⟩) | ((with_reducible refine (N_half.out _).mono ?_); rintro e w1 ⟨rfl, rfl⟩) | ((with_reducible refine (N_tag.out _).mono ?_); rintro e w1 ⟨rfl, rfl⟩) | ((with_reducible refine (N_code.out _).mono ?_); rintro e w1 ⟨rfl, rfl⟩) | ((with_reducible refine (N_session.out _).mono ?_); rintro e w1 ⟨rfl, rfl⟩))
  all_goals
    go_ret
    refine ⟨congrArg (fun b => Ending.returned (Value.bool b)) ?_, by repeat (first | exact Below.refl _ _ | refine Below.setCell ?_ (by simp) _ | refine Below.alloc ?_ (by simp) _)⟩
    first
      | exact (HB.out.1 (by simp [*])).symm
      | exact (HB.out.2 (by simp [*])).symm

set_option maxHeartbeats 4000000 in
theorem rpmay_k2 (u n h t c s q : Int) (d : ByteArray) (B : Bool) (w : World) (r_data : d.size ≤ 64) (r_lo : 0 ≤ q) (r_hi : q ≤ 1048575) (n_user : okNum u = true) (n_nonce : okNum n = true) (n_half : okNum h = true) (n_tag : okNum t = true) (n_code : okNum c = true) (n_session : okNum s = true) (hB : (u = 0 ∧ h = 0 ∧ s = 0 ∧ q = 0 ∧ d.toList = [] → B = true) ∧ (¬ (u = 0 ∧ h = 0 ∧ s = 0 ∧ q = 0 ∧ d.toList = []) → B = false)) :
    Calls Tryd.prog 13 #[.agg #[.int .i64 2, .int .i64 u, .int .i64 n, .int .i64 h, .int .i64 t, .int .i64 c, .int .i64 s, .int .i64 q, .string d]] w fun e w' => e = .returned (.bool B) ∧ Below w.heap.size w w' := by
  have d_data : decide ((64 : Int) < (d.size : Int)) = false := by simp; omega
  have d_lo : decide (q < 0) = false := by simp; omega
  have d_hi : decide ((1048575 : Int) < q) = false := by simp; omega
  have N_user := Lib.hid (rnumb u true n_user)
  clear n_user
  have N_nonce := Lib.hid (rnumb n true n_nonce)
  clear n_nonce
  have N_half := Lib.hid (rnumb h true n_half)
  clear n_half
  have N_tag := Lib.hid (rnumb t true n_tag)
  clear n_tag
  have N_code := Lib.hid (rnumb c true n_code)
  clear n_code
  have N_session := Lib.hid (rnumb s true n_session)
  clear n_session
  have HB := Lib.hid hB
  clear hB
  go_enter Tryd.func13, Tryd.ntmps13
  go_wp2_with (go_at_call 26; first | ((with_reducible refine (N_user.out _).mono ?_); rintro e w1 ⟨rfl, rfl⟩) | ((with_reducible refine (N_nonce.out _).mono ?_); rintro e w1 ⟨rfl, rfl⟩) | ((with_reducible refine (N_half.out _).mono ?_); rintro e w1 ⟨rfl, rfl⟩) | ((with_reducible refine (N_tag.out _).mono ?_); rintro e w1 ⟨rfl, rfl⟩) | ((with_reducible refine (N_code.out _).mono ?_); rintro e w1 ⟨rfl, rfl⟩) | ((with_reducible refine (N_session.out _).mono ?_); rintro e w1 ⟨rfl, rfl⟩))
  all_goals
    go_ret
    refine ⟨congrArg (fun b => Ending.returned (Value.bool b)) ?_, by repeat (first | exact Below.refl _ _ | refine Below.setCell ?_ (by simp) _ | refine Below.alloc ?_ (by simp) _)⟩
    first
      | exact (HB.out.1 (by simp [*])).symm
      | exact (HB.out.2 (by simp [*])).symm

set_option maxHeartbeats 4000000 in
theorem rpmay_k3 (u n h t c s q : Int) (d : ByteArray) (B : Bool) (w : World) (r_data : d.size ≤ 64) (r_lo : 0 ≤ q) (r_hi : q ≤ 1048575) (n_user : okNum u = true) (n_nonce : okNum n = true) (n_half : okNum h = true) (n_tag : okNum t = true) (n_code : okNum c = true) (n_session : okNum s = true) (hB : (u = 0 ∧ n = 0 ∧ h = 0 ∧ c = 0 → B = true) ∧ (¬ (u = 0 ∧ n = 0 ∧ h = 0 ∧ c = 0) → B = false)) :
    Calls Tryd.prog 13 #[.agg #[.int .i64 3, .int .i64 u, .int .i64 n, .int .i64 h, .int .i64 t, .int .i64 c, .int .i64 s, .int .i64 q, .string d]] w fun e w' => e = .returned (.bool B) ∧ Below w.heap.size w w' := by
  have d_data : decide ((64 : Int) < (d.size : Int)) = false := by simp; omega
  have d_lo : decide (q < 0) = false := by simp; omega
  have d_hi : decide ((1048575 : Int) < q) = false := by simp; omega
  have N_user := Lib.hid (rnumb u true n_user)
  clear n_user
  have N_nonce := Lib.hid (rnumb n true n_nonce)
  clear n_nonce
  have N_half := Lib.hid (rnumb h true n_half)
  clear n_half
  have N_tag := Lib.hid (rnumb t true n_tag)
  clear n_tag
  have N_code := Lib.hid (rnumb c true n_code)
  clear n_code
  have N_session := Lib.hid (rnumb s true n_session)
  clear n_session
  have HB := Lib.hid hB
  clear hB
  go_enter Tryd.func13, Tryd.ntmps13
  go_wp2_with (go_at_call 26; first | ((with_reducible refine (N_user.out _).mono ?_); rintro e w1 ⟨rfl, rfl⟩) | ((with_reducible refine (N_nonce.out _).mono ?_); rintro e w1 ⟨rfl, rfl⟩) | ((with_reducible refine (N_half.out _).mono ?_); rintro e w1 ⟨rfl, rfl⟩) | ((with_reducible refine (N_tag.out _).mono ?_); rintro e w1 ⟨rfl, rfl⟩) | ((with_reducible refine (N_code.out _).mono ?_); rintro e w1 ⟨rfl, rfl⟩) | ((with_reducible refine (N_session.out _).mono ?_); rintro e w1 ⟨rfl, rfl⟩))
  all_goals
    go_ret
    refine ⟨congrArg (fun b => Ending.returned (Value.bool b)) ?_, by repeat (first | exact Below.refl _ _ | refine Below.setCell ?_ (by simp) _ | refine Below.alloc ?_ (by simp) _)⟩
    first
      | exact (HB.out.1 (by simp [*])).symm
      | exact (HB.out.2 (by simp [*])).symm

set_option maxHeartbeats 4000000 in
theorem rpmay_k4 (u n h t c s q : Int) (d : ByteArray) (B : Bool) (w : World) (r_data : d.size ≤ 64) (r_lo : 0 ≤ q) (r_hi : q ≤ 1048575) (n_user : okNum u = true) (n_nonce : okNum n = true) (n_half : okNum h = true) (n_tag : okNum t = true) (n_code : okNum c = true) (n_session : okNum s = true) (hB : (u = 0 ∧ n = 0 ∧ h = 0 ∧ c = 0 ∧ q = 0 ∧ d.toList = [] → B = true) ∧ (¬ (u = 0 ∧ n = 0 ∧ h = 0 ∧ c = 0 ∧ q = 0 ∧ d.toList = []) → B = false)) :
    Calls Tryd.prog 13 #[.agg #[.int .i64 4, .int .i64 u, .int .i64 n, .int .i64 h, .int .i64 t, .int .i64 c, .int .i64 s, .int .i64 q, .string d]] w fun e w' => e = .returned (.bool B) ∧ Below w.heap.size w w' := by
  have d_data : decide ((64 : Int) < (d.size : Int)) = false := by simp; omega
  have d_lo : decide (q < 0) = false := by simp; omega
  have d_hi : decide ((1048575 : Int) < q) = false := by simp; omega
  have N_user := Lib.hid (rnumb u true n_user)
  clear n_user
  have N_nonce := Lib.hid (rnumb n true n_nonce)
  clear n_nonce
  have N_half := Lib.hid (rnumb h true n_half)
  clear n_half
  have N_tag := Lib.hid (rnumb t true n_tag)
  clear n_tag
  have N_code := Lib.hid (rnumb c true n_code)
  clear n_code
  have N_session := Lib.hid (rnumb s true n_session)
  clear n_session
  have HB := Lib.hid hB
  clear hB
  go_enter Tryd.func13, Tryd.ntmps13
  go_wp2_with (go_at_call 26; first | ((with_reducible refine (N_user.out _).mono ?_); rintro e w1 ⟨rfl, rfl⟩) | ((with_reducible refine (N_nonce.out _).mono ?_); rintro e w1 ⟨rfl, rfl⟩) | ((with_reducible refine (N_half.out _).mono ?_); rintro e w1 ⟨rfl, rfl⟩) | ((with_reducible refine (N_tag.out _).mono ?_); rintro e w1 ⟨rfl, rfl⟩) | ((with_reducible refine (N_code.out _).mono ?_); rintro e w1 ⟨rfl, rfl⟩) | ((with_reducible refine (N_session.out _).mono ?_); rintro e w1 ⟨rfl, rfl⟩))
  all_goals
    go_ret
    refine ⟨congrArg (fun b => Ending.returned (Value.bool b)) ?_, by repeat (first | exact Below.refl _ _ | refine Below.setCell ?_ (by simp) _ | refine Below.alloc ?_ (by simp) _)⟩
    first
      | exact (HB.out.1 (by simp [*])).symm
      | exact (HB.out.2 (by simp [*])).symm

set_option maxHeartbeats 2000000 in
theorem rpmay_else (k : Int) (u n h t c s q : Int) (d : ByteArray) (w : World) (r_data : d.size ≤ 64) (r_lo : 0 ≤ q) (r_hi : q ≤ 1048575) (n_user : okNum u = true) (n_nonce : okNum n = true) (n_half : okNum h = true) (n_tag : okNum t = true) (n_code : okNum c = true) (n_session : okNum s = true) (h0 : k ≠ 0) (h1 : k ≠ 1) (h2 : k ≠ 2) (h3 : k ≠ 3) (h4 : k ≠ 4) :
    Calls Tryd.prog 13 #[.agg #[.int .i64 k, .int .i64 u, .int .i64 n, .int .i64 h, .int .i64 t, .int .i64 c, .int .i64 s, .int .i64 q, .string d]] w fun e w' => e = .returned (.bool false) ∧ Below w.heap.size w w' := by
  have d_data : decide ((64 : Int) < (d.size : Int)) = false := by simp; omega
  have d_lo : decide (q < 0) = false := by simp; omega
  have d_hi : decide ((1048575 : Int) < q) = false := by simp; omega
  have N_user := Lib.hid (rnumb u true n_user)
  clear n_user
  have N_nonce := Lib.hid (rnumb n true n_nonce)
  clear n_nonce
  have N_half := Lib.hid (rnumb h true n_half)
  clear n_half
  have N_tag := Lib.hid (rnumb t true n_tag)
  clear n_tag
  have N_code := Lib.hid (rnumb c true n_code)
  clear n_code
  have N_session := Lib.hid (rnumb s true n_session)
  clear n_session
  have g0 : (k == 0) = false := by simpa using h0
  clear h0
  have g1 : (k == 1) = false := by simpa using h1
  clear h1
  have g2 : (k == 2) = false := by simpa using h2
  clear h2
  have g3 : (k == 3) = false := by simpa using h3
  clear h3
  have g4 : (k == 4) = false := by simpa using h4
  clear h4
  go_enter Tryd.func13, Tryd.ntmps13
  go_wp2_with (go_at_call 26; first | ((with_reducible refine (N_user.out _).mono ?_); rintro e w1 ⟨rfl, rfl⟩) | ((with_reducible refine (N_nonce.out _).mono ?_); rintro e w1 ⟨rfl, rfl⟩) | ((with_reducible refine (N_half.out _).mono ?_); rintro e w1 ⟨rfl, rfl⟩) | ((with_reducible refine (N_tag.out _).mono ?_); rintro e w1 ⟨rfl, rfl⟩) | ((with_reducible refine (N_code.out _).mono ?_); rintro e w1 ⟨rfl, rfl⟩) | ((with_reducible refine (N_session.out _).mono ?_); rintro e w1 ⟨rfl, rfl⟩))
  go_ret
  exact ⟨rfl, by repeat (first | exact Below.refl _ _ | refine Below.setCell ?_ (by simp) _ | refine Below.alloc ?_ (by simp) _)⟩
end Go.Proofs.YtheeblhlhdeghaaDoor
