/- The reference's PacketMay answers as the plain words say. No condition. -/
import Derived.Test.YthbnkejjipiaaaaDoorPkt
import Derived.Test.YthbnkejjipiaaaaDoorRefkit
namespace Go.Proofs.YthbnkejjipiaaaaDoor
open Go Go.RowKit

set_option maxHeartbeats 2000000 in
theorem rpmay_bad0 (k : Int) (u n h t c s q : Int) (d : ByteArray) (w : World)  (r_data : 64 < d.size) :
    Calls Tryd.prog 17 #[.agg #[.int .i64 k, .int .i64 u, .int .i64 n, .int .i64 h, .int .i64 t, .int .i64 c, .int .i64 s, .int .i64 q, .string d]] w fun e w' => e = .returned (.bool false) ∧ Below w.heap.size w w' := by
  have d_data : decide ((64 : Int) < (d.size : Int)) = true := by simp; omega
  go_enter Tryd.func17, Tryd.ntmps17
  go_wp2_with fail
  go_ret
  exact ⟨rfl, by repeat (first | exact Below.refl _ _ | refine Below.setCell ?_ (by simp) _ | refine Below.alloc ?_ (by simp) _)⟩

set_option maxHeartbeats 2000000 in
theorem rpmay_bad1 (k : Int) (u n h t c s q : Int) (d : ByteArray) (w : World) (r_data : d.size ≤ 64) (l_seq : q < 0) :
    Calls Tryd.prog 17 #[.agg #[.int .i64 k, .int .i64 u, .int .i64 n, .int .i64 h, .int .i64 t, .int .i64 c, .int .i64 s, .int .i64 q, .string d]] w fun e w' => e = .returned (.bool false) ∧ Below w.heap.size w w' := by
  have d_data : decide ((64 : Int) < (d.size : Int)) = false := by simp; omega
  have dl_seq : decide (q < 0) = true := by simp; omega
  go_enter Tryd.func17, Tryd.ntmps17
  go_wp2_with fail
  go_ret
  exact ⟨rfl, by repeat (first | exact Below.refl _ _ | refine Below.setCell ?_ (by simp) _ | refine Below.alloc ?_ (by simp) _)⟩

set_option maxHeartbeats 2000000 in
theorem rpmay_bad2 (k : Int) (u n h t c s q : Int) (d : ByteArray) (w : World) (r_data : d.size ≤ 64) (l_seq : 0 ≤ q) (u_seq : 1048575 < q) :
    Calls Tryd.prog 17 #[.agg #[.int .i64 k, .int .i64 u, .int .i64 n, .int .i64 h, .int .i64 t, .int .i64 c, .int .i64 s, .int .i64 q, .string d]] w fun e w' => e = .returned (.bool false) ∧ Below w.heap.size w w' := by
  have d_data : decide ((64 : Int) < (d.size : Int)) = false := by simp; omega
  have dl_seq : decide (q < 0) = false := by simp; omega
  have du_seq : decide ((1048575 : Int) < q) = true := by simp; omega
  go_enter Tryd.func17, Tryd.ntmps17
  go_wp2_with fail
  go_ret
  exact ⟨rfl, by repeat (first | exact Below.refl _ _ | refine Below.setCell ?_ (by simp) _ | refine Below.alloc ?_ (by simp) _)⟩

set_option maxHeartbeats 2000000 in
theorem rpmay_bad3 (k : Int) (u n h t c s q : Int) (d : ByteArray) (w : World) (r_data : d.size ≤ 64) (l_seq : 0 ≤ q) (u_seq : q ≤ 1048575) (n_user : okNum u = false) :
    Calls Tryd.prog 17 #[.agg #[.int .i64 k, .int .i64 u, .int .i64 n, .int .i64 h, .int .i64 t, .int .i64 c, .int .i64 s, .int .i64 q, .string d]] w fun e w' => e = .returned (.bool false) ∧ Below w.heap.size w w' := by
  have d_data : decide ((64 : Int) < (d.size : Int)) = false := by simp; omega
  have dl_seq : decide (q < 0) = false := by simp; omega
  have du_seq : decide ((1048575 : Int) < q) = false := by simp; omega
  have N_user := Lib.hid (rnumb u false n_user)
  clear n_user
  go_enter Tryd.func17, Tryd.ntmps17
  go_wp2_with (go_at_call 38; ((with_reducible refine (N_user.out _).mono ?_); rintro e w1 ⟨rfl, rfl⟩))
  go_ret
  exact ⟨rfl, by repeat (first | exact Below.refl _ _ | refine Below.setCell ?_ (by simp) _ | refine Below.alloc ?_ (by simp) _)⟩

set_option maxHeartbeats 2000000 in
theorem rpmay_bad4 (k : Int) (u n h t c s q : Int) (d : ByteArray) (w : World) (r_data : d.size ≤ 64) (l_seq : 0 ≤ q) (u_seq : q ≤ 1048575) (n_user : okNum u = true) (n_nonce : okNum n = false) :
    Calls Tryd.prog 17 #[.agg #[.int .i64 k, .int .i64 u, .int .i64 n, .int .i64 h, .int .i64 t, .int .i64 c, .int .i64 s, .int .i64 q, .string d]] w fun e w' => e = .returned (.bool false) ∧ Below w.heap.size w w' := by
  have d_data : decide ((64 : Int) < (d.size : Int)) = false := by simp; omega
  have dl_seq : decide (q < 0) = false := by simp; omega
  have du_seq : decide ((1048575 : Int) < q) = false := by simp; omega
  have N_user := Lib.hid (rnumb u true n_user)
  clear n_user
  have N_nonce := Lib.hid (rnumb n false n_nonce)
  clear n_nonce
  go_enter Tryd.func17, Tryd.ntmps17
  go_wp2_with (go_at_call 38; first | ((with_reducible refine (N_user.out _).mono ?_); rintro e w1 ⟨rfl, rfl⟩) | ((with_reducible refine (N_nonce.out _).mono ?_); rintro e w1 ⟨rfl, rfl⟩))
  go_ret
  exact ⟨rfl, by repeat (first | exact Below.refl _ _ | refine Below.setCell ?_ (by simp) _ | refine Below.alloc ?_ (by simp) _)⟩

set_option maxHeartbeats 2000000 in
theorem rpmay_bad5 (k : Int) (u n h t c s q : Int) (d : ByteArray) (w : World) (r_data : d.size ≤ 64) (l_seq : 0 ≤ q) (u_seq : q ≤ 1048575) (n_user : okNum u = true) (n_nonce : okNum n = true) (n_half : okNum h = false) :
    Calls Tryd.prog 17 #[.agg #[.int .i64 k, .int .i64 u, .int .i64 n, .int .i64 h, .int .i64 t, .int .i64 c, .int .i64 s, .int .i64 q, .string d]] w fun e w' => e = .returned (.bool false) ∧ Below w.heap.size w w' := by
  have d_data : decide ((64 : Int) < (d.size : Int)) = false := by simp; omega
  have dl_seq : decide (q < 0) = false := by simp; omega
  have du_seq : decide ((1048575 : Int) < q) = false := by simp; omega
  have N_user := Lib.hid (rnumb u true n_user)
  clear n_user
  have N_nonce := Lib.hid (rnumb n true n_nonce)
  clear n_nonce
  have N_half := Lib.hid (rnumb h false n_half)
  clear n_half
  go_enter Tryd.func17, Tryd.ntmps17
  go_wp2_with (go_at_call 38; first | ((with_reducible refine (N_user.out _).mono ?_); rintro e w1 ⟨rfl, rfl⟩) | ((with_reducible refine (N_nonce.out _).mono ?_); rintro e w1 ⟨rfl, rfl⟩) | ((with_reducible refine (N_half.out _).mono ?_); rintro e w1 ⟨rfl, rfl⟩))
  go_ret
  exact ⟨rfl, by repeat (first | exact Below.refl _ _ | refine Below.setCell ?_ (by simp) _ | refine Below.alloc ?_ (by simp) _)⟩

set_option maxHeartbeats 2000000 in
theorem rpmay_bad6 (k : Int) (u n h t c s q : Int) (d : ByteArray) (w : World) (r_data : d.size ≤ 64) (l_seq : 0 ≤ q) (u_seq : q ≤ 1048575) (n_user : okNum u = true) (n_nonce : okNum n = true) (n_half : okNum h = true) (n_tag : okNum t = false) :
    Calls Tryd.prog 17 #[.agg #[.int .i64 k, .int .i64 u, .int .i64 n, .int .i64 h, .int .i64 t, .int .i64 c, .int .i64 s, .int .i64 q, .string d]] w fun e w' => e = .returned (.bool false) ∧ Below w.heap.size w w' := by
  have d_data : decide ((64 : Int) < (d.size : Int)) = false := by simp; omega
  have dl_seq : decide (q < 0) = false := by simp; omega
  have du_seq : decide ((1048575 : Int) < q) = false := by simp; omega
  have N_user := Lib.hid (rnumb u true n_user)
  clear n_user
  have N_nonce := Lib.hid (rnumb n true n_nonce)
  clear n_nonce
  have N_half := Lib.hid (rnumb h true n_half)
  clear n_half
  have N_tag := Lib.hid (rnumb t false n_tag)
  clear n_tag
  go_enter Tryd.func17, Tryd.ntmps17
  go_wp2_with (go_at_call 38; first | ((with_reducible refine (N_user.out _).mono ?_); rintro e w1 ⟨rfl, rfl⟩) | ((with_reducible refine (N_nonce.out _).mono ?_); rintro e w1 ⟨rfl, rfl⟩) | ((with_reducible refine (N_half.out _).mono ?_); rintro e w1 ⟨rfl, rfl⟩) | ((with_reducible refine (N_tag.out _).mono ?_); rintro e w1 ⟨rfl, rfl⟩))
  go_ret
  exact ⟨rfl, by repeat (first | exact Below.refl _ _ | refine Below.setCell ?_ (by simp) _ | refine Below.alloc ?_ (by simp) _)⟩

set_option maxHeartbeats 2000000 in
theorem rpmay_bad7 (k : Int) (u n h t c s q : Int) (d : ByteArray) (w : World) (r_data : d.size ≤ 64) (l_seq : 0 ≤ q) (u_seq : q ≤ 1048575) (n_user : okNum u = true) (n_nonce : okNum n = true) (n_half : okNum h = true) (n_tag : okNum t = true) (n_code : okNum c = false) :
    Calls Tryd.prog 17 #[.agg #[.int .i64 k, .int .i64 u, .int .i64 n, .int .i64 h, .int .i64 t, .int .i64 c, .int .i64 s, .int .i64 q, .string d]] w fun e w' => e = .returned (.bool false) ∧ Below w.heap.size w w' := by
  have d_data : decide ((64 : Int) < (d.size : Int)) = false := by simp; omega
  have dl_seq : decide (q < 0) = false := by simp; omega
  have du_seq : decide ((1048575 : Int) < q) = false := by simp; omega
  have N_user := Lib.hid (rnumb u true n_user)
  clear n_user
  have N_nonce := Lib.hid (rnumb n true n_nonce)
  clear n_nonce
  have N_half := Lib.hid (rnumb h true n_half)
  clear n_half
  have N_tag := Lib.hid (rnumb t true n_tag)
  clear n_tag
  have N_code := Lib.hid (rnumb c false n_code)
  clear n_code
  go_enter Tryd.func17, Tryd.ntmps17
  go_wp2_with (go_at_call 38; first | ((with_reducible refine (N_user.out _).mono ?_); rintro e w1 ⟨rfl, rfl⟩) | ((with_reducible refine (N_nonce.out _).mono ?_); rintro e w1 ⟨rfl, rfl⟩) | ((with_reducible refine (N_half.out _).mono ?_); rintro e w1 ⟨rfl, rfl⟩) | ((with_reducible refine (N_tag.out _).mono ?_); rintro e w1 ⟨rfl, rfl⟩) | ((with_reducible refine (N_code.out _).mono ?_); rintro e w1 ⟨rfl, rfl⟩))
  go_ret
  exact ⟨rfl, by repeat (first | exact Below.refl _ _ | refine Below.setCell ?_ (by simp) _ | refine Below.alloc ?_ (by simp) _)⟩

set_option maxHeartbeats 2000000 in
theorem rpmay_bad8 (k : Int) (u n h t c s q : Int) (d : ByteArray) (w : World) (r_data : d.size ≤ 64) (l_seq : 0 ≤ q) (u_seq : q ≤ 1048575) (n_user : okNum u = true) (n_nonce : okNum n = true) (n_half : okNum h = true) (n_tag : okNum t = true) (n_code : okNum c = true) (n_session : okNum s = false) :
    Calls Tryd.prog 17 #[.agg #[.int .i64 k, .int .i64 u, .int .i64 n, .int .i64 h, .int .i64 t, .int .i64 c, .int .i64 s, .int .i64 q, .string d]] w fun e w' => e = .returned (.bool false) ∧ Below w.heap.size w w' := by
  have d_data : decide ((64 : Int) < (d.size : Int)) = false := by simp; omega
  have dl_seq : decide (q < 0) = false := by simp; omega
  have du_seq : decide ((1048575 : Int) < q) = false := by simp; omega
  have N_user := Lib.hid (rnumb u true n_user)
  clear n_user
  have N_nonce := Lib.hid (rnumb n true n_nonce)
  clear n_nonce
  have N_half := Lib.hid (rnumb h true n_half)
  clear n_half
  have N_tag := Lib.hid (rnumb t true n_tag)
  clear n_tag
  have N_code := Lib.hid (rnumb c true n_code)
  clear n_code
  have N_session := Lib.hid (rnumb s false n_session)
  clear n_session
  go_enter Tryd.func17, Tryd.ntmps17
  go_wp2_with (go_at_call 38; first | ((with_reducible refine (N_user.out _).mono ?_); rintro e w1 ⟨rfl, rfl⟩) | ((with_reducible refine (N_nonce.out _).mono ?_); rintro e w1 ⟨rfl, rfl⟩) | ((with_reducible refine (N_half.out _).mono ?_); rintro e w1 ⟨rfl, rfl⟩) | ((with_reducible refine (N_tag.out _).mono ?_); rintro e w1 ⟨rfl, rfl⟩) | ((with_reducible refine (N_code.out _).mono ?_); rintro e w1 ⟨rfl, rfl⟩) | ((with_reducible refine (N_session.out _).mono ?_); rintro e w1 ⟨rfl, rfl⟩))
  go_ret
  exact ⟨rfl, by repeat (first | exact Below.refl _ _ | refine Below.setCell ?_ (by simp) _ | refine Below.alloc ?_ (by simp) _)⟩

set_option maxHeartbeats 4000000 in
theorem rpmay_k0 (u n h t c s q : Int) (d : ByteArray) (B : Bool) (w : World) (r_data : d.size ≤ 64) (l_seq : 0 ≤ q) (u_seq : q ≤ 1048575) (n_user : okNum u = true) (n_nonce : okNum n = true) (n_half : okNum h = true) (n_tag : okNum t = true) (n_code : okNum c = true) (n_session : okNum s = true) (hB : (h = 0 ∧ t = 0 ∧ c = 0 ∧ s = 0 ∧ q = 0 ∧ d.toList = [] → B = true) ∧ (¬ (h = 0 ∧ t = 0 ∧ c = 0 ∧ s = 0 ∧ q = 0 ∧ d.toList = []) → B = false)) :
    Calls Tryd.prog 17 #[.agg #[.int .i64 0, .int .i64 u, .int .i64 n, .int .i64 h, .int .i64 t, .int .i64 c, .int .i64 s, .int .i64 q, .string d]] w fun e w' => e = .returned (.bool B) ∧ Below w.heap.size w w' := by
  have d_data : decide ((64 : Int) < (d.size : Int)) = false := by simp; omega
  have dl_seq : decide (q < 0) = false := by simp; omega
  have du_seq : decide ((1048575 : Int) < q) = false := by simp; omega
  have N_user := Lib.hid (rnumb u true n_user)
  clear n_user
  have N_nonce := Lib.hid (rnumb n true n_nonce)
  clear n_nonce
  have N_half := Lib.hid (rnumb h true n_half)
  clear n_half
  have N_tag := Lib.hid (rnumb t true n_tag)
  clear n_tag
  have N_code := Lib.hid (rnumb c true n_code)
  clear n_code
  have N_session := Lib.hid (rnumb s true n_session)
  clear n_session
  have HB := Lib.hid hB
  clear hB
  go_enter Tryd.func17, Tryd.ntmps17
  go_wp2_with (go_at_call 38; first | ((with_reducible refine (N_user.out _).mono ?_); rintro e w1 ⟨rfl, rfl⟩) | ((with_reducible refine (N_nonce.out _).mono ?_); rintro e w1 ⟨rfl, rfl⟩) | ((with_reducible refine (N_half.out _).mono ?_); rintro e w1 ⟨rfl, rfl⟩) | ((with_reducible refine (N_tag.out _).mono ?_); rintro e w1 ⟨rfl, rfl⟩) | ((with_reducible refine (N_code.out _).mono ?_); rintro e w1 ⟨rfl, rfl⟩) | ((with_reducible refine (N_session.out _).mono ?_); rintro e w1 ⟨rfl, rfl⟩))
  all_goals
    go_ret
    refine ⟨congrArg (fun b => Ending.returned (Value.bool b)) ?_, by repeat (first | exact Below.refl _ _ | refine Below.setCell ?_ (by simp) _ | refine Below.alloc ?_ (by simp) _)⟩
    first
      | exact (HB.out.1 (by simp [*])).symm
      | exact (HB.out.2 (by simp [*])).symm

set_option maxHeartbeats 4000000 in
theorem rpmay_k1 (u n h t c s q : Int) (d : ByteArray) (B : Bool) (w : World) (r_data : d.size ≤ 64) (l_seq : 0 ≤ q) (u_seq : q ≤ 1048575) (n_user : okNum u = true) (n_nonce : okNum n = true) (n_half : okNum h = true) (n_tag : okNum t = true) (n_code : okNum c = true) (n_session : okNum s = true) (hB : (u = 0 ∧ n = 0 ∧ s = 0 ∧ q = 0 ∧ d.toList = [] → B = true) ∧ (¬ (u = 0 ∧ n = 0 ∧ s = 0 ∧ q = 0 ∧ d.toList = []) → B = false)) :
    Calls Tryd.prog 17 #[.agg #[.int .i64 1, .int .i64 u, .int .i64 n, .int .i64 h, .int .i64 t, .int .i64 c, .int .i64 s, .int .i64 q, .string d]] w fun e w' => e = .returned (.bool B) ∧ Below w.heap.size w w' := by
  have d_data : decide ((64 : Int) < (d.size : Int)) = false := by simp; omega
  have dl_seq : decide (q < 0) = false := by simp; omega
  have du_seq : decide ((1048575 : Int) < q) = false := by simp; omega
  have N_user := Lib.hid (rnumb u true n_user)
  clear n_user
  have N_nonce := Lib.hid (rnumb n true n_nonce)
  clear n_nonce
  have N_half := Lib.hid (rnumb h true n_half)
  clear n_half
  have N_tag := Lib.hid (rnumb t true n_tag)
  clear n_tag
  have N_code := Lib.hid (rnumb c true n_code)
  clear n_code
  have N_session := Lib.hid (rnumb s true n_session)
  clear n_session
  have HB := Lib.hid hB
  clear hB
  go_enter Tryd.func17, Tryd.ntmps17
  go_wp2_with (go_at_call 38; first | ((with_reducible refine (N_user.out _).mono ?_); rintro e w1 ⟨rfl, rfl⟩) | ((with_reducible refine (N_nonce.out _).mono ?_); rintro e w1 ⟨rfl, rfl⟩) | ((with_reducible refine (N_half.out _).mono ?_); rintro e w1 ⟨rfl, rfl⟩) | ((with_reducible refine (N_tag.out _).mono ?_); rintro e w1 ⟨rfl, rfl⟩) | ((with_reducible refine (N_code.out _).mono ?_); rintro e w1 ⟨rfl, rfl⟩) | ((with_reducible refine (N_session.out _).mono ?_); rintro e w1 ⟨rfl, rfl⟩))
  all_goals
    go_ret
    refine ⟨congrArg (fun b => Ending.returned (Value.bool b)) ?_, by repeat (first | exact Below.refl _ _ | refine Below.setCell ?_ (by simp) _ | refine Below.alloc ?_ (by simp) _)⟩
    first
      | exact (HB.out.1 (by simp [*])).symm
      | exact (HB.out.2 (by simp [*])).symm

set_option maxHeartbeats 4000000 in
theorem rpmay_k2 (u n h t c s q : Int) (d : ByteArray) (B : Bool) (w : World) (r_data : d.size ≤ 64) (l_seq : 0 ≤ q) (u_seq : q ≤ 1048575) (n_user : okNum u = true) (n_nonce : okNum n = true) (n_half : okNum h = true) (n_tag : okNum t = true) (n_code : okNum c = true) (n_session : okNum s = true) (hB : (u = 0 ∧ h = 0 ∧ s = 0 ∧ q = 0 ∧ d.toList = [] → B = true) ∧ (¬ (u = 0 ∧ h = 0 ∧ s = 0 ∧ q = 0 ∧ d.toList = []) → B = false)) :
    Calls Tryd.prog 17 #[.agg #[.int .i64 2, .int .i64 u, .int .i64 n, .int .i64 h, .int .i64 t, .int .i64 c, .int .i64 s, .int .i64 q, .string d]] w fun e w' => e = .returned (.bool B) ∧ Below w.heap.size w w' := by
  have d_data : decide ((64 : Int) < (d.size : Int)) = false := by simp; omega
  have dl_seq : decide (q < 0) = false := by simp; omega
  have du_seq : decide ((1048575 : Int) < q) = false := by simp; omega
  have N_user := Lib.hid (rnumb u true n_user)
  clear n_user
  have N_nonce := Lib.hid (rnumb n true n_nonce)
  clear n_nonce
  have N_half := Lib.hid (rnumb h true n_half)
  clear n_half
  have N_tag := Lib.hid (rnumb t true n_tag)
  clear n_tag
  have N_code := Lib.hid (rnumb c true n_code)
  clear n_code
  have N_session := Lib.hid (rnumb s true n_session)
  clear n_session
  have HB := Lib.hid hB
  clear hB
  go_enter Tryd.func17, Tryd.ntmps17
  go_wp2_with (go_at_call 38; first | ((with_reducible refine (N_user.out _).mono ?_); rintro e w1 ⟨rfl, rfl⟩) | ((with_reducible refine (N_nonce.out _).mono ?_); rintro e w1 ⟨rfl, rfl⟩) | ((with_reducible refine (N_half.out _).mono ?_); rintro e w1 ⟨rfl, rfl⟩) | ((with_reducible refine (N_tag.out _).mono ?_); rintro e w1 ⟨rfl, rfl⟩) | ((with_reducible refine (N_code.out _).mono ?_); rintro e w1 ⟨rfl, rfl⟩) | ((with_reducible refine (N_session.out _).mono ?_); rintro e w1 ⟨rfl, rfl⟩))
  all_goals
    go_ret
    refine ⟨congrArg (fun b => Ending.returned (Value.bool b)) ?_, by repeat (first | exact Below.refl _ _ | refine Below.setCell ?_ (by simp) _ | refine Below.alloc ?_ (by simp) _)⟩
    first
      | exact (HB.out.1 (by simp [*])).symm
      | exact (HB.out.2 (by simp [*])).symm

set_option maxHeartbeats 4000000 in
theorem rpmay_k3 (u n h t c s q : Int) (d : ByteArray) (B : Bool) (w : World) (r_data : d.size ≤ 64) (l_seq : 0 ≤ q) (u_seq : q ≤ 1048575) (n_user : okNum u = true) (n_nonce : okNum n = true) (n_half : okNum h = true) (n_tag : okNum t = true) (n_code : okNum c = true) (n_session : okNum s = true) (hB : (u = 0 ∧ n = 0 ∧ h = 0 ∧ c = 0 → B = true) ∧ (¬ (u = 0 ∧ n = 0 ∧ h = 0 ∧ c = 0) → B = false)) :
    Calls Tryd.prog 17 #[.agg #[.int .i64 3, .int .i64 u, .int .i64 n, .int .i64 h, .int .i64 t, .int .i64 c, .int .i64 s, .int .i64 q, .string d]] w fun e w' => e = .returned (.bool B) ∧ Below w.heap.size w w' := by
  have d_data : decide ((64 : Int) < (d.size : Int)) = false := by simp; omega
  have dl_seq : decide (q < 0) = false := by simp; omega
  have du_seq : decide ((1048575 : Int) < q) = false := by simp; omega
  have N_user := Lib.hid (rnumb u true n_user)
  clear n_user
  have N_nonce := Lib.hid (rnumb n true n_nonce)
  clear n_nonce
  have N_half := Lib.hid (rnumb h true n_half)
  clear n_half
  have N_tag := Lib.hid (rnumb t true n_tag)
  clear n_tag
  have N_code := Lib.hid (rnumb c true n_code)
  clear n_code
  have N_session := Lib.hid (rnumb s true n_session)
  clear n_session
  have HB := Lib.hid hB
  clear hB
  go_enter Tryd.func17, Tryd.ntmps17
  go_wp2_with (go_at_call 38; first | ((with_reducible refine (N_user.out _).mono ?_); rintro e w1 ⟨rfl, rfl⟩) | ((with_reducible refine (N_nonce.out _).mono ?_); rintro e w1 ⟨rfl, rfl⟩) | ((with_reducible refine (N_half.out _).mono ?_); rintro e w1 ⟨rfl, rfl⟩) | ((with_reducible refine (N_tag.out _).mono ?_); rintro e w1 ⟨rfl, rfl⟩) | ((with_reducible refine (N_code.out _).mono ?_); rintro e w1 ⟨rfl, rfl⟩) | ((with_reducible refine (N_session.out _).mono ?_); rintro e w1 ⟨rfl, rfl⟩))
  all_goals
    go_ret
    refine ⟨congrArg (fun b => Ending.returned (Value.bool b)) ?_, by repeat (first | exact Below.refl _ _ | refine Below.setCell ?_ (by simp) _ | refine Below.alloc ?_ (by simp) _)⟩
    first
      | exact (HB.out.1 (by simp [*])).symm
      | exact (HB.out.2 (by simp [*])).symm

set_option maxHeartbeats 4000000 in
theorem rpmay_k4 (u n h t c s q : Int) (d : ByteArray) (B : Bool) (w : World) (r_data : d.size ≤ 64) (l_seq : 0 ≤ q) (u_seq : q ≤ 1048575) (n_user : okNum u = true) (n_nonce : okNum n = true) (n_half : okNum h = true) (n_tag : okNum t = true) (n_code : okNum c = true) (n_session : okNum s = true) (hB : (u = 0 ∧ n = 0 ∧ h = 0 ∧ c = 0 ∧ q = 0 ∧ d.toList = [] → B = true) ∧ (¬ (u = 0 ∧ n = 0 ∧ h = 0 ∧ c = 0 ∧ q = 0 ∧ d.toList = []) → B = false)) :
    Calls Tryd.prog 17 #[.agg #[.int .i64 4, .int .i64 u, .int .i64 n, .int .i64 h, .int .i64 t, .int .i64 c, .int .i64 s, .int .i64 q, .string d]] w fun e w' => e = .returned (.bool B) ∧ Below w.heap.size w w' := by
  have d_data : decide ((64 : Int) < (d.size : Int)) = false := by simp; omega
  have dl_seq : decide (q < 0) = false := by simp; omega
  have du_seq : decide ((1048575 : Int) < q) = false := by simp; omega
  have N_user := Lib.hid (rnumb u true n_user)
  clear n_user
  have N_nonce := Lib.hid (rnumb n true n_nonce)
  clear n_nonce
  have N_half := Lib.hid (rnumb h true n_half)
  clear n_half
  have N_tag := Lib.hid (rnumb t true n_tag)
  clear n_tag
  have N_code := Lib.hid (rnumb c true n_code)
  clear n_code
  have N_session := Lib.hid (rnumb s true n_session)
  clear n_session
  have HB := Lib.hid hB
  clear hB
  go_enter Tryd.func17, Tryd.ntmps17
  go_wp2_with (go_at_call 38; first | ((with_reducible refine (N_user.out _).mono ?_); rintro e w1 ⟨rfl, rfl⟩) | ((with_reducible refine (N_nonce.out _).mono ?_); rintro e w1 ⟨rfl, rfl⟩) | ((with_reducible refine (N_half.out _).mono ?_); rintro e w1 ⟨rfl, rfl⟩) | ((with_reducible refine (N_tag.out _).mono ?_); rintro e w1 ⟨rfl, rfl⟩) | ((with_reducible refine (N_code.out _).mono ?_); rintro e w1 ⟨rfl, rfl⟩) | ((with_reducible refine (N_session.out _).mono ?_); rintro e w1 ⟨rfl, rfl⟩))
  all_goals
    go_ret
    refine ⟨congrArg (fun b => Ending.returned (Value.bool b)) ?_, by repeat (first | exact Below.refl _ _ | refine Below.setCell ?_ (by simp) _ | refine Below.alloc ?_ (by simp) _)⟩
    first
      | exact (HB.out.1 (by simp [*])).symm
      | exact (HB.out.2 (by simp [*])).symm

set_option maxHeartbeats 2000000 in
theorem rpmay_else (k : Int) (u n h t c s q : Int) (d : ByteArray) (w : World) (r_data : d.size ≤ 64) (l_seq : 0 ≤ q) (u_seq : q ≤ 1048575) (n_user : okNum u = true) (n_nonce : okNum n = true) (n_half : okNum h = true) (n_tag : okNum t = true) (n_code : okNum c = true) (n_session : okNum s = true) (h0 : k ≠ 0) (h1 : k ≠ 1) (h2 : k ≠ 2) (h3 : k ≠ 3) (h4 : k ≠ 4) :
    Calls Tryd.prog 17 #[.agg #[.int .i64 k, .int .i64 u, .int .i64 n, .int .i64 h, .int .i64 t, .int .i64 c, .int .i64 s, .int .i64 q, .string d]] w fun e w' => e = .returned (.bool false) ∧ Below w.heap.size w w' := by
  have d_data : decide ((64 : Int) < (d.size : Int)) = false := by simp; omega
  have dl_seq : decide (q < 0) = false := by simp; omega
  have du_seq : decide ((1048575 : Int) < q) = false := by simp; omega
  have N_user := Lib.hid (rnumb u true n_user)
  clear n_user
  have N_nonce := Lib.hid (rnumb n true n_nonce)
  clear n_nonce
  have N_half := Lib.hid (rnumb h true n_half)
  clear n_half
  have N_tag := Lib.hid (rnumb t true n_tag)
  clear n_tag
  have N_code := Lib.hid (rnumb c true n_code)
  clear n_code
  have N_session := Lib.hid (rnumb s true n_session)
  clear n_session
  have g0 : (k == 0) = false := by simpa using h0
  clear h0
  have g1 : (k == 1) = false := by simpa using h1
  clear h1
  have g2 : (k == 2) = false := by simpa using h2
  clear h2
  have g3 : (k == 3) = false := by simpa using h3
  clear h3
  have g4 : (k == 4) = false := by simpa using h4
  clear h4
  go_enter Tryd.func17, Tryd.ntmps17
  go_wp2_with (go_at_call 38; first | ((with_reducible refine (N_user.out _).mono ?_); rintro e w1 ⟨rfl, rfl⟩) | ((with_reducible refine (N_nonce.out _).mono ?_); rintro e w1 ⟨rfl, rfl⟩) | ((with_reducible refine (N_half.out _).mono ?_); rintro e w1 ⟨rfl, rfl⟩) | ((with_reducible refine (N_tag.out _).mono ?_); rintro e w1 ⟨rfl, rfl⟩) | ((with_reducible refine (N_code.out _).mono ?_); rintro e w1 ⟨rfl, rfl⟩) | ((with_reducible refine (N_session.out _).mono ?_); rintro e w1 ⟨rfl, rfl⟩))
  go_ret
  exact ⟨rfl, by repeat (first | exact Below.refl _ _ | refine Below.setCell ?_ (by simp) _ | refine Below.alloc ?_ (by simp) _)⟩

theorem rpmay_rng {p : Pk} (h : p.rng = false) : p.may = false := by unfold Pk.may; rw [h]; rfl
set_option maxHeartbeats 2000000 in
theorem rpmay (p : Pk) (w : World) : Calls Tryd.prog 17 #[p.val] w fun e w' => e = .returned (.bool p.may) ∧ Below w.heap.size w w' := by
  obtain ⟨k, u, n, h, t, c, s, q, d⟩ := p
  show Calls Tryd.prog 17 #[.agg #[.int .i64 k, .int .i64 u, .int .i64 n, .int .i64 h, .int .i64 t, .int .i64 c, .int .i64 s, .int .i64 q, .string d]] w _
  by_cases r_data : 64 < d.size
  · rw [rpmay_rng (by unfold Pk.rng; simp; omega)]; exact rpmay_bad0 k u n h t c s q d w r_data
  replace r_data : d.size ≤ 64 := by omega
  by_cases l_seq : q < 0
  · rw [rpmay_rng (by unfold Pk.rng; simp; omega)]; exact rpmay_bad1 k u n h t c s q d w r_data l_seq
  replace l_seq : 0 ≤ q := by omega
  by_cases u_seq : 1048575 < q
  · rw [rpmay_rng (by unfold Pk.rng; simp; omega)]; exact rpmay_bad2 k u n h t c s q d w r_data l_seq u_seq
  replace u_seq : q ≤ 1048575 := by omega
  by_cases n_user : okNum u = false
  · rw [rpmay_rng (by unfold Pk.rng; simp [n_user])]; exact rpmay_bad3 k u n h t c s q d w r_data l_seq u_seq n_user
  replace n_user : okNum u = true := by simpa using n_user
  by_cases n_nonce : okNum n = false
  · rw [rpmay_rng (by unfold Pk.rng; simp [n_nonce])]; exact rpmay_bad4 k u n h t c s q d w r_data l_seq u_seq n_user n_nonce
  replace n_nonce : okNum n = true := by simpa using n_nonce
  by_cases n_half : okNum h = false
  · rw [rpmay_rng (by unfold Pk.rng; simp [n_half])]; exact rpmay_bad5 k u n h t c s q d w r_data l_seq u_seq n_user n_nonce n_half
  replace n_half : okNum h = true := by simpa using n_half
  by_cases n_tag : okNum t = false
  · rw [rpmay_rng (by unfold Pk.rng; simp [n_tag])]; exact rpmay_bad6 k u n h t c s q d w r_data l_seq u_seq n_user n_nonce n_half n_tag
  replace n_tag : okNum t = true := by simpa using n_tag
  by_cases n_code : okNum c = false
  · rw [rpmay_rng (by unfold Pk.rng; simp [n_code])]; exact rpmay_bad7 k u n h t c s q d w r_data l_seq u_seq n_user n_nonce n_half n_tag n_code
  replace n_code : okNum c = true := by simpa using n_code
  by_cases n_session : okNum s = false
  · rw [rpmay_rng (by unfold Pk.rng; simp [n_session])]; exact rpmay_bad8 k u n h t c s q d w r_data l_seq u_seq n_user n_nonce n_half n_tag n_code n_session
  replace n_session : okNum s = true := by simpa using n_session
  have hr : (Pk.mk k u n h t c s q d).rng = true := (Pk.rng_iff _).2 ⟨r_data, l_seq, u_seq, n_user, n_nonce, n_half, n_tag, n_code, n_session⟩
  have hm : (Pk.mk k u n h t c s q d).may = (decide ((Pk.mk k u n h t c s q d).part = some (Pk.mk k u n h t c s q d)) && (Pk.mk k u n h t c s q d).lim) := by unfold Pk.may; rw [hr]; rfl
  rw [hm]
  by_cases h0 : k = 0
  · subst h0
    refine rpmay_k0 u n h t c s q d _ w r_data l_seq u_seq n_user n_nonce n_half n_tag n_code n_session ⟨?_, ?_⟩ <;> intro e <;> rw [isE] at e <;> simp [Pk.part, Pk.lim] <;> grind
  by_cases h1 : k = 1
  · subst h1
    refine rpmay_k1 u n h t c s q d _ w r_data l_seq u_seq n_user n_nonce n_half n_tag n_code n_session ⟨?_, ?_⟩ <;> intro e <;> rw [isE] at e <;> simp [Pk.part, Pk.lim] <;> grind
  by_cases h2 : k = 2
  · subst h2
    refine rpmay_k2 u n h t c s q d _ w r_data l_seq u_seq n_user n_nonce n_half n_tag n_code n_session ⟨?_, ?_⟩ <;> intro e <;> rw [isE] at e <;> simp [Pk.part, Pk.lim] <;> grind
  by_cases h3 : k = 3
  · subst h3
    refine rpmay_k3 u n h t c s q d _ w r_data l_seq u_seq n_user n_nonce n_half n_tag n_code n_session ⟨?_, ?_⟩ <;> intro e <;> simp [Pk.part, Pk.lim] <;> grind
  by_cases h4 : k = 4
  · subst h4
    refine rpmay_k4 u n h t c s q d _ w r_data l_seq u_seq n_user n_nonce n_half n_tag n_code n_session ⟨?_, ?_⟩ <;> intro e <;> rw [isE] at e <;> simp [Pk.part, Pk.lim] <;> grind
  have : (decide ((Pk.mk k u n h t c s q d).part = some (Pk.mk k u n h t c s q d)) && (Pk.mk k u n h t c s q d).lim) = false := by simp [Pk.part, h0, h1, h2, h3, h4]
  rw [this]
  exact rpmay_else k u n h t c s q d w r_data l_seq u_seq n_user n_nonce n_half n_tag n_code n_session h0 h1 h2 h3 h4
end Go.Proofs.YthbnkejjipiaaaaDoor
