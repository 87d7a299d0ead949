/- The reference's ReplyMay answers as the plain words say. No condition. -/
import Derived.Test.YthbnkejjipiaaaaDoorRyl
import Derived.Test.YthbnkejjipiaaaaDoorRefkit
namespace Go.Proofs.YthbnkejjipiaaaaDoor
open Go Go.RowKit

set_option maxHeartbeats 2000000 in
theorem rymay_bad0 (k : Int) (h n s a t q c : Int) (d : ByteArray) (w : World)  (r_data : 64 < d.size) :
    Calls Tryd.prog 24 #[.agg #[.int .i64 k, .int .i64 h, .int .i64 n, .int .i64 s, .int .i64 a, .int .i64 t, .int .i64 q, .int .i64 c, .string d]] w fun e w' => e = .returned (.bool false) ∧ Below w.heap.size w w' := by
  have d_data : decide ((64 : Int) < (d.size : Int)) = true := by simp; omega
  go_enter Tryd.func24, Tryd.ntmps24
  go_wp2_with fail
  go_ret
  exact ⟨rfl, by repeat (first | exact Below.refl _ _ | refine Below.setCell ?_ (by simp) _ | refine Below.alloc ?_ (by simp) _)⟩

set_option maxHeartbeats 2000000 in
theorem rymay_bad1 (k : Int) (h n s a t q c : Int) (d : ByteArray) (w : World) (r_data : d.size ≤ 64) (l_seq : q < 0) :
    Calls Tryd.prog 24 #[.agg #[.int .i64 k, .int .i64 h, .int .i64 n, .int .i64 s, .int .i64 a, .int .i64 t, .int .i64 q, .int .i64 c, .string d]] w fun e w' => e = .returned (.bool false) ∧ Below w.heap.size w w' := by
  have d_data : decide ((64 : Int) < (d.size : Int)) = false := by simp; omega
  have dl_seq : decide (q < 0) = true := by simp; omega
  go_enter Tryd.func24, Tryd.ntmps24
  go_wp2_with fail
  go_ret
  exact ⟨rfl, by repeat (first | exact Below.refl _ _ | refine Below.setCell ?_ (by simp) _ | refine Below.alloc ?_ (by simp) _)⟩

set_option maxHeartbeats 2000000 in
theorem rymay_bad2 (k : Int) (h n s a t q c : Int) (d : ByteArray) (w : World) (r_data : d.size ≤ 64) (l_seq : 0 ≤ q) (u_seq : 1048575 < q) :
    Calls Tryd.prog 24 #[.agg #[.int .i64 k, .int .i64 h, .int .i64 n, .int .i64 s, .int .i64 a, .int .i64 t, .int .i64 q, .int .i64 c, .string d]] w fun e w' => e = .returned (.bool false) ∧ Below w.heap.size w w' := by
  have d_data : decide ((64 : Int) < (d.size : Int)) = false := by simp; omega
  have dl_seq : decide (q < 0) = false := by simp; omega
  have du_seq : decide ((1048575 : Int) < q) = true := by simp; omega
  go_enter Tryd.func24, Tryd.ntmps24
  go_wp2_with fail
  go_ret
  exact ⟨rfl, by repeat (first | exact Below.refl _ _ | refine Below.setCell ?_ (by simp) _ | refine Below.alloc ?_ (by simp) _)⟩

set_option maxHeartbeats 2000000 in
theorem rymay_bad3 (k : Int) (h n s a t q c : Int) (d : ByteArray) (w : World) (r_data : d.size ≤ 64) (l_seq : 0 ≤ q) (u_seq : q ≤ 1048575) (l_address : a < 0) :
    Calls Tryd.prog 24 #[.agg #[.int .i64 k, .int .i64 h, .int .i64 n, .int .i64 s, .int .i64 a, .int .i64 t, .int .i64 q, .int .i64 c, .string d]] w fun e w' => e = .returned (.bool false) ∧ Below w.heap.size w w' := by
  have d_data : decide ((64 : Int) < (d.size : Int)) = false := by simp; omega
  have dl_seq : decide (q < 0) = false := by simp; omega
  have du_seq : decide ((1048575 : Int) < q) = false := by simp; omega
  have dl_address : decide (a < 0) = true := by simp; omega
  go_enter Tryd.func24, Tryd.ntmps24
  go_wp2_with fail
  go_ret
  exact ⟨rfl, by repeat (first | exact Below.refl _ _ | refine Below.setCell ?_ (by simp) _ | refine Below.alloc ?_ (by simp) _)⟩

set_option maxHeartbeats 2000000 in
theorem rymay_bad4 (k : Int) (h n s a t q c : Int) (d : ByteArray) (w : World) (r_data : d.size ≤ 64) (l_seq : 0 ≤ q) (u_seq : q ≤ 1048575) (l_address : 0 ≤ a) (u_address : 15 < a) :
    Calls Tryd.prog 24 #[.agg #[.int .i64 k, .int .i64 h, .int .i64 n, .int .i64 s, .int .i64 a, .int .i64 t, .int .i64 q, .int .i64 c, .string d]] w fun e w' => e = .returned (.bool false) ∧ Below w.heap.size w w' := by
  have d_data : decide ((64 : Int) < (d.size : Int)) = false := by simp; omega
  have dl_seq : decide (q < 0) = false := by simp; omega
  have du_seq : decide ((1048575 : Int) < q) = false := by simp; omega
  have dl_address : decide (a < 0) = false := by simp; omega
  have du_address : decide ((16 : Int) ≤ a) = true := by simp; omega
  go_enter Tryd.func24, Tryd.ntmps24
  go_wp2_with fail
  go_ret
  exact ⟨rfl, by repeat (first | exact Below.refl _ _ | refine Below.setCell ?_ (by simp) _ | refine Below.alloc ?_ (by simp) _)⟩

set_option maxHeartbeats 2000000 in
theorem rymay_bad5 (k : Int) (h n s a t q c : Int) (d : ByteArray) (w : World) (r_data : d.size ≤ 64) (l_seq : 0 ≤ q) (u_seq : q ≤ 1048575) (l_address : 0 ≤ a) (u_address : a ≤ 15) (n_half : okNum h = false) :
    Calls Tryd.prog 24 #[.agg #[.int .i64 k, .int .i64 h, .int .i64 n, .int .i64 s, .int .i64 a, .int .i64 t, .int .i64 q, .int .i64 c, .string d]] w fun e w' => e = .returned (.bool false) ∧ Below w.heap.size w w' := by
  have d_data : decide ((64 : Int) < (d.size : Int)) = false := by simp; omega
  have dl_seq : decide (q < 0) = false := by simp; omega
  have du_seq : decide ((1048575 : Int) < q) = false := by simp; omega
  have dl_address : decide (a < 0) = false := by simp; omega
  have du_address : decide ((16 : Int) ≤ a) = false := by simp; omega
  have N_half := Lib.hid (rnumb h false n_half)
  clear n_half
  go_enter Tryd.func24, Tryd.ntmps24
  go_wp2_with (go_at_call 38; ((with_reducible refine (N_half.out _).mono ?_); rintro e w1 ⟨rfl, rfl⟩))
  go_ret
  exact ⟨rfl, by repeat (first | exact Below.refl _ _ | refine Below.setCell ?_ (by simp) _ | refine Below.alloc ?_ (by simp) _)⟩

set_option maxHeartbeats 2000000 in
theorem rymay_bad6 (k : Int) (h n s a t q c : Int) (d : ByteArray) (w : World) (r_data : d.size ≤ 64) (l_seq : 0 ≤ q) (u_seq : q ≤ 1048575) (l_address : 0 ≤ a) (u_address : a ≤ 15) (n_half : okNum h = true) (n_nonce : okNum n = false) :
    Calls Tryd.prog 24 #[.agg #[.int .i64 k, .int .i64 h, .int .i64 n, .int .i64 s, .int .i64 a, .int .i64 t, .int .i64 q, .int .i64 c, .string d]] w fun e w' => e = .returned (.bool false) ∧ Below w.heap.size w w' := by
  have d_data : decide ((64 : Int) < (d.size : Int)) = false := by simp; omega
  have dl_seq : decide (q < 0) = false := by simp; omega
  have du_seq : decide ((1048575 : Int) < q) = false := by simp; omega
  have dl_address : decide (a < 0) = false := by simp; omega
  have du_address : decide ((16 : Int) ≤ a) = false := by simp; omega
  have N_half := Lib.hid (rnumb h true n_half)
  clear n_half
  have N_nonce := Lib.hid (rnumb n false n_nonce)
  clear n_nonce
  go_enter Tryd.func24, Tryd.ntmps24
  go_wp2_with (go_at_call 38; first | ((with_reducible refine (N_half.out _).mono ?_); rintro e w1 ⟨rfl, rfl⟩) | ((with_reducible refine (N_nonce.out _).mono ?_); rintro e w1 ⟨rfl, rfl⟩))
  go_ret
  exact ⟨rfl, by repeat (first | exact Below.refl _ _ | refine Below.setCell ?_ (by simp) _ | refine Below.alloc ?_ (by simp) _)⟩

set_option maxHeartbeats 2000000 in
theorem rymay_bad7 (k : Int) (h n s a t q c : Int) (d : ByteArray) (w : World) (r_data : d.size ≤ 64) (l_seq : 0 ≤ q) (u_seq : q ≤ 1048575) (l_address : 0 ≤ a) (u_address : a ≤ 15) (n_half : okNum h = true) (n_nonce : okNum n = true) (n_session : okNum s = false) :
    Calls Tryd.prog 24 #[.agg #[.int .i64 k, .int .i64 h, .int .i64 n, .int .i64 s, .int .i64 a, .int .i64 t, .int .i64 q, .int .i64 c, .string d]] w fun e w' => e = .returned (.bool false) ∧ Below w.heap.size w w' := by
  have d_data : decide ((64 : Int) < (d.size : Int)) = false := by simp; omega
  have dl_seq : decide (q < 0) = false := by simp; omega
  have du_seq : decide ((1048575 : Int) < q) = false := by simp; omega
  have dl_address : decide (a < 0) = false := by simp; omega
  have du_address : decide ((16 : Int) ≤ a) = false := by simp; omega
  have N_half := Lib.hid (rnumb h true n_half)
  clear n_half
  have N_nonce := Lib.hid (rnumb n true n_nonce)
  clear n_nonce
  have N_session := Lib.hid (rnumb s false n_session)
  clear n_session
  go_enter Tryd.func24, Tryd.ntmps24
  go_wp2_with (go_at_call 38; first | ((with_reducible refine (N_half.out _).mono ?_); rintro e w1 ⟨rfl, rfl⟩) | ((with_reducible refine (N_nonce.out _).mono ?_); rintro e w1 ⟨rfl, rfl⟩) | ((with_reducible refine (N_session.out _).mono ?_); rintro e w1 ⟨rfl, rfl⟩))
  go_ret
  exact ⟨rfl, by repeat (first | exact Below.refl _ _ | refine Below.setCell ?_ (by simp) _ | refine Below.alloc ?_ (by simp) _)⟩

set_option maxHeartbeats 2000000 in
theorem rymay_bad8 (k : Int) (h n s a t q c : Int) (d : ByteArray) (w : World) (r_data : d.size ≤ 64) (l_seq : 0 ≤ q) (u_seq : q ≤ 1048575) (l_address : 0 ≤ a) (u_address : a ≤ 15) (n_half : okNum h = true) (n_nonce : okNum n = true) (n_session : okNum s = true) (n_ticket : okNum t = false) :
    Calls Tryd.prog 24 #[.agg #[.int .i64 k, .int .i64 h, .int .i64 n, .int .i64 s, .int .i64 a, .int .i64 t, .int .i64 q, .int .i64 c, .string d]] w fun e w' => e = .returned (.bool false) ∧ Below w.heap.size w w' := by
  have d_data : decide ((64 : Int) < (d.size : Int)) = false := by simp; omega
  have dl_seq : decide (q < 0) = false := by simp; omega
  have du_seq : decide ((1048575 : Int) < q) = false := by simp; omega
  have dl_address : decide (a < 0) = false := by simp; omega
  have du_address : decide ((16 : Int) ≤ a) = false := by simp; omega
  have N_half := Lib.hid (rnumb h true n_half)
  clear n_half
  have N_nonce := Lib.hid (rnumb n true n_nonce)
  clear n_nonce
  have N_session := Lib.hid (rnumb s true n_session)
  clear n_session
  have N_ticket := Lib.hid (rnumb t false n_ticket)
  clear n_ticket
  go_enter Tryd.func24, Tryd.ntmps24
  go_wp2_with (go_at_call 38; first | ((with_reducible refine (N_half.out _).mono ?_); rintro e w1 ⟨rfl, rfl⟩) | ((with_reducible refine (N_nonce.out _).mono ?_); rintro e w1 ⟨rfl, rfl⟩) | ((with_reducible refine (N_session.out _).mono ?_); rintro e w1 ⟨rfl, rfl⟩) | ((with_reducible refine (N_ticket.out _).mono ?_); rintro e w1 ⟨rfl, rfl⟩))
  go_ret
  exact ⟨rfl, by repeat (first | exact Below.refl _ _ | refine Below.setCell ?_ (by simp) _ | refine Below.alloc ?_ (by simp) _)⟩

set_option maxHeartbeats 2000000 in
theorem rymay_bad9 (k : Int) (h n s a t q c : Int) (d : ByteArray) (w : World) (r_data : d.size ≤ 64) (l_seq : 0 ≤ q) (u_seq : q ≤ 1048575) (l_address : 0 ≤ a) (u_address : a ≤ 15) (n_half : okNum h = true) (n_nonce : okNum n = true) (n_session : okNum s = true) (n_ticket : okNum t = true) (n_code : okNum c = false) :
    Calls Tryd.prog 24 #[.agg #[.int .i64 k, .int .i64 h, .int .i64 n, .int .i64 s, .int .i64 a, .int .i64 t, .int .i64 q, .int .i64 c, .string d]] w fun e w' => e = .returned (.bool false) ∧ Below w.heap.size w w' := by
  have d_data : decide ((64 : Int) < (d.size : Int)) = false := by simp; omega
  have dl_seq : decide (q < 0) = false := by simp; omega
  have du_seq : decide ((1048575 : Int) < q) = false := by simp; omega
  have dl_address : decide (a < 0) = false := by simp; omega
  have du_address : decide ((16 : Int) ≤ a) = false := by simp; omega
  have N_half := Lib.hid (rnumb h true n_half)
  clear n_half
  have N_nonce := Lib.hid (rnumb n true n_nonce)
  clear n_nonce
  have N_session := Lib.hid (rnumb s true n_session)
  clear n_session
  have N_ticket := Lib.hid (rnumb t true n_ticket)
  clear n_ticket
  have N_code := Lib.hid (rnumb c false n_code)
  clear n_code
  go_enter Tryd.func24, Tryd.ntmps24
  go_wp2_with (go_at_call 38; first | ((with_reducible refine (N_half.out _).mono ?_); rintro e w1 ⟨rfl, rfl⟩) | ((with_reducible refine (N_nonce.out _).mono ?_); rintro e w1 ⟨rfl, rfl⟩) | ((with_reducible refine (N_session.out _).mono ?_); rintro e w1 ⟨rfl, rfl⟩) | ((with_reducible refine (N_ticket.out _).mono ?_); rintro e w1 ⟨rfl, rfl⟩) | ((with_reducible refine (N_code.out _).mono ?_); rintro e w1 ⟨rfl, rfl⟩))
  go_ret
  exact ⟨rfl, by repeat (first | exact Below.refl _ _ | refine Below.setCell ?_ (by simp) _ | refine Below.alloc ?_ (by simp) _)⟩

set_option maxHeartbeats 4000000 in
theorem rymay_k0 (h n s a t q c : Int) (d : ByteArray) (B : Bool) (w : World) (r_data : d.size ≤ 64) (l_seq : 0 ≤ q) (u_seq : q ≤ 1048575) (l_address : 0 ≤ a) (u_address : a ≤ 15) (n_half : okNum h = true) (n_nonce : okNum n = true) (n_session : okNum s = true) (n_ticket : okNum t = true) (n_code : okNum c = true) (hB : (s = 0 ∧ a = 0 ∧ t = 0 ∧ q = 0 ∧ c = 0 ∧ d.toList = [] → B = true) ∧ (¬ (s = 0 ∧ a = 0 ∧ t = 0 ∧ q = 0 ∧ c = 0 ∧ d.toList = []) → B = false)) :
    Calls Tryd.prog 24 #[.agg #[.int .i64 0, .int .i64 h, .int .i64 n, .int .i64 s, .int .i64 a, .int .i64 t, .int .i64 q, .int .i64 c, .string d]] w fun e w' => e = .returned (.bool B) ∧ Below w.heap.size w w' := by
  have d_data : decide ((64 : Int) < (d.size : Int)) = false := by simp; omega
  have dl_seq : decide (q < 0) = false := by simp; omega
  have du_seq : decide ((1048575 : Int) < q) = false := by simp; omega
  have dl_address : decide (a < 0) = false := by simp; omega
  have du_address : decide ((16 : Int) ≤ a) = false := by simp; omega
  have N_half := Lib.hid (rnumb h true n_half)
  clear n_half
  have N_nonce := Lib.hid (rnumb n true n_nonce)
  clear n_nonce
  have N_session := Lib.hid (rnumb s true n_session)
  clear n_session
  have N_ticket := Lib.hid (rnumb t true n_ticket)
  clear n_ticket
  have N_code := Lib.hid (rnumb c true n_code)
  clear n_code
  have HB := Lib.hid hB
  clear hB
  go_enter Tryd.func24, Tryd.ntmps24
  go_wp2_with (go_at_call 38; first | ((with_reducible refine (N_half.out _).mono ?_); rintro e w1 ⟨rfl, rfl⟩) | ((with_reducible refine (N_nonce.out _).mono ?_); rintro e w1 ⟨rfl, rfl⟩) | ((with_reducible refine (N_session.out _).mono ?_); rintro e w1 ⟨rfl, rfl⟩) | ((with_reducible refine (N_ticket.out _).mono ?_); rintro e w1 ⟨rfl, rfl⟩) | ((with_reducible refine (N_code.out _).mono ?_); rintro e w1 ⟨rfl, rfl⟩))
  all_goals
    go_ret
    refine ⟨congrArg (fun b => Ending.returned (Value.bool b)) ?_, by repeat (first | exact Below.refl _ _ | refine Below.setCell ?_ (by simp) _ | refine Below.alloc ?_ (by simp) _)⟩
    first
      | exact (HB.out.1 (by simp [*])).symm
      | exact (HB.out.2 (by simp [*])).symm

set_option maxHeartbeats 4000000 in
theorem rymay_k1 (h n s a t q c : Int) (d : ByteArray) (B : Bool) (w : World) (r_data : d.size ≤ 64) (l_seq : 0 ≤ q) (u_seq : q ≤ 1048575) (l_address : 0 ≤ a) (u_address : a ≤ 15) (n_half : okNum h = true) (n_nonce : okNum n = true) (n_session : okNum s = true) (n_ticket : okNum t = true) (n_code : okNum c = true) (hB : (h = 0 ∧ n = 0 ∧ q = 0 ∧ c = 0 ∧ d.toList = [] → B = true) ∧ (¬ (h = 0 ∧ n = 0 ∧ q = 0 ∧ c = 0 ∧ d.toList = []) → B = false)) :
    Calls Tryd.prog 24 #[.agg #[.int .i64 1, .int .i64 h, .int .i64 n, .int .i64 s, .int .i64 a, .int .i64 t, .int .i64 q, .int .i64 c, .string d]] w fun e w' => e = .returned (.bool B) ∧ Below w.heap.size w w' := by
  have d_data : decide ((64 : Int) < (d.size : Int)) = false := by simp; omega
  have dl_seq : decide (q < 0) = false := by simp; omega
  have du_seq : decide ((1048575 : Int) < q) = false := by simp; omega
  have dl_address : decide (a < 0) = false := by simp; omega
  have du_address : decide ((16 : Int) ≤ a) = false := by simp; omega
  have N_half := Lib.hid (rnumb h true n_half)
  clear n_half
  have N_nonce := Lib.hid (rnumb n true n_nonce)
  clear n_nonce
  have N_session := Lib.hid (rnumb s true n_session)
  clear n_session
  have N_ticket := Lib.hid (rnumb t true n_ticket)
  clear n_ticket
  have N_code := Lib.hid (rnumb c true n_code)
  clear n_code
  have HB := Lib.hid hB
  clear hB
  go_enter Tryd.func24, Tryd.ntmps24
  go_wp2_with (go_at_call 38; first | ((with_reducible refine (N_half.out _).mono ?_); rintro e w1 ⟨rfl, rfl⟩) | ((with_reducible refine (N_nonce.out _).mono ?_); rintro e w1 ⟨rfl, rfl⟩) | ((with_reducible refine (N_session.out _).mono ?_); rintro e w1 ⟨rfl, rfl⟩) | ((with_reducible refine (N_ticket.out _).mono ?_); rintro e w1 ⟨rfl, rfl⟩) | ((with_reducible refine (N_code.out _).mono ?_); rintro e w1 ⟨rfl, rfl⟩))
  all_goals
    go_ret
    refine ⟨congrArg (fun b => Ending.returned (Value.bool b)) ?_, by repeat (first | exact Below.refl _ _ | refine Below.setCell ?_ (by simp) _ | refine Below.alloc ?_ (by simp) _)⟩
    first
      | exact (HB.out.1 (by simp [*])).symm
      | exact (HB.out.2 (by simp [*])).symm

set_option maxHeartbeats 4000000 in
theorem rymay_k2 (h n s a t q c : Int) (d : ByteArray) (B : Bool) (w : World) (r_data : d.size ≤ 64) (l_seq : 0 ≤ q) (u_seq : q ≤ 1048575) (l_address : 0 ≤ a) (u_address : a ≤ 15) (n_half : okNum h = true) (n_nonce : okNum n = true) (n_session : okNum s = true) (n_ticket : okNum t = true) (n_code : okNum c = true) (hB : (h = 0 ∧ n = 0 ∧ a = 0 ∧ t = 0 ∧ c = 0 → B = true) ∧ (¬ (h = 0 ∧ n = 0 ∧ a = 0 ∧ t = 0 ∧ c = 0) → B = false)) :
    Calls Tryd.prog 24 #[.agg #[.int .i64 2, .int .i64 h, .int .i64 n, .int .i64 s, .int .i64 a, .int .i64 t, .int .i64 q, .int .i64 c, .string d]] w fun e w' => e = .returned (.bool B) ∧ Below w.heap.size w w' := by
  have d_data : decide ((64 : Int) < (d.size : Int)) = false := by simp; omega
  have dl_seq : decide (q < 0) = false := by simp; omega
  have du_seq : decide ((1048575 : Int) < q) = false := by simp; omega
  have dl_address : decide (a < 0) = false := by simp; omega
  have du_address : decide ((16 : Int) ≤ a) = false := by simp; omega
  have N_half := Lib.hid (rnumb h true n_half)
  clear n_half
  have N_nonce := Lib.hid (rnumb n true n_nonce)
  clear n_nonce
  have N_session := Lib.hid (rnumb s true n_session)
  clear n_session
  have N_ticket := Lib.hid (rnumb t true n_ticket)
  clear n_ticket
  have N_code := Lib.hid (rnumb c true n_code)
  clear n_code
  have HB := Lib.hid hB
  clear hB
  go_enter Tryd.func24, Tryd.ntmps24
  go_wp2_with (go_at_call 38; first | ((with_reducible refine (N_half.out _).mono ?_); rintro e w1 ⟨rfl, rfl⟩) | ((with_reducible refine (N_nonce.out _).mono ?_); rintro e w1 ⟨rfl, rfl⟩) | ((with_reducible refine (N_session.out _).mono ?_); rintro e w1 ⟨rfl, rfl⟩) | ((with_reducible refine (N_ticket.out _).mono ?_); rintro e w1 ⟨rfl, rfl⟩) | ((with_reducible refine (N_code.out _).mono ?_); rintro e w1 ⟨rfl, rfl⟩))
  all_goals
    go_ret
    refine ⟨congrArg (fun b => Ending.returned (Value.bool b)) ?_, by repeat (first | exact Below.refl _ _ | refine Below.setCell ?_ (by simp) _ | refine Below.alloc ?_ (by simp) _)⟩
    first
      | exact (HB.out.1 (by simp [*])).symm
      | exact (HB.out.2 (by simp [*])).symm

set_option maxHeartbeats 4000000 in
theorem rymay_k3 (h n s a t q c : Int) (d : ByteArray) (B : Bool) (w : World) (r_data : d.size ≤ 64) (l_seq : 0 ≤ q) (u_seq : q ≤ 1048575) (l_address : 0 ≤ a) (u_address : a ≤ 15) (n_half : okNum h = true) (n_nonce : okNum n = true) (n_session : okNum s = true) (n_ticket : okNum t = true) (n_code : okNum c = true) (hl : c ≤ 11) (hB : (h = 0 ∧ n = 0 ∧ s = 0 ∧ a = 0 ∧ t = 0 ∧ q = 0 ∧ d.toList = [] → B = true) ∧ (¬ (h = 0 ∧ n = 0 ∧ s = 0 ∧ a = 0 ∧ t = 0 ∧ q = 0 ∧ d.toList = []) → B = false)) :
    Calls Tryd.prog 24 #[.agg #[.int .i64 3, .int .i64 h, .int .i64 n, .int .i64 s, .int .i64 a, .int .i64 t, .int .i64 q, .int .i64 c, .string d]] w fun e w' => e = .returned (.bool B) ∧ Below w.heap.size w w' := by
  have d_data : decide ((64 : Int) < (d.size : Int)) = false := by simp; omega
  have dl_seq : decide (q < 0) = false := by simp; omega
  have du_seq : decide ((1048575 : Int) < q) = false := by simp; omega
  have dl_address : decide (a < 0) = false := by simp; omega
  have du_address : decide ((16 : Int) ≤ a) = false := by simp; omega
  have N_half := Lib.hid (rnumb h true n_half)
  clear n_half
  have N_nonce := Lib.hid (rnumb n true n_nonce)
  clear n_nonce
  have N_session := Lib.hid (rnumb s true n_session)
  clear n_session
  have N_ticket := Lib.hid (rnumb t true n_ticket)
  clear n_ticket
  have N_code := Lib.hid (rnumb c true n_code)
  clear n_code
  have d_lim : decide ((11 : Int) < c) = false := by simp; omega
  have HB := Lib.hid hB
  clear hB
  go_enter Tryd.func24, Tryd.ntmps24
  go_wp2_with (go_at_call 38; first | ((with_reducible refine (N_half.out _).mono ?_); rintro e w1 ⟨rfl, rfl⟩) | ((with_reducible refine (N_nonce.out _).mono ?_); rintro e w1 ⟨rfl, rfl⟩) | ((with_reducible refine (N_session.out _).mono ?_); rintro e w1 ⟨rfl, rfl⟩) | ((with_reducible refine (N_ticket.out _).mono ?_); rintro e w1 ⟨rfl, rfl⟩) | ((with_reducible refine (N_code.out _).mono ?_); rintro e w1 ⟨rfl, rfl⟩))
  all_goals
    go_ret
    refine ⟨congrArg (fun b => Ending.returned (Value.bool b)) ?_, by repeat (first | exact Below.refl _ _ | refine Below.setCell ?_ (by simp) _ | refine Below.alloc ?_ (by simp) _)⟩
    first
      | exact (HB.out.1 (by simp [*])).symm
      | exact (HB.out.2 (by simp [*])).symm

set_option maxHeartbeats 4000000 in
theorem rymay_x3 (h n s a t q c : Int) (d : ByteArray) (w : World) (r_data : d.size ≤ 64) (l_seq : 0 ≤ q) (u_seq : q ≤ 1048575) (l_address : 0 ≤ a) (u_address : a ≤ 15) (n_half : okNum h = true) (n_nonce : okNum n = true) (n_session : okNum s = true) (n_ticket : okNum t = true) (n_code : okNum c = true) (hl : 11 < c) :
    Calls Tryd.prog 24 #[.agg #[.int .i64 3, .int .i64 h, .int .i64 n, .int .i64 s, .int .i64 a, .int .i64 t, .int .i64 q, .int .i64 c, .string d]] w fun e w' => e = .returned (.bool false) ∧ Below w.heap.size w w' := by
  have d_data : decide ((64 : Int) < (d.size : Int)) = false := by simp; omega
  have dl_seq : decide (q < 0) = false := by simp; omega
  have du_seq : decide ((1048575 : Int) < q) = false := by simp; omega
  have dl_address : decide (a < 0) = false := by simp; omega
  have du_address : decide ((16 : Int) ≤ a) = false := by simp; omega
  have N_half := Lib.hid (rnumb h true n_half)
  clear n_half
  have N_nonce := Lib.hid (rnumb n true n_nonce)
  clear n_nonce
  have N_session := Lib.hid (rnumb s true n_session)
  clear n_session
  have N_ticket := Lib.hid (rnumb t true n_ticket)
  clear n_ticket
  have N_code := Lib.hid (rnumb c true n_code)
  clear n_code
  have d_lim : decide ((11 : Int) < c) = true := by simp; omega
  go_enter Tryd.func24, Tryd.ntmps24
  go_wp2_with (go_at_call 38; first | ((with_reducible refine (N_half.out _).mono ?_); rintro e w1 ⟨rfl, rfl⟩) | ((with_reducible refine (N_nonce.out _).mono ?_); rintro e w1 ⟨rfl, rfl⟩) | ((with_reducible refine (N_session.out _).mono ?_); rintro e w1 ⟨rfl, rfl⟩) | ((with_reducible refine (N_ticket.out _).mono ?_); rintro e w1 ⟨rfl, rfl⟩) | ((with_reducible refine (N_code.out _).mono ?_); rintro e w1 ⟨rfl, rfl⟩))
  go_ret
  exact ⟨rfl, by repeat (first | exact Below.refl _ _ | refine Below.setCell ?_ (by simp) _ | refine Below.alloc ?_ (by simp) _)⟩

set_option maxHeartbeats 4000000 in
theorem rymay_k4 (h n s a t q c : Int) (d : ByteArray) (B : Bool) (w : World) (r_data : d.size ≤ 64) (l_seq : 0 ≤ q) (u_seq : q ≤ 1048575) (l_address : 0 ≤ a) (u_address : a ≤ 15) (n_half : okNum h = true) (n_nonce : okNum n = true) (n_session : okNum s = true) (n_ticket : okNum t = true) (n_code : okNum c = true) (hl : c ≤ 4) (hB : (h = 0 ∧ n = 0 ∧ a = 0 ∧ t = 0 ∧ q = 0 ∧ d.toList = [] → B = true) ∧ (¬ (h = 0 ∧ n = 0 ∧ a = 0 ∧ t = 0 ∧ q = 0 ∧ d.toList = []) → B = false)) :
    Calls Tryd.prog 24 #[.agg #[.int .i64 4, .int .i64 h, .int .i64 n, .int .i64 s, .int .i64 a, .int .i64 t, .int .i64 q, .int .i64 c, .string d]] w fun e w' => e = .returned (.bool B) ∧ Below w.heap.size w w' := by
  have d_data : decide ((64 : Int) < (d.size : Int)) = false := by simp; omega
  have dl_seq : decide (q < 0) = false := by simp; omega
  have du_seq : decide ((1048575 : Int) < q) = false := by simp; omega
  have dl_address : decide (a < 0) = false := by simp; omega
  have du_address : decide ((16 : Int) ≤ a) = false := by simp; omega
  have N_half := Lib.hid (rnumb h true n_half)
  clear n_half
  have N_nonce := Lib.hid (rnumb n true n_nonce)
  clear n_nonce
  have N_session := Lib.hid (rnumb s true n_session)
  clear n_session
  have N_ticket := Lib.hid (rnumb t true n_ticket)
  clear n_ticket
  have N_code := Lib.hid (rnumb c true n_code)
  clear n_code
  have d_lim : decide ((4 : Int) < c) = false := by simp; omega
  have HB := Lib.hid hB
  clear hB
  go_enter Tryd.func24, Tryd.ntmps24
  go_wp2_with (go_at_call 38; first | ((with_reducible refine (N_half.out _).mono ?_); rintro e w1 ⟨rfl, rfl⟩) | ((with_reducible refine (N_nonce.out _).mono ?_); rintro e w1 ⟨rfl, rfl⟩) | ((with_reducible refine (N_session.out _).mono ?_); rintro e w1 ⟨rfl, rfl⟩) | ((with_reducible refine (N_ticket.out _).mono ?_); rintro e w1 ⟨rfl, rfl⟩) | ((with_reducible refine (N_code.out _).mono ?_); rintro e w1 ⟨rfl, rfl⟩))
  all_goals
    go_ret
    refine ⟨congrArg (fun b => Ending.returned (Value.bool b)) ?_, by repeat (first | exact Below.refl _ _ | refine Below.setCell ?_ (by simp) _ | refine Below.alloc ?_ (by simp) _)⟩
    first
      | exact (HB.out.1 (by simp [*])).symm
      | exact (HB.out.2 (by simp [*])).symm

set_option maxHeartbeats 4000000 in
theorem rymay_x4 (h n s a t q c : Int) (d : ByteArray) (w : World) (r_data : d.size ≤ 64) (l_seq : 0 ≤ q) (u_seq : q ≤ 1048575) (l_address : 0 ≤ a) (u_address : a ≤ 15) (n_half : okNum h = true) (n_nonce : okNum n = true) (n_session : okNum s = true) (n_ticket : okNum t = true) (n_code : okNum c = true) (hl : 4 < c) :
    Calls Tryd.prog 24 #[.agg #[.int .i64 4, .int .i64 h, .int .i64 n, .int .i64 s, .int .i64 a, .int .i64 t, .int .i64 q, .int .i64 c, .string d]] w fun e w' => e = .returned (.bool false) ∧ Below w.heap.size w w' := by
  have d_data : decide ((64 : Int) < (d.size : Int)) = false := by simp; omega
  have dl_seq : decide (q < 0) = false := by simp; omega
  have du_seq : decide ((1048575 : Int) < q) = false := by simp; omega
  have dl_address : decide (a < 0) = false := by simp; omega
  have du_address : decide ((16 : Int) ≤ a) = false := by simp; omega
  have N_half := Lib.hid (rnumb h true n_half)
  clear n_half
  have N_nonce := Lib.hid (rnumb n true n_nonce)
  clear n_nonce
  have N_session := Lib.hid (rnumb s true n_session)
  clear n_session
  have N_ticket := Lib.hid (rnumb t true n_ticket)
  clear n_ticket
  have N_code := Lib.hid (rnumb c true n_code)
  clear n_code
  have d_lim : decide ((4 : Int) < c) = true := by simp; omega
  go_enter Tryd.func24, Tryd.ntmps24
  go_wp2_with (go_at_call 38; first | ((with_reducible refine (N_half.out _).mono ?_); rintro e w1 ⟨rfl, rfl⟩) | ((with_reducible refine (N_nonce.out _).mono ?_); rintro e w1 ⟨rfl, rfl⟩) | ((with_reducible refine (N_session.out _).mono ?_); rintro e w1 ⟨rfl, rfl⟩) | ((with_reducible refine (N_ticket.out _).mono ?_); rintro e w1 ⟨rfl, rfl⟩) | ((with_reducible refine (N_code.out _).mono ?_); rintro e w1 ⟨rfl, rfl⟩))
  go_ret
  exact ⟨rfl, by repeat (first | exact Below.refl _ _ | refine Below.setCell ?_ (by simp) _ | refine Below.alloc ?_ (by simp) _)⟩

set_option maxHeartbeats 4000000 in
theorem rymay_k5 (h n s a t q c : Int) (d : ByteArray) (B : Bool) (w : World) (r_data : d.size ≤ 64) (l_seq : 0 ≤ q) (u_seq : q ≤ 1048575) (l_address : 0 ≤ a) (u_address : a ≤ 15) (n_half : okNum h = true) (n_nonce : okNum n = true) (n_session : okNum s = true) (n_ticket : okNum t = true) (n_code : okNum c = true) (hB : (h = 0 ∧ n = 0 ∧ s = 0 ∧ a = 0 ∧ t = 0 ∧ q = 0 ∧ c = 0 ∧ d.toList = [] → B = true) ∧ (¬ (h = 0 ∧ n = 0 ∧ s = 0 ∧ a = 0 ∧ t = 0 ∧ q = 0 ∧ c = 0 ∧ d.toList = []) → B = false)) :
    Calls Tryd.prog 24 #[.agg #[.int .i64 5, .int .i64 h, .int .i64 n, .int .i64 s, .int .i64 a, .int .i64 t, .int .i64 q, .int .i64 c, .string d]] w fun e w' => e = .returned (.bool B) ∧ Below w.heap.size w w' := by
  have d_data : decide ((64 : Int) < (d.size : Int)) = false := by simp; omega
  have dl_seq : decide (q < 0) = false := by simp; omega
  have du_seq : decide ((1048575 : Int) < q) = false := by simp; omega
  have dl_address : decide (a < 0) = false := by simp; omega
  have du_address : decide ((16 : Int) ≤ a) = false := by simp; omega
  have N_half := Lib.hid (rnumb h true n_half)
  clear n_half
  have N_nonce := Lib.hid (rnumb n true n_nonce)
  clear n_nonce
  have N_session := Lib.hid (rnumb s true n_session)
  clear n_session
  have N_ticket := Lib.hid (rnumb t true n_ticket)
  clear n_ticket
  have N_code := Lib.hid (rnumb c true n_code)
  clear n_code
  have HB := Lib.hid hB
  clear hB
  go_enter Tryd.func24, Tryd.ntmps24
  go_wp2_with (go_at_call 38; first | ((with_reducible refine (N_half.out _).mono ?_); rintro e w1 ⟨rfl, rfl⟩) | ((with_reducible refine (N_nonce.out _).mono ?_); rintro e w1 ⟨rfl, rfl⟩) | ((with_reducible refine (N_session.out _).mono ?_); rintro e w1 ⟨rfl, rfl⟩) | ((with_reducible refine (N_ticket.out _).mono ?_); rintro e w1 ⟨rfl, rfl⟩) | ((with_reducible refine (N_code.out _).mono ?_); rintro e w1 ⟨rfl, rfl⟩))
  all_goals
    go_ret
    refine ⟨congrArg (fun b => Ending.returned (Value.bool b)) ?_, by repeat (first | exact Below.refl _ _ | refine Below.setCell ?_ (by simp) _ | refine Below.alloc ?_ (by simp) _)⟩
    first
      | exact (HB.out.1 (by simp [*])).symm
      | exact (HB.out.2 (by simp [*])).symm

set_option maxHeartbeats 2000000 in
theorem rymay_else (k : Int) (h n s a t q c : Int) (d : ByteArray) (w : World) (r_data : d.size ≤ 64) (l_seq : 0 ≤ q) (u_seq : q ≤ 1048575) (l_address : 0 ≤ a) (u_address : a ≤ 15) (n_half : okNum h = true) (n_nonce : okNum n = true) (n_session : okNum s = true) (n_ticket : okNum t = true) (n_code : okNum c = true) (h0 : k ≠ 0) (h1 : k ≠ 1) (h2 : k ≠ 2) (h3 : k ≠ 3) (h4 : k ≠ 4) (h5 : k ≠ 5) :
    Calls Tryd.prog 24 #[.agg #[.int .i64 k, .int .i64 h, .int .i64 n, .int .i64 s, .int .i64 a, .int .i64 t, .int .i64 q, .int .i64 c, .string d]] w fun e w' => e = .returned (.bool false) ∧ Below w.heap.size w w' := by
  have d_data : decide ((64 : Int) < (d.size : Int)) = false := by simp; omega
  have dl_seq : decide (q < 0) = false := by simp; omega
  have du_seq : decide ((1048575 : Int) < q) = false := by simp; omega
  have dl_address : decide (a < 0) = false := by simp; omega
  have du_address : decide ((16 : Int) ≤ a) = false := by simp; omega
  have N_half := Lib.hid (rnumb h true n_half)
  clear n_half
  have N_nonce := Lib.hid (rnumb n true n_nonce)
  clear n_nonce
  have N_session := Lib.hid (rnumb s true n_session)
  clear n_session
  have N_ticket := Lib.hid (rnumb t true n_ticket)
  clear n_ticket
  have N_code := Lib.hid (rnumb c true n_code)
  clear n_code
  have g0 : (k == 0) = false := by simpa using h0
  clear h0
  have g1 : (k == 1) = false := by simpa using h1
  clear h1
  have g2 : (k == 2) = false := by simpa using h2
  clear h2
  have g3 : (k == 3) = false := by simpa using h3
  clear h3
  have g4 : (k == 4) = false := by simpa using h4
  clear h4
  have g5 : (k == 5) = false := by simpa using h5
  clear h5
  go_enter Tryd.func24, Tryd.ntmps24
  go_wp2_with (go_at_call 38; first | ((with_reducible refine (N_half.out _).mono ?_); rintro e w1 ⟨rfl, rfl⟩) | ((with_reducible refine (N_nonce.out _).mono ?_); rintro e w1 ⟨rfl, rfl⟩) | ((with_reducible refine (N_session.out _).mono ?_); rintro e w1 ⟨rfl, rfl⟩) | ((with_reducible refine (N_ticket.out _).mono ?_); rintro e w1 ⟨rfl, rfl⟩) | ((with_reducible refine (N_code.out _).mono ?_); rintro e w1 ⟨rfl, rfl⟩))
  go_ret
  exact ⟨rfl, by repeat (first | exact Below.refl _ _ | refine Below.setCell ?_ (by simp) _ | refine Below.alloc ?_ (by simp) _)⟩

theorem rymay_rng {p : Ry} (h : p.rng = false) : p.may = false := by unfold Ry.may; rw [h]; rfl
set_option maxHeartbeats 2000000 in
theorem rymay (p : Ry) (w : World) : Calls Tryd.prog 24 #[p.val] w fun e w' => e = .returned (.bool p.may) ∧ Below w.heap.size w w' := by
  obtain ⟨k, h, n, s, a, t, q, c, d⟩ := p
  show Calls Tryd.prog 24 #[.agg #[.int .i64 k, .int .i64 h, .int .i64 n, .int .i64 s, .int .i64 a, .int .i64 t, .int .i64 q, .int .i64 c, .string d]] w _
  by_cases r_data : 64 < d.size
  · rw [rymay_rng (by unfold Ry.rng; simp; omega)]; exact rymay_bad0 k h n s a t q c d w r_data
  replace r_data : d.size ≤ 64 := by omega
  by_cases l_seq : q < 0
  · rw [rymay_rng (by unfold Ry.rng; simp; omega)]; exact rymay_bad1 k h n s a t q c d w r_data l_seq
  replace l_seq : 0 ≤ q := by omega
  by_cases u_seq : 1048575 < q
  · rw [rymay_rng (by unfold Ry.rng; simp; omega)]; exact rymay_bad2 k h n s a t q c d w r_data l_seq u_seq
  replace u_seq : q ≤ 1048575 := by omega
  by_cases l_address : a < 0
  · rw [rymay_rng (by unfold Ry.rng; simp; omega)]; exact rymay_bad3 k h n s a t q c d w r_data l_seq u_seq l_address
  replace l_address : 0 ≤ a := by omega
  by_cases u_address : 15 < a
  · rw [rymay_rng (by unfold Ry.rng; simp; omega)]; exact rymay_bad4 k h n s a t q c d w r_data l_seq u_seq l_address u_address
  replace u_address : a ≤ 15 := by omega
  by_cases n_half : okNum h = false
  · rw [rymay_rng (by unfold Ry.rng; simp [n_half])]; exact rymay_bad5 k h n s a t q c d w r_data l_seq u_seq l_address u_address n_half
  replace n_half : okNum h = true := by simpa using n_half
  by_cases n_nonce : okNum n = false
  · rw [rymay_rng (by unfold Ry.rng; simp [n_nonce])]; exact rymay_bad6 k h n s a t q c d w r_data l_seq u_seq l_address u_address n_half n_nonce
  replace n_nonce : okNum n = true := by simpa using n_nonce
  by_cases n_session : okNum s = false
  · rw [rymay_rng (by unfold Ry.rng; simp [n_session])]; exact rymay_bad7 k h n s a t q c d w r_data l_seq u_seq l_address u_address n_half n_nonce n_session
  replace n_session : okNum s = true := by simpa using n_session
  by_cases n_ticket : okNum t = false
  · rw [rymay_rng (by unfold Ry.rng; simp [n_ticket])]; exact rymay_bad8 k h n s a t q c d w r_data l_seq u_seq l_address u_address n_half n_nonce n_session n_ticket
  replace n_ticket : okNum t = true := by simpa using n_ticket
  by_cases n_code : okNum c = false
  · rw [rymay_rng (by unfold Ry.rng; simp [n_code])]; exact rymay_bad9 k h n s a t q c d w r_data l_seq u_seq l_address u_address n_half n_nonce n_session n_ticket n_code
  replace n_code : okNum c = true := by simpa using n_code
  have hr : (Ry.mk k h n s a t q c d).rng = true := (Ry.rng_iff _).2 ⟨r_data, l_seq, u_seq, l_address, u_address, n_half, n_nonce, n_session, n_ticket, n_code⟩
  have hm : (Ry.mk k h n s a t q c d).may = (decide ((Ry.mk k h n s a t q c d).part = some (Ry.mk k h n s a t q c d)) && (Ry.mk k h n s a t q c d).lim) := by unfold Ry.may; rw [hr]; rfl
  rw [hm]
  by_cases h0 : k = 0
  · subst h0
    refine rymay_k0 h n s a t q c d _ w r_data l_seq u_seq l_address u_address n_half n_nonce n_session n_ticket n_code ⟨?_, ?_⟩ <;> intro e <;> rw [isE] at e <;> simp [Ry.part, Ry.lim] <;> grind
  by_cases h1 : k = 1
  · subst h1
    refine rymay_k1 h n s a t q c d _ w r_data l_seq u_seq l_address u_address n_half n_nonce n_session n_ticket n_code ⟨?_, ?_⟩ <;> intro e <;> rw [isE] at e <;> simp [Ry.part, Ry.lim] <;> grind
  by_cases h2 : k = 2
  · subst h2
    refine rymay_k2 h n s a t q c d _ w r_data l_seq u_seq l_address u_address n_half n_nonce n_session n_ticket n_code ⟨?_, ?_⟩ <;> intro e <;> simp [Ry.part, Ry.lim] <;> grind
  by_cases h3 : k = 3
  · subst h3
    by_cases hl : 11 < c
    · rw [show (decide ((Ry.mk 3 h n s a t q c d).part = some (Ry.mk 3 h n s a t q c d)) && (Ry.mk 3 h n s a t q c d).lim) = false by simp [Ry.lim]; omega]
      exact rymay_x3 h n s a t q c d w r_data l_seq u_seq l_address u_address n_half n_nonce n_session n_ticket n_code hl
    replace hl : c ≤ 11 := by omega
    refine rymay_k3 h n s a t q c d _ w r_data l_seq u_seq l_address u_address n_half n_nonce n_session n_ticket n_code hl ⟨?_, ?_⟩ <;> intro e <;> rw [isE] at e <;> simp [Ry.part, Ry.lim] <;> grind
  by_cases h4 : k = 4
  · subst h4
    by_cases hl : 4 < c
    · rw [show (decide ((Ry.mk 4 h n s a t q c d).part = some (Ry.mk 4 h n s a t q c d)) && (Ry.mk 4 h n s a t q c d).lim) = false by simp [Ry.lim]; omega]
      exact rymay_x4 h n s a t q c d w r_data l_seq u_seq l_address u_address n_half n_nonce n_session n_ticket n_code hl
    replace hl : c ≤ 4 := by omega
    refine rymay_k4 h n s a t q c d _ w r_data l_seq u_seq l_address u_address n_half n_nonce n_session n_ticket n_code hl ⟨?_, ?_⟩ <;> intro e <;> rw [isE] at e <;> simp [Ry.part, Ry.lim] <;> grind
  by_cases h5 : k = 5
  · subst h5
    refine rymay_k5 h n s a t q c d _ w r_data l_seq u_seq l_address u_address n_half n_nonce n_session n_ticket n_code ⟨?_, ?_⟩ <;> intro e <;> rw [isE] at e <;> simp [Ry.part, Ry.lim] <;> grind
  have : (decide ((Ry.mk k h n s a t q c d).part = some (Ry.mk k h n s a t q c d)) && (Ry.mk k h n s a t q c d).lim) = false := by simp [Ry.part, h0, h1, h2, h3, h4, h5]
  rw [this]
  exact rymay_else k h n s a t q c d w r_data l_seq u_seq l_address u_address n_half n_nonce n_session n_ticket n_code h0 h1 h2 h3 h4 h5
end Go.Proofs.YthbnkejjipiaaaaDoor
