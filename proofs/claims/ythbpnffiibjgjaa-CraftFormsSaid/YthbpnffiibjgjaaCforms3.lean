/- The walk of CraftForms at three of its nine cases. No condition but which. -/
import Derived.Test.YthbpnffiibjgjaaCforms0
namespace Go.Proofs.Ythbpnffiibjgjaa
open Go Go.RowKit Go.Maps

set_option maxRecDepth 100000 in
set_option maxHeartbeats 8000000 in
theorem forms_6 (n x m : Int) (w : World) (hn : (IntKind.u64.wrap n).tmod 9 = 6) (hm : bits .and .i64 x 1023 = m) (m0 : 0 ≤ m) (m1 : m ≤ 1023) :
    Calls Try.prog 5 #[.int .i64 n, .int .i64 x] w fun e w' => e = .returned (.bool true) ∧ Below w.heap.size w w' := by
  obtain ⟨iB, hi, hz0, hz1, hz2⟩ := info_parts info5
  obtain ⟨d, hd⟩ : ∃ d, 1 + m = d := ⟨_, rfl⟩
  have d0 : 1 ≤ d := by omega
  have d1 : d ≤ 1024 := by omega
  go_enter Try.func5, Try.ntmps5
  go_wp2_with (first
    | (go_at_call 9; (with_reducible refine (awake3 _).mono ?_); rintro e w1 ⟨rfl, hb1⟩; have hS0 := At.none hb1; clear hb1)
    | (go_at_call 26; (with_reducible refine (bnew_ok 1 _ (by omega) (by omega)).mono ?_); rintro e w1 ⟨p, rfl, hb⟩; have hS := At.add emp_good hS0 hb; clear hb)
    | (at_make; refine wpList_make_full _ rfl _ _ 49 rfl 0 5 iB (.int .u8 0) 1 Try.underlying49 hi hz0 hz1 _ _ _ _ 512 rfl rfl (by omega) (by omega) (by rw [hz2]; omega) (by unfold maxLen; omega) (Nat.zero_le _) ?_; intro w2 hown2 hgrow2; replace hS := hS.lay (good1 _ _ _) ((Below.refl _ _).grown hgrow2 (Nat.le_refl _) (fun k h => by cases h)); have hcv := conv_own (l := List.replicate 512 0) (by rw [← madeStr', ← Nat.mul_one 512]; exact hown2); rw [show (⟨(bytesOf (List.replicate 512 0)).toArray⟩ : ByteArray) = zeros from rfl] at hcv; clear hown2 hgrow2)
    | (go_at_call 18; first | ((with_reducible refine (At.op0 (u0 _) emp_good hS).mono ?_); rintro e w1 ⟨rfl, hS1⟩; replace hS := hS1; clear hS1) | ((with_reducible refine (At.op0 (u1 _) emp_good hS).mono ?_); rintro e w1 ⟨rfl, hS1⟩; replace hS := hS1; clear hS1))
    | (go_at_call 20; ((with_reducible refine (At.op0 (v6 _) emp_good hS).mono ?_); rintro e w1 ⟨rfl, hS1⟩; replace hS := hS1; clear hS1))
    | (go_at_call 24; ((with_reducible refine (cseal_nil _ _ _).mono ?_); rintro e w1 ⟨rfl, hb⟩; replace hS := hS.lay (good1 _ _ _) hb; clear hb))
    | (go_at_call 12; first | ((with_reducible refine (At.op0 (u2 _) emp_good hS).mono ?_); rintro e w1 ⟨rfl, hS1⟩; replace hS := hS1; clear hS1) | ((with_reducible refine (At.op0 (u3 _ _ (by omega) (by omega)) emp_good hS).mono ?_); rintro e w1 ⟨rfl, hS1⟩; replace hS := hS1; clear hS1) | ((with_reducible refine (At.op0 (u4 _ _ (by omega) (by omega)) emp_good hS).mono ?_); rintro e w1 ⟨rfl, hS1⟩; replace hS := hS1; clear hS1) | ((with_reducible refine (copen_nil _ _ _).mono ?_); rintro e w1 ⟨rfl, rfl⟩))
    | (go_at_call 11; first | ((with_reducible refine (At.op0 (u5 _ _ (by omega) (by omega)) emp_good hS).mono ?_); rintro e w1 ⟨rfl, hS1⟩; replace hS := hS1; clear hS1) | ((with_reducible refine (u7 _).mono ?_); rintro e w1 ⟨rfl, hb⟩; replace hS := hS.lay (good1 _ _ _) hb; clear hb))
    | (go_at_call 27; ((with_reducible refine (At.op0 (u6 _) emp_good hS).mono ?_); rintro e w1 ⟨rfl, hS1⟩; replace hS := hS1; clear hS1))
    | (go_at_call 16; refine (lnum _ _).mono ?_; rintro e w1 ⟨rfl, rfl⟩))
  go_ret
  exact ⟨rfl, hS.bel⟩

set_option maxRecDepth 100000 in
set_option maxHeartbeats 8000000 in
theorem forms_7 (n x m : Int) (w : World) (hn : (IntKind.u64.wrap n).tmod 9 = 7) (hm : bits .and .i64 x 1023 = m) (m0 : 0 ≤ m) (m1 : m ≤ 1023) :
    Calls Try.prog 5 #[.int .i64 n, .int .i64 x] w fun e w' => e = .returned (.bool true) ∧ Below w.heap.size w w' := by
  obtain ⟨iB, hi, hz0, hz1, hz2⟩ := info_parts info5
  obtain ⟨d, hd⟩ : ∃ d, 1 + m = d := ⟨_, rfl⟩
  have d0 : 1 ≤ d := by omega
  have d1 : d ≤ 1024 := by omega
  go_enter Try.func5, Try.ntmps5
  go_wp2_with (first
    | (go_at_call 9; (with_reducible refine (awake3 _).mono ?_); rintro e w1 ⟨rfl, hb1⟩; have hS0 := At.none hb1; clear hb1)
    | (go_at_call 26; (with_reducible refine (bnew_ok 1 _ (by omega) (by omega)).mono ?_); rintro e w1 ⟨p, rfl, hb⟩; have hS := At.add emp_good hS0 hb; clear hb)
    | (at_make; refine wpList_make_full _ rfl _ _ 49 rfl 0 5 iB (.int .u8 0) 1 Try.underlying49 hi hz0 hz1 _ _ _ _ 512 rfl rfl (by omega) (by omega) (by rw [hz2]; omega) (by unfold maxLen; omega) (Nat.zero_le _) ?_; intro w2 hown2 hgrow2; replace hS := hS.lay (good1 _ _ _) ((Below.refl _ _).grown hgrow2 (Nat.le_refl _) (fun k h => by cases h)); have hcv := conv_own (l := List.replicate 512 0) (by rw [← madeStr', ← Nat.mul_one 512]; exact hown2); rw [show (⟨(bytesOf (List.replicate 512 0)).toArray⟩ : ByteArray) = zeros from rfl] at hcv; clear hown2 hgrow2)
    | (go_at_call 18; first | ((with_reducible refine (At.op0 (u0 _) emp_good hS).mono ?_); rintro e w1 ⟨rfl, hS1⟩; replace hS := hS1; clear hS1) | ((with_reducible refine (At.op0 (u1 _) emp_good hS).mono ?_); rintro e w1 ⟨rfl, hS1⟩; replace hS := hS1; clear hS1))
    | (go_at_call 24; first | ((with_reducible refine (At.op0 (v7 _) emp_good hS).mono ?_); rintro e w1 ⟨rfl, hS1⟩; replace hS := hS1; clear hS1) | ((with_reducible refine (cseal_nil _ _ _).mono ?_); rintro e w1 ⟨rfl, hb⟩; replace hS := hS.lay (good1 _ _ _) hb; clear hb))
    | (go_at_call 12; first | ((with_reducible refine (At.op0 (u2 _) emp_good hS).mono ?_); rintro e w1 ⟨rfl, hS1⟩; replace hS := hS1; clear hS1) | ((with_reducible refine (At.op0 (u3 _ _ (by omega) (by omega)) emp_good hS).mono ?_); rintro e w1 ⟨rfl, hS1⟩; replace hS := hS1; clear hS1) | ((with_reducible refine (At.op0 (u4 _ _ (by omega) (by omega)) emp_good hS).mono ?_); rintro e w1 ⟨rfl, hS1⟩; replace hS := hS1; clear hS1) | ((with_reducible refine (copen_nil _ _ _).mono ?_); rintro e w1 ⟨rfl, rfl⟩))
    | (go_at_call 11; first | ((with_reducible refine (At.op0 (u5 _ _ (by omega) (by omega)) emp_good hS).mono ?_); rintro e w1 ⟨rfl, hS1⟩; replace hS := hS1; clear hS1) | ((with_reducible refine (u7 _).mono ?_); rintro e w1 ⟨rfl, hb⟩; replace hS := hS.lay (good1 _ _ _) hb; clear hb))
    | (go_at_call 27; ((with_reducible refine (At.op0 (u6 _) emp_good hS).mono ?_); rintro e w1 ⟨rfl, hS1⟩; replace hS := hS1; clear hS1))
    | (go_at_call 16; refine (lnum _ _).mono ?_; rintro e w1 ⟨rfl, rfl⟩))
  go_ret
  exact ⟨rfl, hS.bel⟩

set_option maxRecDepth 100000 in
set_option maxHeartbeats 8000000 in
theorem forms_8 (n x m : Int) (w : World) (hn : (IntKind.u64.wrap n).tmod 9 = 8) (hm : bits .and .i64 x 1023 = m) (m0 : 0 ≤ m) (m1 : m ≤ 1023) :
    Calls Try.prog 5 #[.int .i64 n, .int .i64 x] w fun e w' => e = .returned (.bool true) ∧ Below w.heap.size w w' := by
  obtain ⟨iB, hi, hz0, hz1, hz2⟩ := info_parts info5
  obtain ⟨d, hd⟩ : ∃ d, 1 + m = d := ⟨_, rfl⟩
  have d0 : 1 ≤ d := by omega
  have d1 : d ≤ 1024 := by omega
  go_enter Try.func5, Try.ntmps5
  go_wp2_with (first
    | (go_at_call 9; (with_reducible refine (awake3 _).mono ?_); rintro e w1 ⟨rfl, hb1⟩; have hS0 := At.none hb1; clear hb1)
    | (go_at_call 26; (with_reducible refine (bnew_ok 1 _ (by omega) (by omega)).mono ?_); rintro e w1 ⟨p, rfl, hb⟩; have hS := At.add emp_good hS0 hb; clear hb)
    | (at_make; refine wpList_make_full _ rfl _ _ 49 rfl 0 5 iB (.int .u8 0) 1 Try.underlying49 hi hz0 hz1 _ _ _ _ 512 rfl rfl (by omega) (by omega) (by rw [hz2]; omega) (by unfold maxLen; omega) (Nat.zero_le _) ?_; intro w2 hown2 hgrow2; replace hS := hS.lay (good1 _ _ _) ((Below.refl _ _).grown hgrow2 (Nat.le_refl _) (fun k h => by cases h)); have hcv := conv_own (l := List.replicate 512 0) (by rw [← madeStr', ← Nat.mul_one 512]; exact hown2); rw [show (⟨(bytesOf (List.replicate 512 0)).toArray⟩ : ByteArray) = zeros from rfl] at hcv; clear hown2 hgrow2)
    | (go_at_call 18; first | ((with_reducible refine (At.op0 (u0 _) emp_good hS).mono ?_); rintro e w1 ⟨rfl, hS1⟩; replace hS := hS1; clear hS1) | ((with_reducible refine (At.op0 (u1 _) emp_good hS).mono ?_); rintro e w1 ⟨rfl, hS1⟩; replace hS := hS1; clear hS1))
    | (go_at_call 22; ((with_reducible refine (At.op0 (v8 _) emp_good hS).mono ?_); rintro e w1 ⟨rfl, hS1⟩; replace hS := hS1; clear hS1))
    | (go_at_call 24; ((with_reducible refine (cseal_nil _ _ _).mono ?_); rintro e w1 ⟨rfl, hb⟩; replace hS := hS.lay (good1 _ _ _) hb; clear hb))
    | (go_at_call 12; first | ((with_reducible refine (At.op0 (u2 _) emp_good hS).mono ?_); rintro e w1 ⟨rfl, hS1⟩; replace hS := hS1; clear hS1) | ((with_reducible refine (At.op0 (u3 _ _ (by omega) (by omega)) emp_good hS).mono ?_); rintro e w1 ⟨rfl, hS1⟩; replace hS := hS1; clear hS1) | ((with_reducible refine (At.op0 (u4 _ _ (by omega) (by omega)) emp_good hS).mono ?_); rintro e w1 ⟨rfl, hS1⟩; replace hS := hS1; clear hS1) | ((with_reducible refine (copen_nil _ _ _).mono ?_); rintro e w1 ⟨rfl, rfl⟩))
    | (go_at_call 11; first | ((with_reducible refine (At.op0 (u5 _ _ (by omega) (by omega)) emp_good hS).mono ?_); rintro e w1 ⟨rfl, hS1⟩; replace hS := hS1; clear hS1) | ((with_reducible refine (u7 _).mono ?_); rintro e w1 ⟨rfl, hb⟩; replace hS := hS.lay (good1 _ _ _) hb; clear hb))
    | (go_at_call 27; ((with_reducible refine (At.op0 (u6 _) emp_good hS).mono ?_); rintro e w1 ⟨rfl, hS1⟩; replace hS := hS1; clear hS1))
    | (go_at_call 16; refine (lnum _ _).mono ?_; rintro e w1 ⟨rfl, rfl⟩))
  go_ret
  exact ⟨rfl, hS.bel⟩
end Go.Proofs.Ythbpnffiibjgjaa
