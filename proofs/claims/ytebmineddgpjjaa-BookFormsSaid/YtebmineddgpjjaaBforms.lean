/- The walk of BookForms: at every two numbers it answers true. No condition. -/
import Derived.Test.YtebmineddgpjjaaBarg
import Derived.Test.YtebmineddgpjjaaDec
import Derived.Test.YtebmineddgpjjaaFplain3
namespace Go.Proofs.Ytebmineddgpjjaa
open Go Go.RowKit Go.Maps

/-- The terms of the statement. -/
def ftm (i : Nat) : ByteArray := ⟨#[116]⟩ ++ decS i
def ftms (k : Nat) : List ByteArray := (List.range k).map ftm
theorem ftms_len (k : Nat) : (ftms k).length = k := by simp [ftms]
theorem ftms_succ (k : Nat) : ftms (k + 1) = ftms k ++ [ftm k] := by simp [ftms, List.range_succ]
theorem ftm_new : ∀ i, i < 16 → (okT (ftm i) && !isB (ftms i) (ftm i) && decide ((ftm i).size ≤ 512)) = true := of_decide_eq_true (by kernel_rfl)
theorem ftm_small (i : Nat) (h : i < 16) : (ftm i).size ≤ 512 := by
  have h1 := ftm_new i h
  simp only [Bool.and_eq_true, decide_eq_true_eq] at h1
  exact h1.2
theorem ftm_more : ∀ i, i < 17 → isB (ftms i) ⟨#[109, 111, 114, 101]⟩ = false := of_decide_eq_true (by kernel_rfl)
theorem ftm_first : ∀ i, i < 17 → 0 < i → (isB (ftms i) ⟨#[116, 48]⟩ = true ∧ idx (ftms i) ⟨#[116, 48]⟩ = 0) := of_decide_eq_true (by kernel_rfl)
theorem ftm_step {i : Nat} {most : Int} (h : (i : Int) < most) (hk : i < 16) : nmX most (ftms i) (ftm i) = i ∧ nmE most (ftms i) (ftm i) = 0 ∧ nmT most (ftms i) (ftm i) = ftms (i + 1) ∧ (ftm i).size ≤ maxLen := by
  have h1 := ftm_new i hk
  simp only [Bool.and_eq_true, Bool.not_eq_true', decide_eq_true_eq] at h1
  obtain ⟨⟨a, b⟩, c⟩ := h1
  have hl : ((ftms i).length : Int) < most := by rw [ftms_len]; omega
  refine ⟨?_, ?_, ?_, by unfold maxLen; omega⟩
  · unfold nmX; rw [if_pos a, b, if_neg (by decide), if_pos hl, ftms_len]
  · unfold nmE; rw [if_pos a, b, if_neg (by decide), if_pos hl]
  · unfold nmT; rw [if_pos a, b, if_neg (by decide), if_pos hl, ftms_succ]

theorem madeStr (n : Nat) : (madeCells #[.int .u8 0] n).toList = (List.replicate n 0).map (Value.int .u8) := by
  rw [toList_madeCells_one, List.map_replicate]
theorem strD_size (l : List Int) : (strD l).size = l.length := by simp [strD, bytesD, ByteArray.size]

set_option maxRecDepth 100000 in
set_option maxHeartbeats 4000000 in
theorem forms_walk (most x : Int) (w : World) :
    Calls Try.prog 5 #[.int .i64 most, .int .i64 x] w fun e w' => e = .returned (.bool true) ∧ Below w.heap.size w w' := by
  have hmx := i64_mask x 10 (by omega)
  have hmm := i64_mask most 4 (by omega)
  have e1 : ((2 ^ 10 - 1 : Nat) : Int) = 1023 := by decide
  have e2 : ((2 ^ 4 - 1 : Nat) : Int) = 15 := by decide
  have e3 : ((2 ^ 10 : Nat) : Int) = 1024 := by decide
  have e4 : ((2 ^ 4 : Nat) : Int) = 16 := by decide
  rw [e1, e3] at hmx
  rw [e2, e4] at hmm
  obtain ⟨d, hd⟩ : ∃ d : Nat, x % 1024 = d := ⟨(x % 1024).toNat, by omega⟩
  obtain ⟨k0, hk0⟩ : ∃ k : Nat, most % 16 = k := ⟨(most % 16).toNat, by omega⟩
  have hd1 : d < 1024 := by omega
  have hk1 : k0 < 16 := by omega
  rw [hd] at hmx
  rw [hk0] at hmm
  clear e1 e2 e3 e4 hd hk0
  go_enter Try.func5, Try.ntmps5
  go_wp2_with (first
    | (go_at_call 10; (with_reducible refine (awake2 _).mono ?_); rintro e w1 ⟨rfl, hb1⟩; have hS := At.none hb1; clear hb1)
    | (go_at_call 7; first | ((with_reducible refine (bnew_bad (1 - (1 + (d : Int))) _ (by omega)).mono ?_); rintro e w1 ⟨rfl, rfl⟩) | ((with_reducible refine (bnew_bad (65536 + (1 + (d : Int))) _ (by omega)).mono ?_); rintro e w1 ⟨rfl, rfl⟩) | ((with_reducible refine (bnew_ok (1 + (k0 : Int)) _ (by omega) (by omega)).mono ?_); rintro e w1 ⟨p, rfl, hb⟩; replace hS := At.add emp_good hS hb; clear hb))
    | (go_at_call 9; refine (lnum _ _).mono ?_; rintro e w1 ⟨rfl, rfl⟩))
  have Hx := Lib.hid hmx
  have Hm := Lib.hid hmm
  clear hmx hmm
  go_loopw [13] (fun i wr => ∃ n : Nat, n ≤ k0 + 1 ∧ i = .int .i64 n ∧ At w ((bookA p (1 + (k0 : Int)) (ftms n)).star emp) wr) (fun i _ => k0 + 1 - (intOf i).toNat)
  case atStart => exact ⟨0, Nat.zero_le _, rfl, hS⟩
  case round =>
    clear hS
    obtain ⟨n, hn, rfl, hS⟩ := hrel
    by_cases hlt : n < k0 + 1
    · obtain ⟨a1, a2, a3, a4⟩ := ftm_step (i := n) (most := 1 + (k0 : Int)) (by omega) (by omega)
      have hD := dname p (1 + (k0 : Int)) (ftms n) (ftm n) a4
      rw [a1, a2, a3] at hD
      have hsz : (decS n).size ≤ 9223372036854770000 := by
        have e : (ftm n).size = 1 + (decS n).size := by unfold ftm; rw [ByteArray.size_append]; rfl
        have := ftm_small n (by omega)
        omega
      unfold ftm at hD
      have HD := Lib.hid hD
      clear a1 a2 a3 a4 hD
      go_wp2_with (first
        | (go_at_call 19; (with_reducible refine (dec_any n _ (by omega)).mono ?_); rintro e w1 ⟨rfl, hb1⟩; replace hS := hS.lay (good1 _ _ _) hb1; clear hb1)
        | (go_at_call 13; (with_reducible refine (At.op0 HD.out emp_good hS).mono ?_); rintro e w1 ⟨rfl, hS1⟩; replace hS := hS1; clear hS1)
        | (go_at_call 9; refine (lnum _ _).mono ?_; rintro e w1 ⟨rfl, rfl⟩))
      go_roundw
      case rel => exact ⟨n + 1, by omega, by go_num, hS⟩
      case measure => simp [intOf]; omega
    · obtain rfl : n = k0 + 1 := by omega
      have hlen : ((ftms (k0 + 1)).length : Int) = 1 + (k0 : Int) := by rw [ftms_len]; omega
      have h1 := dname p (1 + (k0 : Int)) (ftms (k0 + 1)) ⟨#[109, 111, 114, 101]⟩ (by decide)
      have b1 := ftm_more (k0 + 1) (by omega)
      have o1 : okT ⟨#[109, 111, 114, 101]⟩ = true := by decide
      rw [show nmX (1 + (k0 : Int)) (ftms (k0 + 1)) ⟨#[109, 111, 114, 101]⟩ = 0 by unfold nmX; rw [if_pos o1, b1, if_neg (by decide), if_neg (by omega)],
        show nmE (1 + (k0 : Int)) (ftms (k0 + 1)) ⟨#[109, 111, 114, 101]⟩ = 201 by unfold nmE; rw [if_pos o1, b1, if_neg (by decide), if_neg (by omega)],
        show nmT (1 + (k0 : Int)) (ftms (k0 + 1)) ⟨#[109, 111, 114, 101]⟩ = ftms (k0 + 1) by unfold nmT; rw [if_pos o1, b1, if_neg (by decide), if_neg (by omega)]] at h1
      have h2 := dname p (1 + (k0 : Int)) (ftms (k0 + 1)) ⟨#[116, 48]⟩ (by decide)
      obtain ⟨b2, i2⟩ := ftm_first (k0 + 1) (by omega) (by omega)
      have o2 : okT ⟨#[116, 48]⟩ = true := by decide
      rw [show nmX (1 + (k0 : Int)) (ftms (k0 + 1)) ⟨#[116, 48]⟩ = 0 by unfold nmX; rw [if_pos o2, b2, if_pos rfl, i2]; rfl,
        show nmE (1 + (k0 : Int)) (ftms (k0 + 1)) ⟨#[116, 48]⟩ = 0 by unfold nmE; rw [if_pos o2, b2, if_pos rfl],
        show nmT (1 + (k0 : Int)) (ftms (k0 + 1)) ⟨#[116, 48]⟩ = ftms (k0 + 1) by unfold nmT; rw [if_pos o2, b2, if_pos rfl]] at h2
      have sz3 : (strD (List.replicate (513 + d) 0)).size = 513 + d := by rw [strD_size, List.length_replicate]
      have h3 := dname p (1 + (k0 : Int)) (ftms (k0 + 1)) (strD (List.replicate (513 + d) 0)) (by rw [sz3]; unfold maxLen; omega)
      have o3 : okT (strD (List.replicate (513 + d) 0)) = false := by
        cases c : okT (strD (List.replicate (513 + d) 0))
        · rfl
        · have := ((okT_iff _).1 c).2; omega
      rw [show nmX (1 + (k0 : Int)) (ftms (k0 + 1)) (strD (List.replicate (513 + d) 0)) = 0 by unfold nmX; rw [o3]; rfl,
        show nmE (1 + (k0 : Int)) (ftms (k0 + 1)) (strD (List.replicate (513 + d) 0)) = 200 by unfold nmE; rw [o3]; rfl,
        show nmT (1 + (k0 : Int)) (ftms (k0 + 1)) (strD (List.replicate (513 + d) 0)) = ftms (k0 + 1) by unfold nmT; rw [o3]; rfl] at h3
      have h4 : ∀ m : Int, (m < 0 ∨ 1 + (k0 : Int) ≤ m) → Does Try.prog (bookA p (1 + (k0 : Int)) (ftms (k0 + 1))) 16 #[.pointer (some ⟨p, 0, none⟩), .int .i64 m] (.returned (.tuple #[.string ⟨#[]⟩, .int .i64 202])) (bookA p (1 + (k0 : Int)) (ftms (k0 + 1))) := fun m hm => by
        have := dterm p (1 + (k0 : Int)) (ftms (k0 + 1)) m
        rwa [show tmS (ftms (k0 + 1)) m = ⟨#[]⟩ by unfold tmS; rw [if_neg (by omega)], show tmE (ftms (k0 + 1)) m = 202 by unfold tmE; rw [if_neg (by omega)]] at this
      have h5 := dfind p (1 + (k0 : Int)) (ftms (k0 + 1)) ⟨#[109, 111, 114, 101]⟩ (by decide)
      rw [b1, show fnd (ftms (k0 + 1)) ⟨#[109, 111, 114, 101]⟩ = 0 by unfold fnd; rw [b1]; rfl] at h5
      have h6 := dlen p (1 + (k0 : Int)) (ftms (k0 + 1))
      rw [hlen] at h6
      have H1 := Lib.hid h1
      have H2 := Lib.hid h2
      have H3 := Lib.hid h3
      have H4 := Lib.hid h4
      have H5 := Lib.hid h5
      have H6 := Lib.hid h6
      obtain ⟨iB, hi, hz0, hz1, hz2⟩ := info_parts infoB
      clear h1 h2 h3 h4 h5 h6 b1 b2 i2 o1 o2 o3 sz3 hlen
      go_wp2_with (first
        | (go_at_call 13; first | ((with_reducible refine (At.op0 H1.out emp_good hS).mono ?_); rintro e w1 ⟨rfl, hS1⟩; replace hS := hS1; clear hS1) | ((with_reducible refine (At.op0 H2.out emp_good hS).mono ?_); rintro e w1 ⟨rfl, hS1⟩; replace hS := hS1; clear hS1) | ((with_reducible refine (At.op0 H3.out emp_good hS).mono ?_); rintro e w1 ⟨rfl, hS1⟩; replace hS := hS1; clear hS1))
        | (go_at_call 16; (with_reducible refine (At.op0 (H4.out _ (by omega)) emp_good hS).mono ?_); rintro e w1 ⟨rfl, hS1⟩; replace hS := hS1; clear hS1)
        | (go_at_call 11; (with_reducible refine (At.op0 H5.out emp_good hS).mono ?_); rintro e w1 ⟨rfl, hS1⟩; replace hS := hS1; clear hS1)
        | (go_at_call 18; (with_reducible refine (At.op0 H6.out emp_good hS).mono ?_); rintro e w1 ⟨rfl, hS1⟩; replace hS := hS1; clear hS1)
        | (at_make; refine wpList_make_full _ rfl _ _ 48 rfl 0 5 iB (.int .u8 0) 1 Try.underlying48 hi hz0 hz1 _ _ _ _ (513 + d) rfl rfl (by omega) (by omega) (by rw [hz2]; omega) (by unfold maxLen; omega) (Nat.zero_le _) ?_; intro w2 hown2 hgrow2; replace hS := hS.lay (good1 _ _ _) ((Below.refl _ _).grown hgrow2 (Nat.le_refl _) (fun k h => by cases h)); have hcv := convD (l := List.replicate (513 + d) 0) (by rw [← madeStr, ← Nat.mul_one (513 + d)]; exact hown2); clear hown2 hgrow2)
        | (go_at_call 9; refine (lnum _ _).mono ?_; rintro e w1 ⟨rfl, rfl⟩))
      go_ret
      exact ⟨rfl, hS.bel⟩
end Go.Proofs.Ytebmineddgpjjaa
