/- The walk of FieldSizes, with the plain fact how many bytes a number needs. Condition: errors.errorType holds the handle of the type error. -/
import Derived.Test.YtmllcbhoioajgaaDoorForder
namespace Go.Proofs.YtmllcbhoioajgaaDoor
open Go.RowKit

theorem pow_bounds (k : Nat) (hk : k < 30) : 1 ≤ 2 ^ k ∧ (k / 8 = 0 → 2 ^ k ≤ 128) ∧ (k / 8 = 1 → 256 ≤ 2 ^ k ∧ 2 ^ k ≤ 32768) ∧ (k / 8 = 2 → 65536 ≤ 2 ^ k ∧ 2 ^ k ≤ 8388608) ∧ (k / 8 = 3 → 16777216 ≤ 2 ^ k) ∧ 2 ^ k ≤ 536870912 := by
  have up : ∀ j, k ≤ j → 2 ^ k ≤ 2 ^ j := fun j h => Nat.pow_le_pow_right (by omega) h
  have dn : ∀ j, j ≤ k → 2 ^ j ≤ 2 ^ k := fun j h => Nat.pow_le_pow_right (by omega) h
  refine ⟨Nat.two_pow_pos k, fun h => ?_, fun h => ⟨?_, ?_⟩, fun h => ⟨?_, ?_⟩, fun h => ?_, ?_⟩
  · exact up 7 (by omega)
  · exact dn 8 (by omega)
  · exact up 15 (by omega)
  · exact dn 16 (by omega)
  · exact up 23 (by omega)
  · exact dn 24 (by omega)
  · exact up 29 (by omega)
theorem numL_pow (k : Nat) (y : Int) (hk : k < 30) (h0 : ((2 ^ k : Nat) : Int) ≤ y) (h1 : y < 2 * ((2 ^ k : Nat) : Int)) :
    (numL y).length = k / 8 + 2 ∧ (numL y).headD 0 = ((k / 8 + 1 : Nat) : Int) := by
  obtain ⟨a, b, c, d, e, f⟩ := pow_bounds k hk
  generalize 2 ^ k = P at *
  have hq : k / 8 = 0 ∨ k / 8 = 1 ∨ k / 8 = 2 ∨ k / 8 = 3 := by omega
  unfold numL
  rcases hq with hq | hq | hq | hq
  · have := b hq
    rw [if_neg (by omega), if_pos (by omega), hq]; exact ⟨rfl, rfl⟩
  · have := c hq
    rw [if_neg (by omega), if_neg (by omega), if_pos (by omega), hq]; exact ⟨rfl, rfl⟩
  · have := d hq
    rw [if_neg (by omega), if_neg (by omega), if_neg (by omega), if_pos (by omega), hq]; exact ⟨rfl, rfl⟩
  · have := e hq
    rw [if_neg (by omega), if_neg (by omega), if_neg (by omega), if_neg (by omega), hq]; exact ⟨rfl, rfl⟩
theorem gb_numS (y : Int) (h0 : 0 ≤ y) (h1 : y ≤ 1073741823) : (gb (numS y) 0 : Int) = (numL y).headD 0 := by
  rw [numS_ok h0 h1]
  have ho := numL_okL y h0 h1
  unfold gb
  rw [numB_data]
  cases h : numL y with
  | nil => simp [bytesOf]
  | cons a l =>
    have ha := ho a (by rw [h]; simp)
    simp [bytesOf]
    omega
theorem or_pow (k : Nat) (r : Int) (hk : k < 30) (h0 : 0 ≤ r) (h1 : r < ((2 ^ k : Nat) : Int)) : bits .or .i64 ((2 ^ k : Nat) : Int) r = ((2 ^ k : Nat) : Int) + r := by
  obtain ⟨R, rfl⟩ := Int.eq_ofNat_of_zero_le h0
  have hp := (pow_bounds k hk).2.2.2.2.2
  have := i64_or_nat (2 ^ k) R (by omega) (by omega)
  rw [nat_join k (2 ^ k) R (Nat.mod_self _) (by omega)] at this
  simpa using this

set_option maxRecDepth 100000 in
set_option maxHeartbeats 4000000 in
theorem sizes_walk (x b : Int) (w : World) (hg : Gd w) :
    Calls Tryd.prog 5 #[.int .i64 x, .int .i64 b] w fun e w' => e = .returned (.bool true) ∧ Gr w w' := by
  have hr := Gr.refl hg
  have hu0 : 0 ≤ IntKind.u64.wrap b := by rw [IntKind.wrap_u64]; omega
  obtain ⟨k, hk, hk30⟩ : ∃ k : Nat, (IntKind.u64.wrap b).tmod 30 = (k : Int) ∧ k < 30 := by
    refine ⟨((IntKind.u64.wrap b) % 30).toNat, ?_, ?_⟩
    · rw [Int.tmod_eq_emod_of_nonneg hu0]; omega
    · omega
  obtain ⟨p1, _, _, _, _, p2⟩ := pow_bounds k hk30
  have hmask := i64_mask x k (by omega)
  have hor := or_pow k (x % ((2 ^ k : Nat) : Int)) hk30 (Int.emod_nonneg _ (by omega)) (Int.emod_lt_of_pos _ (by omega))
  have hyl := numL_pow k (((2 ^ k : Nat) : Int) + x % ((2 ^ k : Nat) : Int)) hk30
  have r0 : 0 ≤ x % ((2 ^ k : Nat) : Int) := Int.emod_nonneg _ (by omega)
  have r1 : x % ((2 ^ k : Nat) : Int) < ((2 ^ k : Nat) : Int) := Int.emod_lt_of_pos _ (by omega)
  have hpw : (2 : Int) ^ k = ((2 ^ k : Nat) : Int) := by rw [Int.natCast_pow]; rfl
  have hsub : ((2 ^ k - 1 : Nat) : Int) = ((2 ^ k : Nat) : Int) - 1 := by omega
  rw [hsub] at hmask
  clear hsub
  generalize 2 ^ k = P at *
  obtain ⟨r, hr2⟩ : ∃ r, x % (P : Int) = r := ⟨_, rfl⟩
  rw [hr2] at hmask hor hyl r0 r1
  obtain ⟨hy1, hy2⟩ := hyl (by omega) (by omega)
  have hs := numB_size ((P : Int) + r)
  have hg0 := gb_numS ((P : Int) + r) (by omega) (by omega)
  have hgi := fun h => gb_get (numS ((P : Int) + r)) 0 h
  rw [hy2] at hg0
  rw [hy1, ← numS_ok (by omega) (by omega)] at hs
  have hgk : gb (numS ((P : Int) + r)) 0 = k / 8 + 1 := by omega
  have hgi2 : ∀ h : 0 < (numS ((P : Int) + r)).size, ((numS ((P : Int) + r))[0]'h).toNat = k / 8 + 1 := fun h => (hgi h).trans hgk
  have e1 := numE_ok (x := (P : Int) + r) (by omega) (by omega)
  have hmin : min k 64 = k := by omega
  have z1 : numS 0 = ⟨#[0]⟩ := by kernel_rfl
  have z2 : numE 0 = 0 := by kernel_rfl
  clear hyl hy1 hy2 hg0 hgk hr2 hgi
  go_enter Tryd.func5, Tryd.ntmps5
  go_wp2_with (first
    | (go_at_call 8; (with_reducible refine (fnum _ _ (by omega) (by omega)).mono ?_); rintro e w1 ⟨rfl, hb⟩; replace hr := hr.step hb; clear hb)
    | (go_at_call 17; (with_reducible refine (awake _ hr.good).mono ?_); rintro e w1 ⟨rfl, hb⟩; replace hr := hr.step hb.below; clear hb)
    | (go_at_call 10; refine (lnum _ _).mono ?_; rintro e w1 ⟨rfl, rfl⟩))
  go_ret
  exact ⟨rfl, hr⟩
end Go.Proofs.YtmllcbhoioajgaaDoor
