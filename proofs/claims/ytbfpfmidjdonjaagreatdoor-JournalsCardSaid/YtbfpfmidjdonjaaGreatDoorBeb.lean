/- Put together: Ep1, Ep2, Ep3, Ep4, Ep5, Ep6, Ep7, Ep8. Conditions: each theorem's own. -/
import Derived.Test.YtbfpfmidjdonjaaGreatDoorBpb
import Derived.Test.YtbfpfmidjdonjaaGreatDoorBpm
import Derived.Deep.RegionWith
import Derived.Test.YtbfpfmidjdonjaaGreatDoorBrk
import Derived.Test.YtbfpfmidjdonjaaGreatDoorBpa
import Derived.Deep.QuietTactic
import Derived.BigQuiet
namespace Go.Proofs.YtbfpfmidjdonjaaGreatDoor
open Go Go.RowKit
def epU (k : Int) : Nat := if k = 0 then 64 else if k = 1 then 58 else if k = 2 then 66 else if k = 3 then 10 else if k = 4 then 2 else if k = 5 then 71 else if k = 6 then 89 else if k = 7 then 2 else if k = 8 then 0 else if k = 9 then 1 else 0
def epM (k : Int) : Nat → Int := if k = 6 then rowL [1073741823, 7, 15, 1073741823, 4, 1048576, 1048575] else rowL [1073741823, 7, 15, 1073741823, 1073741823, 1048576, 1048575]
def epI (k : Int) : Bool := decide (k = 0) || decide (k = 1) || decide (k = 2) || decide (k = 3) || decide (k = 4) || decide (k = 5) || decide (k = 6) || decide (k = 7) || decide (k = 8) || decide (k = 9)
theorem epnamed (k : Int) (w : World) : Calls Tryz.prog 101 #[.int .i64 k] w fun e w' => e = .returned (.tuple #[.int .u64 ((epU k : Nat) : Int), .bool (epI k)]) ∧ w = w' := by
  by_cases h0 : k = 0
  · subst h0
    show Calls _ _ _ _ fun e w' => e = .returned (.tuple #[.int .u64 (64 : Int), .bool true]) ∧ w = w'
    go_enter Tryz.func101, Tryz.ntmps101
    go_wp2
    go_ret2
    exact ⟨rfl, rfl⟩
  by_cases h1 : k = 1
  · subst h1
    show Calls _ _ _ _ fun e w' => e = .returned (.tuple #[.int .u64 (58 : Int), .bool true]) ∧ w = w'
    go_enter Tryz.func101, Tryz.ntmps101
    go_wp2
    go_ret2
    exact ⟨rfl, rfl⟩
  by_cases h2 : k = 2
  · subst h2
    show Calls _ _ _ _ fun e w' => e = .returned (.tuple #[.int .u64 (66 : Int), .bool true]) ∧ w = w'
    go_enter Tryz.func101, Tryz.ntmps101
    go_wp2
    go_ret2
    exact ⟨rfl, rfl⟩
  by_cases h3 : k = 3
  · subst h3
    show Calls _ _ _ _ fun e w' => e = .returned (.tuple #[.int .u64 (10 : Int), .bool true]) ∧ w = w'
    go_enter Tryz.func101, Tryz.ntmps101
    go_wp2
    go_ret2
    exact ⟨rfl, rfl⟩
  by_cases h4 : k = 4
  · subst h4
    show Calls _ _ _ _ fun e w' => e = .returned (.tuple #[.int .u64 (2 : Int), .bool true]) ∧ w = w'
    go_enter Tryz.func101, Tryz.ntmps101
    go_wp2
    go_ret2
    exact ⟨rfl, rfl⟩
  by_cases h5 : k = 5
  · subst h5
    show Calls _ _ _ _ fun e w' => e = .returned (.tuple #[.int .u64 (71 : Int), .bool true]) ∧ w = w'
    go_enter Tryz.func101, Tryz.ntmps101
    go_wp2
    go_ret2
    exact ⟨rfl, rfl⟩
  by_cases h6 : k = 6
  · subst h6
    show Calls _ _ _ _ fun e w' => e = .returned (.tuple #[.int .u64 (89 : Int), .bool true]) ∧ w = w'
    go_enter Tryz.func101, Tryz.ntmps101
    go_wp2
    go_ret2
    exact ⟨rfl, rfl⟩
  by_cases h7 : k = 7
  · subst h7
    show Calls _ _ _ _ fun e w' => e = .returned (.tuple #[.int .u64 (2 : Int), .bool true]) ∧ w = w'
    go_enter Tryz.func101, Tryz.ntmps101
    go_wp2
    go_ret2
    exact ⟨rfl, rfl⟩
  by_cases h8 : k = 8
  · subst h8
    show Calls _ _ _ _ fun e w' => e = .returned (.tuple #[.int .u64 (0 : Int), .bool true]) ∧ w = w'
    go_enter Tryz.func101, Tryz.ntmps101
    go_wp2
    go_ret2
    exact ⟨rfl, rfl⟩
  by_cases h9 : k = 9
  · subst h9
    show Calls _ _ _ _ fun e w' => e = .returned (.tuple #[.int .u64 (1 : Int), .bool true]) ∧ w = w'
    go_enter Tryz.func101, Tryz.ntmps101
    go_wp2
    go_ret2
    exact ⟨rfl, rfl⟩
  rw [show epU k = 0 by unfold epU; rw [if_neg h0, if_neg h1, if_neg h2, if_neg h3, if_neg h4, if_neg h5, if_neg h6, if_neg h7, if_neg h8, if_neg h9], show epI k = false by unfold epI; simp [h0, h1, h2, h3, h4, h5, h6, h7, h8, h9]]
  show Calls _ _ _ _ fun e w' => e = .returned (.tuple #[.int .u64 (0 : Int), .bool false]) ∧ w = w'
  have g0 : (k == 0) = false := by simpa using h0
  clear h0
  have g1 : (k == 1) = false := by simpa using h1
  clear h1
  have g2 : (k == 2) = false := by simpa using h2
  clear h2
  have g3 : (k == 3) = false := by simpa using h3
  clear h3
  have g4 : (k == 4) = false := by simpa using h4
  clear h4
  have g5 : (k == 5) = false := by simpa using h5
  clear h5
  have g6 : (k == 6) = false := by simpa using h6
  clear h6
  have g7 : (k == 7) = false := by simpa using h7
  clear h7
  have g8 : (k == 8) = false := by simpa using h8
  clear h8
  have g9 : (k == 9) = false := by simpa using h9
  clear h9
  go_enter Tryz.func101, Tryz.ntmps101
  go_wp2
  go_ret2
  exact ⟨rfl, rfl⟩
theorem eplimits (k : Int) (w : World) : Calls Tryz.prog 104 #[.int .i64 k] w fun e w' => ∃ b, e = .returned (.slice (some ⟨b, 0, none⟩) 7 7) ∧ Below w.heap.size w w' ∧ w.heap.size ≤ b ∧ Blk w' b (arrN 7 (epM k)) := by
  by_cases h6 : k = 6
  · subst h6
    go_enter Tryz.func104, Tryz.ntmps104
    go_wp2
    refine bodyPost_ret (v := .slice (some ⟨w.heap.size, 0, none⟩) 7 7) (by simp [results, Tryz.results104, go_sem]) rfl ⟨w.heap.size, rfl, (Below.refl _ _).alloc (Nat.le_refl _) _, Nat.le_refl _, Blk.new _ _ _⟩
  rw [show epM k = rowL [1073741823, 7, 15, 1073741823, 1073741823, 1048576, 1048575] by unfold epM; rw [if_neg h6]]
  have g6 : (k == 6) = false := by simpa using h6
  clear h6
  go_enter Tryz.func104, Tryz.ntmps104
  go_wp2
  refine bodyPost_ret (v := .slice (some ⟨w.heap.size, 0, none⟩) 7 7) (by simp [results, Tryz.results104, go_sem]) rfl ⟨w.heap.size, rfl, (Below.refl _ _).alloc (Nat.le_refl _) _, Nat.le_refl _, Blk.new _ _ _⟩
theorem eprow (k u s a x y z t : Int) (w : World) : Calls Tryz.prog 103 #[.agg #[.int .i64 k, .int .i64 u, .int .i64 s, .int .i64 a, .int .i64 x, .int .i64 y, .int .i64 z, .int .i64 t]] w fun e w' => ∃ b, e = .returned (.slice (some ⟨b, 0, none⟩) 7 7) ∧ Below w.heap.size w w' ∧ w.heap.size ≤ b ∧ Blk w' b (arrN 7 (rowL [s, u, a, x, y, z, t])) := by
  go_enter Tryz.func103, Tryz.ntmps103
  go_wp2
  refine bodyPost_ret (v := .slice (some ⟨w.heap.size + 1, 0, none⟩) 7 7) (by simp [results, Tryz.results103, go_sem]) rfl ⟨w.heap.size + 1, rfl, ((Below.refl _ _).alloc (Nat.le_refl _) _).alloc (by simp) _, by omega, Blk.new' _ _ (by simp) _ _⟩
set_option maxRecDepth 100000 in
theorem epjoin (k a b c d e f g : Int) (x : Nat) (w : World) (kx : Blk w x #[.int .i64 a, .int .i64 b, .int .i64 c, .int .i64 d, .int .i64 e, .int .i64 f, .int .i64 g]) : Calls Tryz.prog 141 #[.int .i64 k, .slice (some ⟨x, 0, none⟩) 7 7] w fun ev w' => ev = .returned (.agg #[.int .i64 k, .int .i64 b, .int .i64 a, .int .i64 c, .int .i64 d, .int .i64 e, .int .i64 f, .int .i64 g]) ∧ Below w.heap.size w w' := by
  have ky := (kx.alloc (.cells #[.int .i64 0, .int .i64 0, .int .i64 0, .int .i64 0, .int .i64 0, .int .i64 0, .int .i64 0, .int .i64 0] 61)).drew
  go_enter Tryz.func141, Tryz.ntmps141
  go_wp2
  refine region_tail 23 (by kernel_rfl) (by kernel_rfl) fun W hW => ?_
  rw [← hW] at ky
  have HW := Lib.hid hW
  clear hW
  have e1 := ky.cell
  simp only [List.take_succ_cons, List.take_zero, List.drop_succ_cons, List.drop_zero]
  repeat still_step
  refine wpStill_nil ?_
  have hW := HW.out
  subst hW
  go_wp2
  exact bodyPost_ret (v := .agg #[.int .i64 k, .int .i64 b, .int .i64 a, .int .i64 c, .int .i64 d, .int .i64 e, .int .i64 f, .int .i64 g]) (by simp [results, Tryz.results141, go_sem]) rfl ⟨rfl, ((Below.refl _ _).alloc (Nat.le_refl _) _).trans ⟨rfl, rfl, rfl, Nat.le_refl _, fun _ _ => rfl⟩⟩
open Go Go.RowKit
def epok (k u s a x y z t : Int) : Bool := (epI k) && okRow (epU k) 7 (rowL [s, u, a, x, y, z, t]) (epM k)
set_option maxHeartbeats 2000000 in
theorem epmayR (k u s a x y z t : Int) (w : World) : Calls Tryz.prog 93 #[.agg #[.int .i64 k, .int .i64 u, .int .i64 s, .int .i64 a, .int .i64 x, .int .i64 y, .int .i64 z, .int .i64 t]] w fun e w' => e = .returned (.bool (epok k u s a x y z t)) ∧ Below w.heap.size w w' := by
  have HN := Lib.hid (fun w => epnamed k w)
  have HR := Lib.hid (fun w => eprow k u s a x y z t w)
  have HL := Lib.hid (fun w => eplimits k w)
  have HM := Lib.hid (fun b1 b2 w h1 h2 => pMay (epU k) 7 (rowL [s, u, a, x, y, z, t]) (epM k) b1 b2 w (by omega) h1 h2)
  have HP : Hid (epok k u s a x y z t = ((epI k) && okRow (epU k) 7 (rowL [s, u, a, x, y, z, t]) (epM k))) := Lib.hid rfl
  have HA1 := Lib.hid (fun j hj => arrN_get 7 (rowL [s, u, a, x, y, z, t]) j hj)
  have HA2 := Lib.hid (fun j hj => arrN_get 7 (epM k) j hj)
  generalize epok k u s a x y z t = B at *
  generalize okRow (epU k) 7 (rowL [s, u, a, x, y, z, t]) (epM k) = B1 at *
  generalize (rowL [s, u, a, x, y, z, t]) = r at *
  generalize (epM k) = m at *
  generalize epI k = I at *
  generalize epU k = u0 at *
  cases hI : I with
  | false =>
    rw [hI] at HP HN
    go_enter Tryz.func93, Tryz.ntmps93
    go_wp2_with (go_at_call 101; (with_reducible refine (HN.out _).mono ?_); rintro e w1 ⟨rfl, rfl⟩)
    have kp := ((Blk.new w #[.int .i64 k, .int .i64 u, .int .i64 s, .int .i64 a, .int .i64 x, .int .i64 y, .int .i64 z, .int .i64 t] 61)).drew
    have e1 := kp.cell
    have hb' : Below w.heap.size w (w.alloc (.cells #[.int .i64 k, .int .i64 u, .int .i64 s, .int .i64 a, .int .i64 x, .int .i64 y, .int .i64 z, .int .i64 t] 61)).drew := ((Below.refl _ _).alloc (Nat.le_refl _) _).trans ⟨rfl, rfl, rfl, Nat.le_refl _, fun _ _ => rfl⟩
    first
      | (go_region_with (first
    | (go_at_call 103; (with_reducible refine (HR.out _).mono ?_); rintro e w1 ⟨x1, rfl, hb, -, k1⟩; replace kp := kp.step hb; have e1 := kp.cell; have g1 := kp.froz; have l1 := kp.lt; replace hb' := hb'.trans (hb.mono hb'.size); clear hb)
    | (go_at_call 104; (with_reducible refine (HL.out _).mono ?_); rintro e w2 ⟨x2, rfl, hb, -, k2⟩; replace kp := kp.step hb; have e1 := kp.cell; have g1 := kp.froz; have l1 := kp.lt; replace k1 := k1.step hb; replace hb' := hb'.trans (hb.mono hb'.size); clear hb)
    | (go_at_call 102; (with_reducible refine (HM.out _ _ _ (fun j hj => (k1.cell j).trans (HA1.out j hj)) (fun j hj => (k2.cell j).trans (HA2.out j hj))).mono ?_); rintro e w3 ⟨rfl, rfl⟩)))
      | fail
    all_goals
      go_wp2
      go_ret
      exact ⟨ret_bo (by rw [HP.out]; rfl), hb'⟩
  | true =>
    rw [hI] at HP HN
    go_enter Tryz.func93, Tryz.ntmps93
    go_wp2_with (go_at_call 101; (with_reducible refine (HN.out _).mono ?_); rintro e w1 ⟨rfl, rfl⟩)
    have kp := ((Blk.new w #[.int .i64 k, .int .i64 u, .int .i64 s, .int .i64 a, .int .i64 x, .int .i64 y, .int .i64 z, .int .i64 t] 61)).drew
    have e1 := kp.cell
    have hb' : Below w.heap.size w (w.alloc (.cells #[.int .i64 k, .int .i64 u, .int .i64 s, .int .i64 a, .int .i64 x, .int .i64 y, .int .i64 z, .int .i64 t] 61)).drew := ((Below.refl _ _).alloc (Nat.le_refl _) _).trans ⟨rfl, rfl, rfl, Nat.le_refl _, fun _ _ => rfl⟩
    first
      | (go_region_with (first
    | (go_at_call 103; (with_reducible refine (HR.out _).mono ?_); rintro e w1 ⟨x1, rfl, hb, -, k1⟩; replace kp := kp.step hb; have e1 := kp.cell; have g1 := kp.froz; have l1 := kp.lt; replace hb' := hb'.trans (hb.mono hb'.size); clear hb)
    | (go_at_call 104; (with_reducible refine (HL.out _).mono ?_); rintro e w2 ⟨x2, rfl, hb, -, k2⟩; replace kp := kp.step hb; have e1 := kp.cell; have g1 := kp.froz; have l1 := kp.lt; replace k1 := k1.step hb; replace hb' := hb'.trans (hb.mono hb'.size); clear hb)
    | (go_at_call 102; (with_reducible refine (HM.out _ _ _ (fun j hj => (k1.cell j).trans (HA1.out j hj)) (fun j hj => (k2.cell j).trans (HA2.out j hj))).mono ?_); rintro e w3 ⟨rfl, rfl⟩)))
      | fail
    all_goals
      go_wp2
      go_ret
      exact ⟨ret_bo (by rw [HP.out]; rfl), hb'⟩
open Go Go.RowKit
theorem epok_of {k : Int} (U : Nat) (m0 m1 m2 m3 m4 m5 m6 : Int) (B0 B1 B2 B3 B4 B5 B6 : Bool) (hU : epU k = U) (hI : (epI k) = true) (hM : (epM k) = rowL [m0, m1, m2, m3, m4, m5, m6]) (e0 : pT U ((0 : Nat) : Int) = B0) (e1 : pT U ((1 : Nat) : Int) = B1) (e2 : pT U ((2 : Nat) : Int) = B2) (e3 : pT U ((3 : Nat) : Int) = B3) (e4 : pT U ((4 : Nat) : Int) = B4) (e5 : pT U ((5 : Nat) : Int) = B5) (e6 : pT U ((6 : Nat) : Int) = B6) (u s a x y z t : Int) :
    epok k u s a x y z t = true ↔ ((0 ≤ s ∧ s ≤ m0) ∧ (s = 0 ∨ B0 = true)) ∧ ((0 ≤ u ∧ u ≤ m1) ∧ (u = 0 ∨ B1 = true)) ∧ ((0 ≤ a ∧ a ≤ m2) ∧ (a = 0 ∨ B2 = true)) ∧ ((0 ≤ x ∧ x ≤ m3) ∧ (x = 0 ∨ B3 = true)) ∧ ((0 ≤ y ∧ y ≤ m4) ∧ (y = 0 ∨ B4 = true)) ∧ ((0 ≤ z ∧ z ≤ m5) ∧ (z = 0 ∨ B5 = true)) ∧ ((0 ≤ t ∧ t ≤ m6) ∧ (t = 0 ∨ B6 = true)) := by
  unfold epok okRow
  rw [hI, hU, hM, show List.range 7 = [0, 1, 2, 3, 4, 5, 6] from rfl]
  simp only [List.all_cons, List.all_nil, Bool.and_eq_true, Bool.or_eq_true, decide_eq_true_eq, Bool.and_true, true_and, e0, e1, e2, e3, e4, e5, e6]
  simp only [rowL, List.getD_cons_zero, List.getD_cons_succ]
theorem epmay_ok (k u s a x y z t : Int) : epok k u s a x y z t = (Ev.mk k u s a x y z t).may := by
  rw [Bool.eq_iff_iff, Ev.may_iff, Ev.rng_iff]
  simp only [okNum_iff]
  by_cases h0 : k = 0
  · subst h0
    rw [epok_of 64 1073741823 7 15 1073741823 1073741823 1048576 1048575 false false false false false false true rfl rfl rfl (by kernel_rfl) (by kernel_rfl) (by kernel_rfl) (by kernel_rfl) (by kernel_rfl) (by kernel_rfl) (by kernel_rfl)]
    simp [Ev.part, Ev.lim]
    grind
  by_cases h1 : k = 1
  · subst h1
    rw [epok_of 58 1073741823 7 15 1073741823 1073741823 1048576 1048575 false true false true true true false rfl rfl rfl (by kernel_rfl) (by kernel_rfl) (by kernel_rfl) (by kernel_rfl) (by kernel_rfl) (by kernel_rfl) (by kernel_rfl)]
    simp [Ev.part, Ev.lim]
    grind
  by_cases h2 : k = 2
  · subst h2
    rw [epok_of 66 1073741823 7 15 1073741823 1073741823 1048576 1048575 false true false false false false true rfl rfl rfl (by kernel_rfl) (by kernel_rfl) (by kernel_rfl) (by kernel_rfl) (by kernel_rfl) (by kernel_rfl) (by kernel_rfl)]
    simp [Ev.part, Ev.lim]
    grind
  by_cases h3 : k = 3
  · subst h3
    rw [epok_of 10 1073741823 7 15 1073741823 1073741823 1048576 1048575 false true false true false false false rfl rfl rfl (by kernel_rfl) (by kernel_rfl) (by kernel_rfl) (by kernel_rfl) (by kernel_rfl) (by kernel_rfl) (by kernel_rfl)]
    simp [Ev.part, Ev.lim]
    grind
  by_cases h4 : k = 4
  · subst h4
    rw [epok_of 2 1073741823 7 15 1073741823 1073741823 1048576 1048575 false true false false false false false rfl rfl rfl (by kernel_rfl) (by kernel_rfl) (by kernel_rfl) (by kernel_rfl) (by kernel_rfl) (by kernel_rfl) (by kernel_rfl)]
    simp [Ev.part, Ev.lim]
    grind
  by_cases h5 : k = 5
  · subst h5
    rw [epok_of 71 1073741823 7 15 1073741823 1073741823 1048576 1048575 true true true false false false true rfl rfl rfl (by kernel_rfl) (by kernel_rfl) (by kernel_rfl) (by kernel_rfl) (by kernel_rfl) (by kernel_rfl) (by kernel_rfl)]
    simp [Ev.part, Ev.lim]
    grind
  by_cases h6 : k = 6
  · subst h6
    rw [epok_of 89 1073741823 7 15 1073741823 4 1048576 1048575 true false false true true false true rfl rfl rfl (by kernel_rfl) (by kernel_rfl) (by kernel_rfl) (by kernel_rfl) (by kernel_rfl) (by kernel_rfl) (by kernel_rfl)]
    simp [Ev.part, Ev.lim]
    grind
  by_cases h7 : k = 7
  · subst h7
    rw [epok_of 2 1073741823 7 15 1073741823 1073741823 1048576 1048575 false true false false false false false rfl rfl rfl (by kernel_rfl) (by kernel_rfl) (by kernel_rfl) (by kernel_rfl) (by kernel_rfl) (by kernel_rfl) (by kernel_rfl)]
    simp [Ev.part, Ev.lim]
    grind
  by_cases h8 : k = 8
  · subst h8
    rw [epok_of 0 1073741823 7 15 1073741823 1073741823 1048576 1048575 false false false false false false false rfl rfl rfl (by kernel_rfl) (by kernel_rfl) (by kernel_rfl) (by kernel_rfl) (by kernel_rfl) (by kernel_rfl) (by kernel_rfl)]
    simp [Ev.part, Ev.lim]
    grind
  by_cases h9 : k = 9
  · subst h9
    rw [epok_of 1 1073741823 7 15 1073741823 1073741823 1048576 1048575 true false false false false false false rfl rfl rfl (by kernel_rfl) (by kernel_rfl) (by kernel_rfl) (by kernel_rfl) (by kernel_rfl) (by kernel_rfl) (by kernel_rfl)]
    simp [Ev.part, Ev.lim]
    grind
  have e2 : epok k u s a x y z t = false := by
    unfold epok
    rw [show epI k = false by unfold epI; simp [h0, h1, h2, h3, h4, h5, h6, h7, h8, h9]]
    rfl
  rw [e2]
  simp [Ev.part, h0, h1, h2, h3, h4, h5, h6, h7, h8, h9]
theorem epmay (p : Ev) (w : World) : Calls Tryz.prog 93 #[p.val] w fun e w' => e = .returned (.bool p.may) ∧ Below w.heap.size w w' := by
  obtain ⟨k, u, s, a, x, y, z, t⟩ := p
  rw [← epmay_ok]
  exact epmayR k u s a x y z t w
open Go Go.RowKit
def epout (k : Int) (U : Nat) (r : Nat → Int) : ByteArray := accP k U r 7
theorem epout_of {k : Int} (U : Nat) (r : Nat → Int) (l : List Bool) (h : ∀ j, j < 7 → pT U (j : Nat) = l.getD j false) :
    epout k U r = (let a1 := if l.getD 0 false then numS k ++ numS (r 0) else numS k
      let a2 := if l.getD 1 false then a1 ++ numS (r 1) else a1
      let a3 := if l.getD 2 false then a2 ++ numS (r 2) else a2
      let a4 := if l.getD 3 false then a3 ++ numS (r 3) else a3
      let a5 := if l.getD 4 false then a4 ++ numS (r 4) else a4
      let a6 := if l.getD 5 false then a5 ++ numS (r 5) else a5
      let a7 := if l.getD 6 false then a6 ++ numS (r 6) else a6
      a7) := by
  unfold epout
  simp only [accP, h 0 (by omega), h 1 (by omega), h 2 (by omega), h 3 (by omega), h 4 (by omega), h 5 (by omega), h 6 (by omega)]
theorem epout_ok {k u s a x y z t : Int} (hm : (Ev.mk k u s a x y z t).may = true) : epout k (epU k) (rowL [s, u, a, x, y, z, t]) = (Ev.mk k u s a x y z t).putS := by
  have hp : (Ev.mk k u s a x y z t).putS = encL (Ev.mk k u s a x y z t).fl := by unfold Ev.putS; rw [hm]; rfl
  rw [hp]
  obtain ⟨hr, hk, -⟩ := (Ev.may_iff _).1 hm
  have nl : ∀ x : ByteArray, x ++ (⟨#[]⟩ : ByteArray) = x := ba_nil
  rcases Ev.kinds hk with e | e | e | e | e | e | e | e | e | e <;> simp only at e <;> subst e
  · rw [show epU 0 = 64 from rfl, epout_of 64 _ [false, false, false, false, false, false, true] (fun j hj => by match j, hj with | 0, _ | 1, _ | 2, _ | 3, _ | 4, _ | 5, _ | 6, _ => show (_ : Bool) = _; kernel_rfl)]
    simp [Ev.fl, encL, Fld.enc, rowL, nl]
  · rw [show epU 1 = 58 from rfl, epout_of 58 _ [false, true, false, true, true, true, false] (fun j hj => by match j, hj with | 0, _ | 1, _ | 2, _ | 3, _ | 4, _ | 5, _ | 6, _ => show (_ : Bool) = _; kernel_rfl)]
    simp [Ev.fl, encL, Fld.enc, rowL, nl, ba_assoc]
  · rw [show epU 2 = 66 from rfl, epout_of 66 _ [false, true, false, false, false, false, true] (fun j hj => by match j, hj with | 0, _ | 1, _ | 2, _ | 3, _ | 4, _ | 5, _ | 6, _ => show (_ : Bool) = _; kernel_rfl)]
    simp [Ev.fl, encL, Fld.enc, rowL, nl, ba_assoc]
  · rw [show epU 3 = 10 from rfl, epout_of 10 _ [false, true, false, true, false, false, false] (fun j hj => by match j, hj with | 0, _ | 1, _ | 2, _ | 3, _ | 4, _ | 5, _ | 6, _ => show (_ : Bool) = _; kernel_rfl)]
    simp [Ev.fl, encL, Fld.enc, rowL, nl, ba_assoc]
  · rw [show epU 4 = 2 from rfl, epout_of 2 _ [false, true, false, false, false, false, false] (fun j hj => by match j, hj with | 0, _ | 1, _ | 2, _ | 3, _ | 4, _ | 5, _ | 6, _ => show (_ : Bool) = _; kernel_rfl)]
    simp [Ev.fl, encL, Fld.enc, rowL, nl]
  · rw [show epU 5 = 71 from rfl, epout_of 71 _ [true, true, true, false, false, false, true] (fun j hj => by match j, hj with | 0, _ | 1, _ | 2, _ | 3, _ | 4, _ | 5, _ | 6, _ => show (_ : Bool) = _; kernel_rfl)]
    simp [Ev.fl, encL, Fld.enc, rowL, nl, ba_assoc]
  · rw [show epU 6 = 89 from rfl, epout_of 89 _ [true, false, false, true, true, false, true] (fun j hj => by match j, hj with | 0, _ | 1, _ | 2, _ | 3, _ | 4, _ | 5, _ | 6, _ => show (_ : Bool) = _; kernel_rfl)]
    simp [Ev.fl, encL, Fld.enc, rowL, nl, ba_assoc]
  · rw [show epU 7 = 2 from rfl, epout_of 2 _ [false, true, false, false, false, false, false] (fun j hj => by match j, hj with | 0, _ | 1, _ | 2, _ | 3, _ | 4, _ | 5, _ | 6, _ => show (_ : Bool) = _; kernel_rfl)]
    simp [Ev.fl, encL, Fld.enc, rowL, nl]
  · rw [show epU 8 = 0 from rfl, epout_of 0 _ [false, false, false, false, false, false, false] (fun j hj => by match j, hj with | 0, _ | 1, _ | 2, _ | 3, _ | 4, _ | 5, _ | 6, _ => show (_ : Bool) = _; kernel_rfl)]
    simp [Ev.fl, encL, Fld.enc, nl]
  · rw [show epU 9 = 1 from rfl, epout_of 1 _ [true, false, false, false, false, false, false] (fun j hj => by match j, hj with | 0, _ | 1, _ | 2, _ | 3, _ | 4, _ | 5, _ | 6, _ => show (_ : Bool) = _; kernel_rfl)]
    simp [Ev.fl, encL, Fld.enc, rowL, nl]
theorem epput_no (p : Ev) (w : World) (hm : p.may = false) : Calls Tryz.prog 112 #[p.val] w fun e w' => e = .returned (.tuple #[.string ⟨#[]⟩, .int .i64 700]) ∧ Below w.heap.size w w' := by
  have HM := fun w => epmay p w
  rw [hm] at HM
  obtain ⟨k, u, s, a, x, y, z, t⟩ := p
  have HM := Lib.hid HM
  unfold Ev.val at HM
  unfold Ev.val
  clear hm
  go_enter Tryz.func112, Tryz.ntmps112
  go_wp2_with (go_at_call 93; (with_reducible refine (HM.out _).mono ?_); rintro e w1 ⟨rfl, hb⟩; have hB := ((Below.refl w.heap.size w).alloc (Nat.le_refl _) (.cells #[.int .i64 k, .int .i64 u, .int .i64 s, .int .i64 a, .int .i64 x, .int .i64 y, .int .i64 z, .int .i64 t] 61)).trans (hb.mono (by simp)))
  go_ret2
  exact ⟨rfl, hB⟩
open Go Go.RowKit
set_option maxRecDepth 100000 in
set_option maxHeartbeats 4000000 in
theorem epput_yes (k u s a x y z t : Int) (w : World) (hm : (Ev.mk k u s a x y z t).may = true) (hk0 : 0 ≤ k) (hk1 : k ≤ 9)
    (hr : ∀ j, j < 7 → -9223372036854775808 ≤ (rowL [s, u, a, x, y, z, t]) j ∧ (rowL [s, u, a, x, y, z, t]) j ≤ 9223372036854775807) :
    Calls Tryz.prog 112 #[.agg #[.int .i64 k, .int .i64 u, .int .i64 s, .int .i64 a, .int .i64 x, .int .i64 y, .int .i64 z, .int .i64 t]] w fun e w' => e = .returned (.tuple #[.string (epout k (epU k) (rowL [s, u, a, x, y, z, t])), .int .i64 0]) ∧ Below w.heap.size w w' := by
  have HM := fun w => epmay (Ev.mk k u s a x y z t) w
  rw [hm] at HM
  unfold Ev.val at HM
  have HM := Lib.hid HM
  clear hm
  have HN := Lib.hid (fun w => epnamed k w)
  have HR := Lib.hid (fun w => eprow k u s a x y z t w)
  have HA1 := Lib.hid (fun j hj => arrN_get 7 (rowL [s, u, a, x, y, z, t]) j hj)
  have HP := Lib.hid (fun b w hb hc => pPut (epU k) 7 k (rowL [s, u, a, x, y, z, t]) b w (by omega) (by omega) (by omega) hb hr hc)
  clear hr hk0 hk1
  have HO : Hid (epout k (epU k) (rowL [s, u, a, x, y, z, t]) = accP k (epU k) (rowL [s, u, a, x, y, z, t]) 7) := Lib.hid rfl
  have hz := accP_size k (epU k) (rowL [s, u, a, x, y, z, t]) 7
  generalize epout k (epU k) (rowL [s, u, a, x, y, z, t]) = O at *
  generalize accP k (epU k) (rowL [s, u, a, x, y, z, t]) 7 = ac at *
  generalize (rowL [s, u, a, x, y, z, t]) = r at *
  generalize epI k = I at *
  generalize epU k = U at *
  go_enter Tryz.func112, Tryz.ntmps112
  go_wp2_with (first
    | (go_at_call 93; (with_reducible refine (HM.out _).mono ?_); rintro e w1 ⟨rfl, hb⟩; have kp := (Blk.new _ _ _).step hb; have e1 := kp.cell; have g1 := kp.froz; have l1 := kp.lt; have hB := ((Below.refl w.heap.size w).alloc (Nat.le_refl _) (.cells #[.int .i64 k, .int .i64 u, .int .i64 s, .int .i64 a, .int .i64 x, .int .i64 y, .int .i64 z, .int .i64 t] 61)).trans (hb.mono (by simp)); clear hb)
    | (go_at_call 101; (with_reducible refine (HN.out _).mono ?_); rintro e w1 ⟨rfl, rfl⟩))
  replace kp := kp.drew
  have e1 := kp.cell
  replace hB : Below w.heap.size w _ := hB.trans (⟨rfl, rfl, rfl, Nat.le_refl _, fun _ _ => rfl⟩ : Below w.heap.size w1 w1.drew)
  first
    | (go_region_with (first
        | (go_at_call 103; (with_reducible refine (HR.out _).mono ?_); rintro e w2 ⟨x1, rfl, hb, -, k1⟩; replace kp := kp.step hb; have e1 := kp.cell; have g1 := kp.froz; have l1 := kp.lt; replace hB := hB.trans (hb.mono hB.size); clear hb)
        | (go_at_call 120; (with_reducible refine (HP.out _ _ k1.lt (fun j hj => (k1.cell j).trans (HA1.out j hj))).mono ?_); rintro e w3 ⟨rfl, hb⟩; replace kp := kp.step hb; have e1 := kp.cell; have g1 := kp.froz; have l1 := kp.lt; replace hB := hB.trans (hb.mono hB.size); clear hb)))
    | fail
  all_goals
    go_wp2
    go_ret2
    exact ⟨ret_s2 HO.out.symm, hB⟩
theorem epkind_bd {p : Ev} (h : p.may = true) : 0 ≤ p.kind ∧ p.kind ≤ 9 := by
  have := Ev.kinds ((Ev.may_iff p).1 h).2.1
  omega
theorem epput (p : Ev) (w : World) : Calls Tryz.prog 112 #[p.val] w fun e w' => e = .returned (.tuple #[.string p.putS, .int .i64 p.putE]) ∧ Below w.heap.size w w' := by
  cases hm : p.may with
  | false =>
    rw [show p.putS = ⟨#[]⟩ by unfold Ev.putS; rw [hm]; rfl, show p.putE = 700 by unfold Ev.putE; rw [hm]; rfl]
    exact epput_no p w hm
  | true =>
    have hb := epkind_bd hm
    have hr := (Ev.rng_iff p).1 ((Ev.may_iff p).1 hm).1
    simp only [okNum_iff] at hr
    rw [show p.putE = 0 by unfold Ev.putE; rw [hm]; rfl]
    obtain ⟨k, u, s, a, x, y, z, t⟩ := p
    simp only at hr
    rw [← epout_ok hm]
    exact epput_yes k u s a x y z t w hm hb.1 hb.2 (fun j hj => by
      match j, hj with
      | 0, _ | 1, _ | 2, _ | 3, _ | 4, _ | 5, _ | 6, _ => simp only [rowL, List.getD_cons_zero, List.getD_cons_succ]; omega)
open Go Go.RowKit
def epjoinP (k : Int) (r : Nat → Int) : Ev := Ev.mk k (r 1) (r 0) (r 2) (r 3) (r 4) (r 5) (r 6)
def epend (k : Int) : Option ((Nat → Int) × Int) → Option (Ev × Int)
  | none => none
  | some (r, a) => some (epjoinP k r, a)
def eprd (s : ByteArray) : Option (Ev × Int) := if getE s 0 = 0 then epend (getX s 0) (stP s (epU (getX s 0)) (getTo s 0) 7) else none
theorem epend_0 (s : ByteArray) (a : Int) : epend 0 (stP s 64 a 7) = (rdL s a [false]).map fun x => (Ev.mk' (.n 0 :: x.1), x.2) := by
  have p0 : pT 64 ((0 : Nat) : Int) = false := by kernel_rfl
  have p1 : pT 64 ((1 : Nat) : Int) = false := by kernel_rfl
  have p2 : pT 64 ((2 : Nat) : Int) = false := by kernel_rfl
  have p3 : pT 64 ((3 : Nat) : Int) = false := by kernel_rfl
  have p4 : pT 64 ((4 : Nat) : Int) = false := by kernel_rfl
  have p5 : pT 64 ((5 : Nat) : Int) = false := by kernel_rfl
  have p6 : pT 64 ((6 : Nat) : Int) = true := by kernel_rfl
  simp only [stP, p0, p1, p2, p3, p4, p5, p6, rdL, if_true, Bool.false_eq_true, if_false]
  by_cases h0 : getE s a = 0
  case neg => simp [h0, epend]
  simp [epend, epjoinP, updR, Ev.mk', h0]
theorem epend_1 (s : ByteArray) (a : Int) : epend 1 (stP s 58 a 7) = (rdL s a [false, false, false, false]).map fun x => (Ev.mk' (.n 1 :: x.1), x.2) := by
  have p0 : pT 58 ((0 : Nat) : Int) = false := by kernel_rfl
  have p1 : pT 58 ((1 : Nat) : Int) = true := by kernel_rfl
  have p2 : pT 58 ((2 : Nat) : Int) = false := by kernel_rfl
  have p3 : pT 58 ((3 : Nat) : Int) = true := by kernel_rfl
  have p4 : pT 58 ((4 : Nat) : Int) = true := by kernel_rfl
  have p5 : pT 58 ((5 : Nat) : Int) = true := by kernel_rfl
  have p6 : pT 58 ((6 : Nat) : Int) = false := by kernel_rfl
  simp only [stP, p0, p1, p2, p3, p4, p5, p6, rdL, if_true, Bool.false_eq_true, if_false]
  by_cases h0 : getE s a = 0
  case neg => simp [h0, epend]
  by_cases h1 : getE s (getTo s a) = 0
  case neg => simp [h1, epend, h0]
  by_cases h2 : getE s (getTo s (getTo s a)) = 0
  case neg => simp [h2, epend, h0, h1]
  by_cases h3 : getE s (getTo s (getTo s (getTo s a))) = 0
  case neg => simp [h3, epend, h0, h1, h2]
  simp [epend, epjoinP, updR, Ev.mk', h0, h1, h2, h3]
theorem epend_2 (s : ByteArray) (a : Int) : epend 2 (stP s 66 a 7) = (rdL s a [false, false]).map fun x => (Ev.mk' (.n 2 :: x.1), x.2) := by
  have p0 : pT 66 ((0 : Nat) : Int) = false := by kernel_rfl
  have p1 : pT 66 ((1 : Nat) : Int) = true := by kernel_rfl
  have p2 : pT 66 ((2 : Nat) : Int) = false := by kernel_rfl
  have p3 : pT 66 ((3 : Nat) : Int) = false := by kernel_rfl
  have p4 : pT 66 ((4 : Nat) : Int) = false := by kernel_rfl
  have p5 : pT 66 ((5 : Nat) : Int) = false := by kernel_rfl
  have p6 : pT 66 ((6 : Nat) : Int) = true := by kernel_rfl
  simp only [stP, p0, p1, p2, p3, p4, p5, p6, rdL, if_true, Bool.false_eq_true, if_false]
  by_cases h0 : getE s a = 0
  case neg => simp [h0, epend]
  by_cases h1 : getE s (getTo s a) = 0
  case neg => simp [h1, epend, h0]
  simp [epend, epjoinP, updR, Ev.mk', h0, h1]
theorem epend_3 (s : ByteArray) (a : Int) : epend 3 (stP s 10 a 7) = (rdL s a [false, false]).map fun x => (Ev.mk' (.n 3 :: x.1), x.2) := by
  have p0 : pT 10 ((0 : Nat) : Int) = false := by kernel_rfl
  have p1 : pT 10 ((1 : Nat) : Int) = true := by kernel_rfl
  have p2 : pT 10 ((2 : Nat) : Int) = false := by kernel_rfl
  have p3 : pT 10 ((3 : Nat) : Int) = true := by kernel_rfl
  have p4 : pT 10 ((4 : Nat) : Int) = false := by kernel_rfl
  have p5 : pT 10 ((5 : Nat) : Int) = false := by kernel_rfl
  have p6 : pT 10 ((6 : Nat) : Int) = false := by kernel_rfl
  simp only [stP, p0, p1, p2, p3, p4, p5, p6, rdL, if_true, Bool.false_eq_true, if_false]
  by_cases h0 : getE s a = 0
  case neg => simp [h0, epend]
  by_cases h1 : getE s (getTo s a) = 0
  case neg => simp [h1, epend, h0]
  simp [epend, epjoinP, updR, Ev.mk', h0, h1]
theorem epend_4 (s : ByteArray) (a : Int) : epend 4 (stP s 2 a 7) = (rdL s a [false]).map fun x => (Ev.mk' (.n 4 :: x.1), x.2) := by
  have p0 : pT 2 ((0 : Nat) : Int) = false := by kernel_rfl
  have p1 : pT 2 ((1 : Nat) : Int) = true := by kernel_rfl
  have p2 : pT 2 ((2 : Nat) : Int) = false := by kernel_rfl
  have p3 : pT 2 ((3 : Nat) : Int) = false := by kernel_rfl
  have p4 : pT 2 ((4 : Nat) : Int) = false := by kernel_rfl
  have p5 : pT 2 ((5 : Nat) : Int) = false := by kernel_rfl
  have p6 : pT 2 ((6 : Nat) : Int) = false := by kernel_rfl
  simp only [stP, p0, p1, p2, p3, p4, p5, p6, rdL, if_true, Bool.false_eq_true, if_false]
  by_cases h0 : getE s a = 0
  case neg => simp [h0, epend]
  simp [epend, epjoinP, updR, Ev.mk', h0]
theorem epend_5 (s : ByteArray) (a : Int) : epend 5 (stP s 71 a 7) = (rdL s a [false, false, false, false]).map fun x => (Ev.mk' (.n 5 :: x.1), x.2) := by
  have p0 : pT 71 ((0 : Nat) : Int) = true := by kernel_rfl
  have p1 : pT 71 ((1 : Nat) : Int) = true := by kernel_rfl
  have p2 : pT 71 ((2 : Nat) : Int) = true := by kernel_rfl
  have p3 : pT 71 ((3 : Nat) : Int) = false := by kernel_rfl
  have p4 : pT 71 ((4 : Nat) : Int) = false := by kernel_rfl
  have p5 : pT 71 ((5 : Nat) : Int) = false := by kernel_rfl
  have p6 : pT 71 ((6 : Nat) : Int) = true := by kernel_rfl
  simp only [stP, p0, p1, p2, p3, p4, p5, p6, rdL, if_true, Bool.false_eq_true, if_false]
  by_cases h0 : getE s a = 0
  case neg => simp [h0, epend]
  by_cases h1 : getE s (getTo s a) = 0
  case neg => simp [h1, epend, h0]
  by_cases h2 : getE s (getTo s (getTo s a)) = 0
  case neg => simp [h2, epend, h0, h1]
  by_cases h3 : getE s (getTo s (getTo s (getTo s a))) = 0
  case neg => simp [h3, epend, h0, h1, h2]
  simp [epend, epjoinP, updR, Ev.mk', h0, h1, h2, h3]
theorem epend_6 (s : ByteArray) (a : Int) : epend 6 (stP s 89 a 7) = (rdL s a [false, false, false, false]).map fun x => (Ev.mk' (.n 6 :: x.1), x.2) := by
  have p0 : pT 89 ((0 : Nat) : Int) = true := by kernel_rfl
  have p1 : pT 89 ((1 : Nat) : Int) = false := by kernel_rfl
  have p2 : pT 89 ((2 : Nat) : Int) = false := by kernel_rfl
  have p3 : pT 89 ((3 : Nat) : Int) = true := by kernel_rfl
  have p4 : pT 89 ((4 : Nat) : Int) = true := by kernel_rfl
  have p5 : pT 89 ((5 : Nat) : Int) = false := by kernel_rfl
  have p6 : pT 89 ((6 : Nat) : Int) = true := by kernel_rfl
  simp only [stP, p0, p1, p2, p3, p4, p5, p6, rdL, if_true, Bool.false_eq_true, if_false]
  by_cases h0 : getE s a = 0
  case neg => simp [h0, epend]
  by_cases h1 : getE s (getTo s a) = 0
  case neg => simp [h1, epend, h0]
  by_cases h2 : getE s (getTo s (getTo s a)) = 0
  case neg => simp [h2, epend, h0, h1]
  by_cases h3 : getE s (getTo s (getTo s (getTo s a))) = 0
  case neg => simp [h3, epend, h0, h1, h2]
  simp [epend, epjoinP, updR, Ev.mk', h0, h1, h2, h3]
theorem epend_7 (s : ByteArray) (a : Int) : epend 7 (stP s 2 a 7) = (rdL s a [false]).map fun x => (Ev.mk' (.n 7 :: x.1), x.2) := by
  have p0 : pT 2 ((0 : Nat) : Int) = false := by kernel_rfl
  have p1 : pT 2 ((1 : Nat) : Int) = true := by kernel_rfl
  have p2 : pT 2 ((2 : Nat) : Int) = false := by kernel_rfl
  have p3 : pT 2 ((3 : Nat) : Int) = false := by kernel_rfl
  have p4 : pT 2 ((4 : Nat) : Int) = false := by kernel_rfl
  have p5 : pT 2 ((5 : Nat) : Int) = false := by kernel_rfl
  have p6 : pT 2 ((6 : Nat) : Int) = false := by kernel_rfl
  simp only [stP, p0, p1, p2, p3, p4, p5, p6, rdL, if_true, Bool.false_eq_true, if_false]
  by_cases h0 : getE s a = 0
  case neg => simp [h0, epend]
  simp [epend, epjoinP, updR, Ev.mk', h0]
theorem epend_8 (s : ByteArray) (a : Int) : epend 8 (stP s 0 a 7) = (rdL s a []).map fun x => (Ev.mk' (.n 8 :: x.1), x.2) := by
  have p0 : pT 0 ((0 : Nat) : Int) = false := by kernel_rfl
  have p1 : pT 0 ((1 : Nat) : Int) = false := by kernel_rfl
  have p2 : pT 0 ((2 : Nat) : Int) = false := by kernel_rfl
  have p3 : pT 0 ((3 : Nat) : Int) = false := by kernel_rfl
  have p4 : pT 0 ((4 : Nat) : Int) = false := by kernel_rfl
  have p5 : pT 0 ((5 : Nat) : Int) = false := by kernel_rfl
  have p6 : pT 0 ((6 : Nat) : Int) = false := by kernel_rfl
  simp only [stP, p0, p1, p2, p3, p4, p5, p6, rdL, Bool.false_eq_true, if_false]
  simp [epend, epjoinP, Ev.mk']
theorem epend_9 (s : ByteArray) (a : Int) : epend 9 (stP s 1 a 7) = (rdL s a [false]).map fun x => (Ev.mk' (.n 9 :: x.1), x.2) := by
  have p0 : pT 1 ((0 : Nat) : Int) = true := by kernel_rfl
  have p1 : pT 1 ((1 : Nat) : Int) = false := by kernel_rfl
  have p2 : pT 1 ((2 : Nat) : Int) = false := by kernel_rfl
  have p3 : pT 1 ((3 : Nat) : Int) = false := by kernel_rfl
  have p4 : pT 1 ((4 : Nat) : Int) = false := by kernel_rfl
  have p5 : pT 1 ((5 : Nat) : Int) = false := by kernel_rfl
  have p6 : pT 1 ((6 : Nat) : Int) = false := by kernel_rfl
  simp only [stP, p0, p1, p2, p3, p4, p5, p6, rdL, if_true, Bool.false_eq_true, if_false]
  by_cases h0 : getE s a = 0
  case neg => simp [h0, epend]
  simp [epend, epjoinP, updR, Ev.mk', h0]
theorem epend_ok (s : ByteArray) (k a : Int) : epend k (stP s (epU k) a 7) = (rdL s a (Ev.sh k)).map fun x => (Ev.mk' (.n k :: x.1), x.2) := by
  by_cases h0 : k = 0
  · subst h0; exact epend_0 s a
  by_cases h1 : k = 1
  · subst h1; exact epend_1 s a
  by_cases h2 : k = 2
  · subst h2; exact epend_2 s a
  by_cases h3 : k = 3
  · subst h3; exact epend_3 s a
  by_cases h4 : k = 4
  · subst h4; exact epend_4 s a
  by_cases h5 : k = 5
  · subst h5; exact epend_5 s a
  by_cases h6 : k = 6
  · subst h6; exact epend_6 s a
  by_cases h7 : k = 7
  · subst h7; exact epend_7 s a
  by_cases h8 : k = 8
  · subst h8; exact epend_8 s a
  by_cases h9 : k = 9
  · subst h9; exact epend_9 s a
  rw [show epU k = 0 by unfold epU; rw [if_neg h0, if_neg h1, if_neg h2, if_neg h3, if_neg h4, if_neg h5, if_neg h6, if_neg h7, if_neg h8, if_neg h9], stP_zero s a 7 (fun j hj => by match j, hj with | 0, _ | 1, _ | 2, _ | 3, _ | 4, _ | 5, _ | 6, _ => show (_ : Bool) = _; kernel_rfl) 7 (Nat.le_refl _)]
  rw [show Ev.sh k = [] by unfold Ev.sh; rw [if_neg h0, if_neg h1, if_neg h2, if_neg h3, if_neg h4, if_neg h5, if_neg h6, if_neg h7, if_neg h8, if_neg h9]]
  simp [epend, epjoinP, rdL, Ev.mk']
theorem eprd_ok (s : ByteArray) : Ev.get s = match eprd s with
    | some (p, b) => if b = s.size ∧ p.may = true then some p else none
    | none => none := by
  unfold Ev.get getK rdK eprd
  by_cases h : getE s 0 = 0
  · rw [if_pos h, if_pos h, epend_ok]
    cases rdL s (getTo s 0) (Ev.sh (getX s 0)) with
    | none => rfl
    | some y => rfl
  · rw [if_neg h, if_neg h]
open Go Go.RowKit
def epNo (w : World) (ev : Ending) (w' : World) : Prop := ∃ er : Int, (er != 0) = true ∧ ev = .returned (.tuple #[.agg #[.int .i64 0, .int .i64 0, .int .i64 0, .int .i64 0, .int .i64 0, .int .i64 0, .int .i64 0, .int .i64 0], .int .i64 0, .int .i64 er]) ∧ Below w.heap.size w w'
set_option maxRecDepth 100000 in
set_option maxHeartbeats 4000000 in
theorem epread_bad (s : ByteArray) (w : World) (hs : s.size ≤ 9223372036854770000) (hg : Gd w) (hE : getE s 0 ≠ 0) : Calls Tryz.prog 133 #[.string s] w (epNo w) := by
  have P2 := Lib.hid (fun w hg => fget s 0 w hs (by omega) (by omega) hg)
  have hr := Gr.refl hg
  have hx : (getE s 0 != 0) = true := by simpa using hE
  have HX := Lib.hid hx
  clear hE hg
  generalize getE s 0 = er at *
  generalize getX s 0 = x at *
  generalize getTo s 0 = t at *
  go_enter Tryz.func133, Tryz.ntmps133
  go_wp2_with (go_at_call 124; (with_reducible refine (P2.out _ (hr.alloc _).good).mono ?_); rintro e w1 ⟨rfl, hb⟩; replace hr := (hr.alloc _).step hb; have kr := (Blk.new _ _ _).step hb; have e1 := kr.cell; have g1 := kr.froz; have l1 := kr.lt; clear hb)
  refine bodyPost_ret (v := .tuple #[.agg #[.int .i64 0, .int .i64 0, .int .i64 0, .int .i64 0, .int .i64 0, .int .i64 0, .int .i64 0, .int .i64 0], .int .i64 0, .int .i64 er]) (by simp [results, Tryz.results133, go_sem, e1]) rfl ⟨er, HX.out, rfl, ?_⟩
  repeat (with_reducible refine Below.setCell ?_ (by simp) _)
  with_reducible exact hr.below
set_option maxRecDepth 100000 in
set_option maxHeartbeats 4000000 in
theorem epread_cut (s : ByteArray) (w : World) (hs : s.size ≤ 9223372036854770000) (hg : Gd w) (hE : getE s 0 = 0) (hst : stP s (epU (getX s 0)) (getTo s 0) 7 = none) : Calls Tryz.prog 133 #[.string s] w (epNo w) := by
  have P2 := fun w hg => fget s 0 w hs (by omega) (by omega) hg
  rw [hE] at P2
  have P2 := Lib.hid P2
  have hr := Gr.refl hg
  have hb0 := get_bd hE
  have HNm := Lib.hid (fun w => epnamed (getX s 0) w)
  have HG := Lib.hid (fun w hg => pGetN_no s (epU (getX s 0)) 7 7 (getTo s 0) w (by omega) rfl hs (by omega) (by omega) hst hg)
  clear hE hg hb0 hst
  generalize epI (getX s 0) = I at *
  generalize epU (getX s 0) = U at *
  generalize getX s 0 = k at *
  generalize getTo s 0 = a0 at *
  go_enter Tryz.func133, Tryz.ntmps133
  go_wp2_with (first
    | (go_at_call 124; (with_reducible refine (P2.out _ (hr.alloc _).good).mono ?_); rintro e w1 ⟨rfl, hb⟩; replace hr := (hr.alloc _).step hb; have kr := (Blk.new _ _ _).step hb; have e1 := kr.cell; have g1 := kr.froz; have l1 := kr.lt; clear hb)
    | (go_at_call 101; (with_reducible refine (HNm.out _).mono ?_); rintro e w2 ⟨rfl, rfl⟩)
    | (go_at_call 140; (with_reducible refine (HG.out _ hr.good).mono ?_); rintro e w3 ⟨er, her, rfl, hb⟩; replace hr := hr.step hb; replace kr := kr.step hb; have e1 := kr.cell; have g1 := kr.froz; have l1 := kr.lt; have HX := Lib.hid her; clear hb))
  refine bodyPost_ret (v := .tuple #[.agg #[.int .i64 0, .int .i64 0, .int .i64 0, .int .i64 0, .int .i64 0, .int .i64 0, .int .i64 0, .int .i64 0], .int .i64 0, .int .i64 er]) (by simp [results, Tryz.results133, go_sem, e1]) rfl ⟨er, HX.out, rfl, ?_⟩
  repeat (with_reducible refine Below.setCell ?_ (by simp) _)
  with_reducible exact hr.below
set_option maxRecDepth 100000 in
set_option maxHeartbeats 4000000 in
theorem epread_num (s : ByteArray) (r : Nat → Int) (a : Int) (w : World) (hs : s.size ≤ 9223372036854770000) (hg : Gd w) (hE : getE s 0 = 0) (hst : stP s (epU (getX s 0)) (getTo s 0) 7 = some (r, a)) :
    Calls Tryz.prog 133 #[.string s] w fun ev w' => ev = .returned (.tuple #[(epjoinP (getX s 0) r).val, .int .i64 a, .int .i64 0]) ∧ Below w.heap.size w w' := by
  have P2 := fun w hg => fget s 0 w hs (by omega) (by omega) hg
  rw [hE] at P2
  have P2 := Lib.hid P2
  have hr := Gr.refl hg
  have hb0 := get_bd hE
  have HNm := Lib.hid (fun w => epnamed (getX s 0) w)
  have HG := Lib.hid (fun w hg => pGetN_yes s (epU (getX s 0)) 7 7 (getTo s 0) r a w (by omega) rfl hs (by omega) (by omega) hst hg)
  have HJ := Lib.hid (fun w bx (kx : Blk w bx #[.int .i64 (r 0), .int .i64 (r 1), .int .i64 (r 2), .int .i64 (r 3), .int .i64 (r 4), .int .i64 (r 5), .int .i64 (r 6)]) => epjoin (getX s 0) (r 0) (r 1) (r 2) (r 3) (r 4) (r 5) (r 6) bx w kx)
  clear hE hg hb0 hst
  generalize epI (getX s 0) = I at *
  generalize epU (getX s 0) = U at *
  generalize getX s 0 = k at *
  generalize getTo s 0 = a0 at *
  unfold epjoinP Ev.val
  go_enter Tryz.func133, Tryz.ntmps133
  go_wp2_with (first
    | (go_at_call 124; (with_reducible refine (P2.out _ (hr.alloc _).good).mono ?_); rintro e w1 ⟨rfl, hb⟩; replace hr := (hr.alloc _).step hb; have kr := (Blk.new _ _ _).step hb; have e1 := kr.cell; have g1 := kr.froz; have l1 := kr.lt; clear hb)
    | (go_at_call 101; (with_reducible refine (HNm.out _).mono ?_); rintro e w2 ⟨rfl, rfl⟩)
    | (go_at_call 140; (with_reducible refine (HG.out _ hr.good).mono ?_); rintro e w3 ⟨bx, rfl, hb, -, kx⟩; replace hr := hr.step hb; replace kr := kr.step hb; have e1 := kr.cell; have g1 := kr.froz; have l1 := kr.lt; have ky : Blk w3 bx #[.int .i64 (r 0), .int .i64 (r 1), .int .i64 (r 2), .int .i64 (r 3), .int .i64 (r 4), .int .i64 (r 5), .int .i64 (r 6)] := kx; clear hb)
    | (go_at_call 141; (with_reducible refine (HJ.out _ bx ky).mono ?_); rintro e w5 ⟨rfl, hb⟩; replace hr := hr.step hb; replace kr := kr.step hb; have e1 := kr.cell; have g1 := kr.froz; have l1 := kr.lt; clear hb))
  refine bodyPost_ret (v := .tuple #[.agg #[.int .i64 k, .int .i64 (r 1), .int .i64 (r 0), .int .i64 (r 2), .int .i64 (r 3), .int .i64 (r 4), .int .i64 (r 5), .int .i64 (r 6)], .int .i64 a, .int .i64 0]) (by simp [results, Tryz.results133, go_sem, e1]) rfl ⟨rfl, ?_⟩
  repeat (with_reducible refine Below.setCell ?_ (by simp) _)
  with_reducible exact hr.below
theorem epread_no (s : ByteArray) (w : World) (hs : s.size ≤ 9223372036854770000) (hg : Gd w) (h : eprd s = none) : Calls Tryz.prog 133 #[.string s] w (epNo w) := by
  unfold eprd at h
  by_cases hE : getE s 0 = 0
  · rw [if_pos hE] at h
    cases hst : stP s (epU (getX s 0)) (getTo s 0) 7 with
    | none => exact epread_cut s w hs hg hE hst
    | some y =>
      obtain ⟨r, a⟩ := y
      rw [hst] at h
      simp [epend] at h
  · exact epread_bad s w hs hg hE
theorem epread_yes (s : ByteArray) (p : Ev) (b : Int) (w : World) (hs : s.size ≤ 9223372036854770000) (hg : Gd w) (h : eprd s = some (p, b)) : Calls Tryz.prog 133 #[.string s] w fun ev w' => ev = .returned (.tuple #[p.val, .int .i64 b, .int .i64 0]) ∧ Below w.heap.size w w' := by
  unfold eprd at h
  by_cases hE : getE s 0 = 0
  · rw [if_pos hE] at h
    cases hst : stP s (epU (getX s 0)) (getTo s 0) 7 with
    | none => rw [hst] at h; cases h
    | some y =>
      obtain ⟨r, a⟩ := y
      rw [hst] at h
      simp only [epend] at h
      obtain ⟨rfl, rfl⟩ := Prod.mk.inj (Option.some.inj h)
      exact epread_num s r _ w hs hg hE hst
  · rw [if_neg hE] at h; cases h
open Go Go.RowKit
set_option maxHeartbeats 1000000 in
theorem epget_none (s : ByteArray) (w : World) (hs : s.size ≤ 9223372036854770000) (hg : Gd w) (h : eprd s = none) :
    Calls Tryz.prog 126 #[.string s] w fun e w' => e = .returned (.tuple #[.agg #[.int .i64 0, .int .i64 0, .int .i64 0, .int .i64 0, .int .i64 0, .int .i64 0, .int .i64 0, .int .i64 0], .int .i64 700]) ∧ Below w.heap.size w w' := by
  have HP := Lib.hid (fun w hg => epread_no s w hs hg h)
  have hr := Gr.refl hg
  clear h hg
  go_enter Tryz.func126, Tryz.ntmps126
  go_wp2_with (go_at_call 133; (with_reducible refine (HP.out _ (hr.alloc _).good).mono ?_); rintro e w1 ⟨er, her, rfl, hb1⟩; replace hr := (hr.alloc _).step hb1; have kr := (Blk.new _ _ _).step hb1; have e1 := kr.cell; have g1 := kr.froz; have l1 := kr.lt; clear hb1)
  refine bodyPost_ret (v := .tuple #[.agg #[.int .i64 0, .int .i64 0, .int .i64 0, .int .i64 0, .int .i64 0, .int .i64 0, .int .i64 0, .int .i64 0], .int .i64 700]) (by simp [results, Tryz.results126, go_sem, e1, l1]) rfl ⟨rfl, ?_⟩
  with_reducible refine Below.alloc ?_ (by simp; omega) _
  repeat (with_reducible refine Below.setCell ?_ (by simp) _)
  with_reducible exact hr.below
set_option maxHeartbeats 1000000 in
theorem epget_far (s : ByteArray) (p : Ev) (b : Int) (w : World) (hs : s.size ≤ 9223372036854770000) (hg : Gd w) (h : eprd s = some (p, b)) (hb : b ≠ s.size) :
    Calls Tryz.prog 126 #[.string s] w fun e w' => e = .returned (.tuple #[.agg #[.int .i64 0, .int .i64 0, .int .i64 0, .int .i64 0, .int .i64 0, .int .i64 0, .int .i64 0, .int .i64 0], .int .i64 700]) ∧ Below w.heap.size w w' := by
  have HP := Lib.hid (fun w hg => epread_yes s p b w hs hg h)
  have hM := fun w => epmay p w
  obtain ⟨k, u, ss, a, x, y, z, t⟩ := p
  unfold Ev.val at HP hM
  have HM := Lib.hid hM
  have hx : (b != (s.size : Int)) = true := by simpa using hb
  have hr := Gr.refl hg
  clear h hg hM hb
  go_enter Tryz.func126, Tryz.ntmps126
  go_wp2_with (first
    | (go_at_call 133; (with_reducible refine (HP.out _ (hr.alloc _).good).mono ?_); rintro e w1 ⟨rfl, hb1⟩; replace hr := (hr.alloc _).step hb1; have kr := (Blk.new _ _ _).step hb1; have e1 := kr.cell; have g1 := kr.froz; have l1 := kr.lt; clear hb1)
    | (go_at_call 93; (with_reducible refine (HM.out _).mono ?_); rintro e w2 ⟨rfl, hb1⟩; replace kr := (kr.alloc _).step hb1; have e2 := kr.cell; have g2 := kr.froz; have l2 := kr.lt; have kq := (Blk.new _ _ _).step hb1; have e3 := kq.cell; have g3 := kq.froz; have l3 := kq.lt; replace hr := (hr.alloc _).step hb1; clear hb1))
  refine bodyPost_ret (v := .tuple #[.agg #[.int .i64 0, .int .i64 0, .int .i64 0, .int .i64 0, .int .i64 0, .int .i64 0, .int .i64 0, .int .i64 0], .int .i64 700]) (by simp [results, Tryz.results126, go_sem, e1, l1]) rfl ⟨rfl, ?_⟩
  with_reducible refine Below.alloc ?_ (by simp; omega) _
  repeat (with_reducible refine Below.setCell ?_ (by simp) _)
  with_reducible exact hr.below
set_option maxHeartbeats 1000000 in
theorem epget_bad (s : ByteArray) (p : Ev) (b : Int) (w : World) (hs : s.size ≤ 9223372036854770000) (hg : Gd w) (h : eprd s = some (p, b)) (hb : b = s.size) (hm : p.may = false) :
    Calls Tryz.prog 126 #[.string s] w fun e w' => e = .returned (.tuple #[.agg #[.int .i64 0, .int .i64 0, .int .i64 0, .int .i64 0, .int .i64 0, .int .i64 0, .int .i64 0, .int .i64 0], .int .i64 700]) ∧ Below w.heap.size w w' := by
  have HP := Lib.hid (fun w hg => epread_yes s p b w hs hg h)
  have hM := fun w => epmay p w
  rw [hm] at hM
  obtain ⟨k, u, ss, a, x, y, z, t⟩ := p
  unfold Ev.val at HP hM
  have HM := Lib.hid hM
  have hx : (b != (s.size : Int)) = false := by simpa using hb
  have hr := Gr.refl hg
  clear h hg hM hb hm
  go_enter Tryz.func126, Tryz.ntmps126
  go_wp2_with (first
    | (go_at_call 133; (with_reducible refine (HP.out _ (hr.alloc _).good).mono ?_); rintro e w1 ⟨rfl, hb1⟩; replace hr := (hr.alloc _).step hb1; have kr := (Blk.new _ _ _).step hb1; have e1 := kr.cell; have g1 := kr.froz; have l1 := kr.lt; clear hb1)
    | (go_at_call 93; (with_reducible refine (HM.out _).mono ?_); rintro e w2 ⟨rfl, hb1⟩; replace kr := (kr.alloc _).step hb1; have e2 := kr.cell; have g2 := kr.froz; have l2 := kr.lt; have kq := (Blk.new _ _ _).step hb1; have e3 := kq.cell; have g3 := kq.froz; have l3 := kq.lt; replace hr := (hr.alloc _).step hb1; clear hb1))
  refine bodyPost_ret (v := .tuple #[.agg #[.int .i64 0, .int .i64 0, .int .i64 0, .int .i64 0, .int .i64 0, .int .i64 0, .int .i64 0, .int .i64 0], .int .i64 700]) (by simp [results, Tryz.results126, go_sem, e2]) rfl ⟨rfl, ?_⟩
  repeat (with_reducible refine Below.setCell ?_ (by simp; try omega) _)
  with_reducible exact hr.below
set_option maxHeartbeats 1000000 in
theorem epget_some (s : ByteArray) (p : Ev) (b : Int) (w : World) (hs : s.size ≤ 9223372036854770000) (hg : Gd w) (h : eprd s = some (p, b)) (hb : b = s.size) (hm : p.may = true) :
    Calls Tryz.prog 126 #[.string s] w fun e w' => e = .returned (.tuple #[p.val, .int .i64 0]) ∧ Below w.heap.size w w' := by
  have HP := Lib.hid (fun w hg => epread_yes s p b w hs hg h)
  have hM := fun w => epmay p w
  rw [hm] at hM
  obtain ⟨k, u, ss, a, x, y, z, t⟩ := p
  unfold Ev.val at HP hM
  have HM := Lib.hid hM
  have hx : (b != (s.size : Int)) = false := by simpa using hb
  have hr := Gr.refl hg
  unfold Ev.val
  clear h hg hM hb hm
  go_enter Tryz.func126, Tryz.ntmps126
  go_wp2_with (first
    | (go_at_call 133; (with_reducible refine (HP.out _ (hr.alloc _).good).mono ?_); rintro e w1 ⟨rfl, hb1⟩; replace hr := (hr.alloc _).step hb1; have kr := (Blk.new _ _ _).step hb1; have e1 := kr.cell; have g1 := kr.froz; have l1 := kr.lt; clear hb1)
    | (go_at_call 93; (with_reducible refine (HM.out _).mono ?_); rintro e w2 ⟨rfl, hb1⟩; replace kr := (kr.alloc _).step hb1; have e2 := kr.cell; have g2 := kr.froz; have l2 := kr.lt; have kq := (Blk.new _ _ _).step hb1; have e3 := kq.cell; have g3 := kq.froz; have l3 := kq.lt; replace hr := (hr.alloc _).step hb1; clear hb1))
  refine bodyPost_ret (v := .tuple #[.agg #[.int .i64 k, .int .i64 u, .int .i64 ss, .int .i64 a, .int .i64 x, .int .i64 y, .int .i64 z, .int .i64 t], .int .i64 0]) (by simp [results, Tryz.results126, go_sem, e2]) rfl ⟨rfl, ?_⟩
  repeat (with_reducible refine Below.setCell ?_ (by simp; try omega) _)
  with_reducible exact hr.below
theorem epget (s : ByteArray) (w : World) (hs : s.size ≤ 9223372036854770000) (hg : Gd w) : Calls Tryz.prog 126 #[.string s] w fun e w' => e = .returned (.tuple #[(Ev.getP s).val, .int .i64 (Ev.getE s)]) ∧ Below w.heap.size w w' := by
  have hg0 := eprd_ok s
  have hN : Ev.get s = none → (Ev.getP s).val = .agg #[.int .i64 0, .int .i64 0, .int .i64 0, .int .i64 0, .int .i64 0, .int .i64 0, .int .i64 0, .int .i64 0] ∧ Ev.getE s = 700 := fun e => by
    unfold Ev.getP Ev.getE; rw [e]; exact ⟨rfl, rfl⟩
  cases h : eprd s with
  | none =>
    rw [h] at hg0
    rw [(hN hg0).1, (hN hg0).2]
    exact epget_none s w hs hg h
  | some y =>
    obtain ⟨p, b⟩ := y
    rw [h] at hg0
    simp only at hg0
    by_cases hb : b = s.size
    · cases hm : p.may with
      | false =>
        rw [hm, if_neg (fun c => by cases c.2)] at hg0
        rw [(hN hg0).1, (hN hg0).2]
        exact epget_bad s p b w hs hg h hb hm
      | true =>
        rw [hm, if_pos ⟨hb, rfl⟩] at hg0
        rw [show Ev.getP s = p by unfold Ev.getP; rw [hg0]; rfl, show Ev.getE s = 0 by unfold Ev.getE; rw [hg0]; rfl]
        exact epget_some s p b w hs hg h hb hm
    · rw [if_neg (fun c => hb c.1)] at hg0
      rw [(hN hg0).1, (hN hg0).2]
      exact epget_far s p b w hs hg h hb
end Go.Proofs.YtbfpfmidjdonjaaGreatDoor
