/- Put together: Ep1, Ep2. Conditions: each theorem's own. -/
import Derived.Test.YtiebpjkppjollaaDoorBpb
import Derived.Test.YtiebpjkppjollaaDoorBpm
import Derived.Deep.RegionWith
namespace Go.Proofs.YtiebpjkppjollaaDoor
open Go Go.RowKit

/-- Which places a kind has, a bit each; the greatest number of each. -/
def epU (k : Int) : Nat := if k = 0 then 64 else if k = 1 then 58 else if k = 2 then 66 else if k = 3 then 10 else if k = 4 then 2 else if k = 5 then 71 else if k = 6 then 89 else if k = 7 then 2 else if k = 8 then 0 else if k = 9 then 1 else 0
def epM (k : Int) : Nat → Int := if k = 6 then rowL [1073741823, 7, 15, 1073741823, 4, 1048576, 1048575] else rowL [1073741823, 7, 15, 1073741823, 1073741823, 1048576, 1048575]
def epI (k : Int) : Bool := decide (k = 0) || decide (k = 1) || decide (k = 2) || decide (k = 3) || decide (k = 4) || decide (k = 5) || decide (k = 6) || decide (k = 7) || decide (k = 8) || decide (k = 9)
theorem epnamed (k : Int) (w : World) : Calls Tryd.prog 70 #[.int .i64 k] w fun e w' => e = .returned (.tuple #[.int .u64 ((epU k : Nat) : Int), .bool (epI k)]) ∧ w = w' := by
  by_cases h0 : k = 0
  · subst h0
    show Calls _ _ _ _ fun e w' => e = .returned (.tuple #[.int .u64 (64 : Int), .bool true]) ∧ w = w'
    go_enter Tryd.func70, Tryd.ntmps70
    go_wp2
    go_ret2
    exact ⟨rfl, rfl⟩
  by_cases h1 : k = 1
  · subst h1
    show Calls _ _ _ _ fun e w' => e = .returned (.tuple #[.int .u64 (58 : Int), .bool true]) ∧ w = w'
    go_enter Tryd.func70, Tryd.ntmps70
    go_wp2
    go_ret2
    exact ⟨rfl, rfl⟩
  by_cases h2 : k = 2
  · subst h2
    show Calls _ _ _ _ fun e w' => e = .returned (.tuple #[.int .u64 (66 : Int), .bool true]) ∧ w = w'
    go_enter Tryd.func70, Tryd.ntmps70
    go_wp2
    go_ret2
    exact ⟨rfl, rfl⟩
  by_cases h3 : k = 3
  · subst h3
    show Calls _ _ _ _ fun e w' => e = .returned (.tuple #[.int .u64 (10 : Int), .bool true]) ∧ w = w'
    go_enter Tryd.func70, Tryd.ntmps70
    go_wp2
    go_ret2
    exact ⟨rfl, rfl⟩
  by_cases h4 : k = 4
  · subst h4
    show Calls _ _ _ _ fun e w' => e = .returned (.tuple #[.int .u64 (2 : Int), .bool true]) ∧ w = w'
    go_enter Tryd.func70, Tryd.ntmps70
    go_wp2
    go_ret2
    exact ⟨rfl, rfl⟩
  by_cases h5 : k = 5
  · subst h5
    show Calls _ _ _ _ fun e w' => e = .returned (.tuple #[.int .u64 (71 : Int), .bool true]) ∧ w = w'
    go_enter Tryd.func70, Tryd.ntmps70
    go_wp2
    go_ret2
    exact ⟨rfl, rfl⟩
  by_cases h6 : k = 6
  · subst h6
    show Calls _ _ _ _ fun e w' => e = .returned (.tuple #[.int .u64 (89 : Int), .bool true]) ∧ w = w'
    go_enter Tryd.func70, Tryd.ntmps70
    go_wp2
    go_ret2
    exact ⟨rfl, rfl⟩
  by_cases h7 : k = 7
  · subst h7
    show Calls _ _ _ _ fun e w' => e = .returned (.tuple #[.int .u64 (2 : Int), .bool true]) ∧ w = w'
    go_enter Tryd.func70, Tryd.ntmps70
    go_wp2
    go_ret2
    exact ⟨rfl, rfl⟩
  by_cases h8 : k = 8
  · subst h8
    show Calls _ _ _ _ fun e w' => e = .returned (.tuple #[.int .u64 (0 : Int), .bool true]) ∧ w = w'
    go_enter Tryd.func70, Tryd.ntmps70
    go_wp2
    go_ret2
    exact ⟨rfl, rfl⟩
  by_cases h9 : k = 9
  · subst h9
    show Calls _ _ _ _ fun e w' => e = .returned (.tuple #[.int .u64 (1 : Int), .bool true]) ∧ w = w'
    go_enter Tryd.func70, Tryd.ntmps70
    go_wp2
    go_ret2
    exact ⟨rfl, rfl⟩
  rw [show epU k = 0 by unfold epU; rw [if_neg h0, if_neg h1, if_neg h2, if_neg h3, if_neg h4, if_neg h5, if_neg h6, if_neg h7, if_neg h8, if_neg h9], show epI k = false by unfold epI; simp [h0, h1, h2, h3, h4, h5, h6, h7, h8, h9]]
  show Calls _ _ _ _ fun e w' => e = .returned (.tuple #[.int .u64 (0 : Int), .bool false]) ∧ w = w'
  have g0 : (k == 0) = false := by simpa using h0
  clear h0
  have g1 : (k == 1) = false := by simpa using h1
  clear h1
  have g2 : (k == 2) = false := by simpa using h2
  clear h2
  have g3 : (k == 3) = false := by simpa using h3
  clear h3
  have g4 : (k == 4) = false := by simpa using h4
  clear h4
  have g5 : (k == 5) = false := by simpa using h5
  clear h5
  have g6 : (k == 6) = false := by simpa using h6
  clear h6
  have g7 : (k == 7) = false := by simpa using h7
  clear h7
  have g8 : (k == 8) = false := by simpa using h8
  clear h8
  have g9 : (k == 9) = false := by simpa using h9
  clear h9
  go_enter Tryd.func70, Tryd.ntmps70
  go_wp2
  go_ret2
  exact ⟨rfl, rfl⟩
theorem eplimits (k : Int) (w : World) : Calls Tryd.prog 84 #[.int .i64 k] w fun e w' => ∃ b, e = .returned (.slice (some ⟨b, 0, none⟩) 7 7) ∧ Below w.heap.size w w' ∧ w.heap.size ≤ b ∧ Blk w' b (arrN 7 (epM k)) := by
  by_cases h6 : k = 6
  · subst h6
    go_enter Tryd.func84, Tryd.ntmps84
    go_wp2
    refine bodyPost_ret (v := .slice (some ⟨w.heap.size, 0, none⟩) 7 7) (by simp [results, Tryd.results84, go_sem]) rfl ⟨w.heap.size, rfl, (Below.refl _ _).alloc (Nat.le_refl _) _, Nat.le_refl _, Blk.new _ _ _⟩
  rw [show epM k = rowL [1073741823, 7, 15, 1073741823, 1073741823, 1048576, 1048575] by unfold epM; rw [if_neg h6]]
  have g6 : (k == 6) = false := by simpa using h6
  clear h6
  go_enter Tryd.func84, Tryd.ntmps84
  go_wp2
  refine bodyPost_ret (v := .slice (some ⟨w.heap.size, 0, none⟩) 7 7) (by simp [results, Tryd.results84, go_sem]) rfl ⟨w.heap.size, rfl, (Below.refl _ _).alloc (Nat.le_refl _) _, Nat.le_refl _, Blk.new _ _ _⟩
theorem eprow (k u s a x y z t : Int) (w : World) : Calls Tryd.prog 72 #[.agg #[.int .i64 k, .int .i64 u, .int .i64 s, .int .i64 a, .int .i64 x, .int .i64 y, .int .i64 z, .int .i64 t]] w fun e w' => ∃ b, e = .returned (.slice (some ⟨b, 0, none⟩) 7 7) ∧ Below w.heap.size w w' ∧ w.heap.size ≤ b ∧ Blk w' b (arrN 7 (rowL [s, u, a, x, y, z, t])) := by
  go_enter Tryd.func72, Tryd.ntmps72
  go_wp2
  refine bodyPost_ret (v := .slice (some ⟨w.heap.size + 1, 0, none⟩) 7 7) (by simp [results, Tryd.results72, go_sem]) rfl ⟨w.heap.size + 1, rfl, ((Below.refl _ _).alloc (Nat.le_refl _) _).alloc (by simp) _, by omega, Blk.new' _ _ (by simp) _ _⟩
set_option maxRecDepth 100000 in
theorem epjoin (k a b c d e f g : Int) (x : Nat) (w : World) (kx : Blk w x #[.int .i64 a, .int .i64 b, .int .i64 c, .int .i64 d, .int .i64 e, .int .i64 f, .int .i64 g]) : Calls Tryd.prog 91 #[.int .i64 k, .slice (some ⟨x, 0, none⟩) 7 7] w fun ev w' => ev = .returned (.agg #[.int .i64 k, .int .i64 b, .int .i64 a, .int .i64 c, .int .i64 d, .int .i64 e, .int .i64 f, .int .i64 g]) ∧ Below w.heap.size w w' := by
  have ky := (kx.alloc (.cells #[.int .i64 0, .int .i64 0, .int .i64 0, .int .i64 0, .int .i64 0, .int .i64 0, .int .i64 0, .int .i64 0] 32)).drew
  go_enter Tryd.func91, Tryd.ntmps91
  go_wp2
  refine region_tail 23 (by kernel_rfl) (by kernel_rfl) fun W hW => ?_
  rw [← hW] at ky
  have HW := Lib.hid hW
  clear hW
  have e1 := ky.cell
  simp only [List.take_succ_cons, List.take_zero, List.drop_succ_cons, List.drop_zero]
  repeat still_step
  refine wpStill_nil ?_
  have hW := HW.out
  subst hW
  go_wp2
  exact bodyPost_ret (v := .agg #[.int .i64 k, .int .i64 b, .int .i64 a, .int .i64 c, .int .i64 d, .int .i64 e, .int .i64 f, .int .i64 g]) (by simp [results, Tryd.results91, go_sem]) rfl ⟨rfl, ((Below.refl _ _).alloc (Nat.le_refl _) _).trans ⟨rfl, rfl, rfl, Nat.le_refl _, fun _ _ => rfl⟩⟩
end Go.Proofs.YtiebpjkppjollaaDoor

namespace Go.Proofs.YtiebpjkppjollaaDoor
open Go Go.RowKit

/-- What the program asks. -/
def epok (k u s a x y z t : Int) : Bool := (epI k) && okRow (epU k) 7 (rowL [s, u, a, x, y, z, t]) (epM k)
set_option maxHeartbeats 2000000 in
theorem epmayR (k u s a x y z t : Int) (w : World) : Calls Tryd.prog 69 #[.agg #[.int .i64 k, .int .i64 u, .int .i64 s, .int .i64 a, .int .i64 x, .int .i64 y, .int .i64 z, .int .i64 t]] w fun e w' => e = .returned (.bool (epok k u s a x y z t)) ∧ Below w.heap.size w w' := by
  have HN := Lib.hid (fun w => epnamed k w)
  have HR := Lib.hid (fun w => eprow k u s a x y z t w)
  have HL := Lib.hid (fun w => eplimits k w)
  have HM := Lib.hid (fun b1 b2 w h1 h2 => pMay (epU k) 7 (rowL [s, u, a, x, y, z, t]) (epM k) b1 b2 w (by omega) h1 h2)
  have HP : Hid (epok k u s a x y z t = ((epI k) && okRow (epU k) 7 (rowL [s, u, a, x, y, z, t]) (epM k))) := Lib.hid rfl
  have HA1 := Lib.hid (fun j hj => arrN_get 7 (rowL [s, u, a, x, y, z, t]) j hj)
  have HA2 := Lib.hid (fun j hj => arrN_get 7 (epM k) j hj)
  generalize epok k u s a x y z t = B at *
  generalize okRow (epU k) 7 (rowL [s, u, a, x, y, z, t]) (epM k) = B1 at *
  generalize (rowL [s, u, a, x, y, z, t]) = r at *
  generalize (epM k) = m at *
  generalize epI k = I at *
  generalize epU k = u0 at *
  cases hI : I with
  | false =>
    rw [hI] at HP HN
    go_enter Tryd.func69, Tryd.ntmps69
    go_wp2_with (go_at_call 70; (with_reducible refine (HN.out _).mono ?_); rintro e w1 ⟨rfl, rfl⟩)
    have kp := ((Blk.new w #[.int .i64 k, .int .i64 u, .int .i64 s, .int .i64 a, .int .i64 x, .int .i64 y, .int .i64 z, .int .i64 t] 32)).drew
    have e1 := kp.cell
    have hb' : Below w.heap.size w (w.alloc (.cells #[.int .i64 k, .int .i64 u, .int .i64 s, .int .i64 a, .int .i64 x, .int .i64 y, .int .i64 z, .int .i64 t] 32)).drew := ((Below.refl _ _).alloc (Nat.le_refl _) _).trans ⟨rfl, rfl, rfl, Nat.le_refl _, fun _ _ => rfl⟩
    first
      | (go_region_with (first
    | (go_at_call 72; (with_reducible refine (HR.out _).mono ?_); rintro e w1 ⟨x1, rfl, hb, -, k1⟩; replace kp := kp.step hb; have e1 := kp.cell; have g1 := kp.froz; have l1 := kp.lt; replace hb' := hb'.trans (hb.mono hb'.size); clear hb)
    | (go_at_call 84; (with_reducible refine (HL.out _).mono ?_); rintro e w2 ⟨x2, rfl, hb, -, k2⟩; replace kp := kp.step hb; have e1 := kp.cell; have g1 := kp.froz; have l1 := kp.lt; replace k1 := k1.step hb; replace hb' := hb'.trans (hb.mono hb'.size); clear hb)
    | (go_at_call 83; (with_reducible refine (HM.out _ _ _ (fun j hj => (k1.cell j).trans (HA1.out j hj)) (fun j hj => (k2.cell j).trans (HA2.out j hj))).mono ?_); rintro e w3 ⟨rfl, rfl⟩)))
      | fail
    all_goals
      go_wp2
      go_ret
      exact ⟨ret_bo (by rw [HP.out]; rfl), hb'⟩
  | true =>
    rw [hI] at HP HN
    go_enter Tryd.func69, Tryd.ntmps69
    go_wp2_with (go_at_call 70; (with_reducible refine (HN.out _).mono ?_); rintro e w1 ⟨rfl, rfl⟩)
    have kp := ((Blk.new w #[.int .i64 k, .int .i64 u, .int .i64 s, .int .i64 a, .int .i64 x, .int .i64 y, .int .i64 z, .int .i64 t] 32)).drew
    have e1 := kp.cell
    have hb' : Below w.heap.size w (w.alloc (.cells #[.int .i64 k, .int .i64 u, .int .i64 s, .int .i64 a, .int .i64 x, .int .i64 y, .int .i64 z, .int .i64 t] 32)).drew := ((Below.refl _ _).alloc (Nat.le_refl _) _).trans ⟨rfl, rfl, rfl, Nat.le_refl _, fun _ _ => rfl⟩
    first
      | (go_region_with (first
    | (go_at_call 72; (with_reducible refine (HR.out _).mono ?_); rintro e w1 ⟨x1, rfl, hb, -, k1⟩; replace kp := kp.step hb; have e1 := kp.cell; have g1 := kp.froz; have l1 := kp.lt; replace hb' := hb'.trans (hb.mono hb'.size); clear hb)
    | (go_at_call 84; (with_reducible refine (HL.out _).mono ?_); rintro e w2 ⟨x2, rfl, hb, -, k2⟩; replace kp := kp.step hb; have e1 := kp.cell; have g1 := kp.froz; have l1 := kp.lt; replace k1 := k1.step hb; replace hb' := hb'.trans (hb.mono hb'.size); clear hb)
    | (go_at_call 83; (with_reducible refine (HM.out _ _ _ (fun j hj => (k1.cell j).trans (HA1.out j hj)) (fun j hj => (k2.cell j).trans (HA2.out j hj))).mono ?_); rintro e w3 ⟨rfl, rfl⟩)))
      | fail
    all_goals
      go_wp2
      go_ret
      exact ⟨ret_bo (by rw [HP.out]; rfl), hb'⟩
end Go.Proofs.YtiebpjkppjollaaDoor

