/- Package reply's small functions: named, limits, row, join. No condition. -/
import Derived.Test.YthbnkejjipiaaaaDoorParts3
import Derived.Test.YthbnkejjipiaaaaDoorRyl
namespace Go.Proofs.YthbnkejjipiaaaaDoor
open Go Go.RowKit

/-- Which places a kind has, a bit each; the greatest number of each. -/
def ypU (k : Int) : Nat := if k = 0 then 3 else if k = 1 then 28 else if k = 2 then 164 else if k = 3 then 64 else if k = 4 then 68 else if k = 5 then 0 else 0
def ypM (k : Int) : Nat → Int := if k = 4 then rowL [1073741823, 1073741823, 1073741823, 15, 1073741823, 1048575, 4] else rowL [1073741823, 1073741823, 1073741823, 15, 1073741823, 1048575, 11]
def ypI (k : Int) : Bool := decide (k = 0) || decide (k = 1) || decide (k = 2) || decide (k = 3) || decide (k = 4) || decide (k = 5)
theorem ypnamed (k : Int) (w : World) : Calls Tryd.prog 39 #[.int .i64 k] w fun e w' => e = .returned (.tuple #[.int .u64 ((ypU k : Nat) : Int), .bool (ypI k)]) ∧ w = w' := by
  by_cases h0 : k = 0
  · subst h0
    show Calls _ _ _ _ fun e w' => e = .returned (.tuple #[.int .u64 (3 : Int), .bool true]) ∧ w = w'
    go_enter Tryd.func39, Tryd.ntmps39
    go_wp2
    go_ret2
    exact ⟨rfl, rfl⟩
  by_cases h1 : k = 1
  · subst h1
    show Calls _ _ _ _ fun e w' => e = .returned (.tuple #[.int .u64 (28 : Int), .bool true]) ∧ w = w'
    go_enter Tryd.func39, Tryd.ntmps39
    go_wp2
    go_ret2
    exact ⟨rfl, rfl⟩
  by_cases h2 : k = 2
  · subst h2
    show Calls _ _ _ _ fun e w' => e = .returned (.tuple #[.int .u64 (164 : Int), .bool true]) ∧ w = w'
    go_enter Tryd.func39, Tryd.ntmps39
    go_wp2
    go_ret2
    exact ⟨rfl, rfl⟩
  by_cases h3 : k = 3
  · subst h3
    show Calls _ _ _ _ fun e w' => e = .returned (.tuple #[.int .u64 (64 : Int), .bool true]) ∧ w = w'
    go_enter Tryd.func39, Tryd.ntmps39
    go_wp2
    go_ret2
    exact ⟨rfl, rfl⟩
  by_cases h4 : k = 4
  · subst h4
    show Calls _ _ _ _ fun e w' => e = .returned (.tuple #[.int .u64 (68 : Int), .bool true]) ∧ w = w'
    go_enter Tryd.func39, Tryd.ntmps39
    go_wp2
    go_ret2
    exact ⟨rfl, rfl⟩
  by_cases h5 : k = 5
  · subst h5
    show Calls _ _ _ _ fun e w' => e = .returned (.tuple #[.int .u64 (0 : Int), .bool true]) ∧ w = w'
    go_enter Tryd.func39, Tryd.ntmps39
    go_wp2
    go_ret2
    exact ⟨rfl, rfl⟩
  rw [show ypU k = 0 by unfold ypU; rw [if_neg h0, if_neg h1, if_neg h2, if_neg h3, if_neg h4, if_neg h5], show ypI k = false by unfold ypI; simp [h0, h1, h2, h3, h4, h5]]
  show Calls _ _ _ _ fun e w' => e = .returned (.tuple #[.int .u64 (0 : Int), .bool false]) ∧ w = w'
  have g0 : (k == 0) = false := by simpa using h0
  clear h0
  have g1 : (k == 1) = false := by simpa using h1
  clear h1
  have g2 : (k == 2) = false := by simpa using h2
  clear h2
  have g3 : (k == 3) = false := by simpa using h3
  clear h3
  have g4 : (k == 4) = false := by simpa using h4
  clear h4
  have g5 : (k == 5) = false := by simpa using h5
  clear h5
  go_enter Tryd.func39, Tryd.ntmps39
  go_wp2
  go_ret2
  exact ⟨rfl, rfl⟩
theorem yplimits (k : Int) (w : World) : Calls Tryd.prog 42 #[.int .i64 k] w fun e w' => ∃ b, e = .returned (.slice (some ⟨b, 0, none⟩) 7 7) ∧ Below w.heap.size w w' ∧ w.heap.size ≤ b ∧ Blk w' b (arrN 7 (ypM k)) := by
  by_cases h4 : k = 4
  · subst h4
    go_enter Tryd.func42, Tryd.ntmps42
    go_wp2
    refine bodyPost_ret (v := .slice (some ⟨w.heap.size, 0, none⟩) 7 7) (by simp [results, Tryd.results42, go_sem]) rfl ⟨w.heap.size, rfl, (Below.refl _ _).alloc (Nat.le_refl _) _, Nat.le_refl _, Blk.new _ _ _⟩
  rw [show ypM k = rowL [1073741823, 1073741823, 1073741823, 15, 1073741823, 1048575, 11] by unfold ypM; rw [if_neg h4]]
  have g4 : (k == 4) = false := by simpa using h4
  clear h4
  go_enter Tryd.func42, Tryd.ntmps42
  go_wp2
  refine bodyPost_ret (v := .slice (some ⟨w.heap.size, 0, none⟩) 7 7) (by simp [results, Tryd.results42, go_sem]) rfl ⟨w.heap.size, rfl, (Below.refl _ _).alloc (Nat.le_refl _) _, Nat.le_refl _, Blk.new _ _ _⟩
theorem yprow (k h n s a t q c : Int) (d : ByteArray) (w : World) : Calls Tryd.prog 40 #[.agg #[.int .i64 k, .int .i64 h, .int .i64 n, .int .i64 s, .int .i64 a, .int .i64 t, .int .i64 q, .int .i64 c, .string d]] w fun e w' => ∃ b, e = .returned (.slice (some ⟨b, 0, none⟩) 7 7) ∧ Below w.heap.size w w' ∧ w.heap.size ≤ b ∧ Blk w' b (arrN 7 (rowL [h, n, s, a, t, q, c])) := by
  go_enter Tryd.func40, Tryd.ntmps40
  go_wp2
  refine bodyPost_ret (v := .slice (some ⟨w.heap.size + 1, 0, none⟩) 7 7) (by simp [results, Tryd.results40, go_sem]) rfl ⟨w.heap.size + 1, rfl, ((Below.refl _ _).alloc (Nat.le_refl _) _).alloc (by simp) _, by omega, Blk.new' _ _ (by simp) _ _⟩
set_option maxRecDepth 100000 in
theorem ypjoin (k a b c d e f g : Int) (s : ByteArray) (x : Nat) (w : World) (kx : Blk w x #[.int .i64 a, .int .i64 b, .int .i64 c, .int .i64 d, .int .i64 e, .int .i64 f, .int .i64 g]) : Calls Tryd.prog 52 #[.int .i64 k, .slice (some ⟨x, 0, none⟩) 7 7, .string s] w fun ev w' => ev = .returned (.agg #[.int .i64 k, .int .i64 a, .int .i64 b, .int .i64 c, .int .i64 d, .int .i64 e, .int .i64 f, .int .i64 g, .string s]) ∧ Below w.heap.size w w' := by
  have ky := (kx.alloc (.cells #[.int .i64 0, .int .i64 0, .int .i64 0, .int .i64 0, .int .i64 0, .int .i64 0, .int .i64 0, .int .i64 0, .string ⟨#[]⟩] 44)).drew
  go_enter Tryd.func52, Tryd.ntmps52
  go_wp2
  refine region_tail 24 (by kernel_rfl) (by kernel_rfl) fun W hW => ?_
  rw [← hW] at ky
  have HW := Lib.hid hW
  clear hW
  have e1 := ky.cell
  simp only [List.take_succ_cons, List.take_zero, List.drop_succ_cons, List.drop_zero]
  repeat still_step
  refine wpStill_nil ?_
  have hW := HW.out
  subst hW
  go_wp2
  exact bodyPost_ret (v := .agg #[.int .i64 k, .int .i64 a, .int .i64 b, .int .i64 c, .int .i64 d, .int .i64 e, .int .i64 f, .int .i64 g, .string s]) (by simp [results, Tryd.results52, go_sem]) rfl ⟨rfl, ((Below.refl _ _).alloc (Nat.le_refl _) _).trans ⟨rfl, rfl, rfl, Nat.le_refl _, fun _ _ => rfl⟩⟩
end Go.Proofs.YthbnkejjipiaaaaDoor
