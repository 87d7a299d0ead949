/- Package admin's small functions: named, limits, row, join. No condition. -/
import Derived.Test.YtpleefloaoljfaaDoorParts3
import Derived.Test.YtpleefloaoljfaaDoorAdm
namespace Go.Proofs.YtpleefloaoljfaaDoor
open Go Go.RowKit

/-- Which places a kind has, a bit each; the greatest number of each. -/
def apU (k : Int) : Nat := if k = 0 then 15 else if k = 1 then 1 else if k = 2 then 1 else if k = 3 then 0 else if k = 4 then 16 else 0
def apM (_k : Int) : Nat → Int := rowL [7, 1073741823, 1073741823, 1048576, 1073741823]
def apI (k : Int) : Bool := decide (k = 0) || decide (k = 1) || decide (k = 2) || decide (k = 3) || decide (k = 4)
theorem apnamed (k : Int) (w : World) : Calls Tryd.prog 15 #[.int .i64 k] w fun e w' => e = .returned (.tuple #[.int .u64 ((apU k : Nat) : Int), .bool (apI k)]) ∧ w = w' := by
  by_cases h0 : k = 0
  · subst h0
    show Calls _ _ _ _ fun e w' => e = .returned (.tuple #[.int .u64 (15 : Int), .bool true]) ∧ w = w'
    go_enter Tryd.func15, Tryd.ntmps15
    go_wp2
    go_ret2
    exact ⟨rfl, rfl⟩
  by_cases h1 : k = 1
  · subst h1
    show Calls _ _ _ _ fun e w' => e = .returned (.tuple #[.int .u64 (1 : Int), .bool true]) ∧ w = w'
    go_enter Tryd.func15, Tryd.ntmps15
    go_wp2
    go_ret2
    exact ⟨rfl, rfl⟩
  by_cases h2 : k = 2
  · subst h2
    show Calls _ _ _ _ fun e w' => e = .returned (.tuple #[.int .u64 (1 : Int), .bool true]) ∧ w = w'
    go_enter Tryd.func15, Tryd.ntmps15
    go_wp2
    go_ret2
    exact ⟨rfl, rfl⟩
  by_cases h3 : k = 3
  · subst h3
    show Calls _ _ _ _ fun e w' => e = .returned (.tuple #[.int .u64 (0 : Int), .bool true]) ∧ w = w'
    go_enter Tryd.func15, Tryd.ntmps15
    go_wp2
    go_ret2
    exact ⟨rfl, rfl⟩
  by_cases h4 : k = 4
  · subst h4
    show Calls _ _ _ _ fun e w' => e = .returned (.tuple #[.int .u64 (16 : Int), .bool true]) ∧ w = w'
    go_enter Tryd.func15, Tryd.ntmps15
    go_wp2
    go_ret2
    exact ⟨rfl, rfl⟩
  rw [show apU k = 0 by unfold apU; rw [if_neg h0, if_neg h1, if_neg h2, if_neg h3, if_neg h4], show apI k = false by unfold apI; simp [h0, h1, h2, h3, h4]]
  show Calls _ _ _ _ fun e w' => e = .returned (.tuple #[.int .u64 (0 : Int), .bool false]) ∧ w = w'
  have g0 : (k == 0) = false := by simpa using h0
  clear h0
  have g1 : (k == 1) = false := by simpa using h1
  clear h1
  have g2 : (k == 2) = false := by simpa using h2
  clear h2
  have g3 : (k == 3) = false := by simpa using h3
  clear h3
  have g4 : (k == 4) = false := by simpa using h4
  clear h4
  go_enter Tryd.func15, Tryd.ntmps15
  go_wp2
  go_ret2
  exact ⟨rfl, rfl⟩
theorem aplimits (k : Int) (w : World) : Calls Tryd.prog 22 #[] w fun e w' => ∃ b, e = .returned (.slice (some ⟨b, 0, none⟩) 5 5) ∧ Below w.heap.size w w' ∧ w.heap.size ≤ b ∧ Blk w' b (arrN 5 (apM k)) := by
  go_enter Tryd.func22, Tryd.ntmps22
  go_wp2
  refine bodyPost_ret (v := .slice (some ⟨w.heap.size, 0, none⟩) 5 5) (by simp [results, Tryd.results22, go_sem]) rfl ⟨w.heap.size, rfl, (Below.refl _ _).alloc (Nat.le_refl _) _, Nat.le_refl _, Blk.new _ _ _⟩
theorem aprow (k u y x q s : Int) (w : World) : Calls Tryd.prog 17 #[.agg #[.int .i64 k, .int .i64 u, .int .i64 y, .int .i64 x, .int .i64 q, .int .i64 s]] w fun e w' => ∃ b, e = .returned (.slice (some ⟨b, 0, none⟩) 5 5) ∧ Below w.heap.size w w' ∧ w.heap.size ≤ b ∧ Blk w' b (arrN 5 (rowL [u, y, x, q, s])) := by
  go_enter Tryd.func17, Tryd.ntmps17
  go_wp2
  refine bodyPost_ret (v := .slice (some ⟨w.heap.size + 1, 0, none⟩) 5 5) (by simp [results, Tryd.results17, go_sem]) rfl ⟨w.heap.size + 1, rfl, ((Below.refl _ _).alloc (Nat.le_refl _) _).alloc (by simp) _, by omega, Blk.new' _ _ (by simp) _ _⟩
set_option maxRecDepth 100000 in
theorem apjoin (k a b c d e : Int) (x : Nat) (w : World) (kx : Blk w x #[.int .i64 a, .int .i64 b, .int .i64 c, .int .i64 d, .int .i64 e]) : Calls Tryd.prog 29 #[.int .i64 k, .slice (some ⟨x, 0, none⟩) 5 5] w fun ev w' => ev = .returned (.agg #[.int .i64 k, .int .i64 a, .int .i64 b, .int .i64 c, .int .i64 d, .int .i64 e]) ∧ Below w.heap.size w w' := by
  have ky := (kx.alloc (.cells #[.int .i64 0, .int .i64 0, .int .i64 0, .int .i64 0, .int .i64 0, .int .i64 0] 23)).drew
  go_enter Tryd.func29, Tryd.ntmps29
  go_wp2
  refine region_tail 17 (by kernel_rfl) (by kernel_rfl) fun W hW => ?_
  rw [← hW] at ky
  have HW := Lib.hid hW
  clear hW
  have e1 := ky.cell
  simp only [List.take_succ_cons, List.take_zero, List.drop_succ_cons, List.drop_zero]
  repeat still_step
  refine wpStill_nil ?_
  have hW := HW.out
  subst hW
  go_wp2
  exact bodyPost_ret (v := .agg #[.int .i64 k, .int .i64 a, .int .i64 b, .int .i64 c, .int .i64 d, .int .i64 e]) (by simp [results, Tryd.results29, go_sem]) rfl ⟨rfl, ((Below.refl _ _).alloc (Nat.le_refl _) _).trans ⟨rfl, rfl, rfl, Nat.le_refl _, fun _ _ => rfl⟩⟩
end Go.Proofs.YtpleefloaoljfaaDoor
