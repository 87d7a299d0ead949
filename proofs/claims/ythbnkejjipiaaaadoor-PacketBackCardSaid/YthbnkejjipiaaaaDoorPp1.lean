/- Package packet's small functions: named, limits, row, join. No condition. -/
import Derived.Test.YthbnkejjipiaaaaDoorParts3
import Derived.Test.YthbnkejjipiaaaaDoorPkt
namespace Go.Proofs.YthbnkejjipiaaaaDoor
open Go Go.RowKit

/-- Which places a kind has, a bit each; the greatest number of each. -/
def ppU (k : Int) : Nat := if k = 0 then 33 else if k = 1 then 82 else if k = 2 then 112 else if k = 3 then 156 else if k = 4 then 20 else 0
def ppM (_k : Int) : Nat → Int := rowL [1073741823, 1073741823, 1073741823, 1048575, 1073741823, 1073741823, 1073741823]
theorem ppnamed (k : Int) (w : World) : Calls Tryd.prog 26 #[.int .i64 k] w fun e w' => e = .returned (.int .u64 ((ppU k : Nat) : Int)) ∧ w = w' := by
  by_cases h0 : k = 0
  · subst h0
    show Calls _ _ _ _ fun e w' => e = .returned (.int .u64 (33 : Int)) ∧ w = w'
    go_enter Tryd.func26, Tryd.ntmps26
    go_wp2
    go_ret
    exact ⟨rfl, rfl⟩
  by_cases h1 : k = 1
  · subst h1
    show Calls _ _ _ _ fun e w' => e = .returned (.int .u64 (82 : Int)) ∧ w = w'
    go_enter Tryd.func26, Tryd.ntmps26
    go_wp2
    go_ret
    exact ⟨rfl, rfl⟩
  by_cases h2 : k = 2
  · subst h2
    show Calls _ _ _ _ fun e w' => e = .returned (.int .u64 (112 : Int)) ∧ w = w'
    go_enter Tryd.func26, Tryd.ntmps26
    go_wp2
    go_ret
    exact ⟨rfl, rfl⟩
  by_cases h3 : k = 3
  · subst h3
    show Calls _ _ _ _ fun e w' => e = .returned (.int .u64 (156 : Int)) ∧ w = w'
    go_enter Tryd.func26, Tryd.ntmps26
    go_wp2
    go_ret
    exact ⟨rfl, rfl⟩
  by_cases h4 : k = 4
  · subst h4
    show Calls _ _ _ _ fun e w' => e = .returned (.int .u64 (20 : Int)) ∧ w = w'
    go_enter Tryd.func26, Tryd.ntmps26
    go_wp2
    go_ret
    exact ⟨rfl, rfl⟩
  rw [show ppU k = 0 by unfold ppU; rw [if_neg h0, if_neg h1, if_neg h2, if_neg h3, if_neg h4]]
  show Calls _ _ _ _ fun e w' => e = .returned (.int .u64 (0 : Int)) ∧ w = w'
  have g0 : (k == 0) = false := by simpa using h0
  clear h0
  have g1 : (k == 1) = false := by simpa using h1
  clear h1
  have g2 : (k == 2) = false := by simpa using h2
  clear h2
  have g3 : (k == 3) = false := by simpa using h3
  clear h3
  have g4 : (k == 4) = false := by simpa using h4
  clear h4
  go_enter Tryd.func26, Tryd.ntmps26
  go_wp2
  go_ret
  exact ⟨rfl, rfl⟩
theorem pplimits (k : Int) (w : World) : Calls Tryd.prog 37 #[] w fun e w' => ∃ b, e = .returned (.slice (some ⟨b, 0, none⟩) 7 7) ∧ Below w.heap.size w w' ∧ w.heap.size ≤ b ∧ Blk w' b (arrN 7 (ppM k)) := by
  go_enter Tryd.func37, Tryd.ntmps37
  go_wp2
  refine bodyPost_ret (v := .slice (some ⟨w.heap.size, 0, none⟩) 7 7) (by simp [results, Tryd.results37, go_sem]) rfl ⟨w.heap.size, rfl, (Below.refl _ _).alloc (Nat.le_refl _) _, Nat.le_refl _, Blk.new _ _ _⟩
theorem pprow (k u n h t c s q : Int) (d : ByteArray) (w : World) : Calls Tryd.prog 28 #[.agg #[.int .i64 k, .int .i64 u, .int .i64 n, .int .i64 h, .int .i64 t, .int .i64 c, .int .i64 s, .int .i64 q, .string d]] w fun e w' => ∃ b, e = .returned (.slice (some ⟨b, 0, none⟩) 7 7) ∧ Below w.heap.size w w' ∧ w.heap.size ≤ b ∧ Blk w' b (arrN 7 (rowL [u, h, s, q, t, n, c])) := by
  go_enter Tryd.func28, Tryd.ntmps28
  go_wp2
  refine bodyPost_ret (v := .slice (some ⟨w.heap.size + 1, 0, none⟩) 7 7) (by simp [results, Tryd.results28, go_sem]) rfl ⟨w.heap.size + 1, rfl, ((Below.refl _ _).alloc (Nat.le_refl _) _).alloc (by simp) _, by omega, Blk.new' _ _ (by simp) _ _⟩
set_option maxRecDepth 100000 in
theorem ppjoin (k a b c d e f g : Int) (s : ByteArray) (x : Nat) (w : World) (kx : Blk w x #[.int .i64 a, .int .i64 b, .int .i64 c, .int .i64 d, .int .i64 e, .int .i64 f, .int .i64 g]) : Calls Tryd.prog 49 #[.int .i64 k, .slice (some ⟨x, 0, none⟩) 7 7, .string s] w fun ev w' => ev = .returned (.agg #[.int .i64 k, .int .i64 a, .int .i64 f, .int .i64 b, .int .i64 e, .int .i64 g, .int .i64 c, .int .i64 d, .string s]) ∧ Below w.heap.size w w' := by
  have ky := (kx.alloc (.cells #[.int .i64 0, .int .i64 0, .int .i64 0, .int .i64 0, .int .i64 0, .int .i64 0, .int .i64 0, .int .i64 0, .string ⟨#[]⟩] 23)).drew
  go_enter Tryd.func49, Tryd.ntmps49
  go_wp2
  refine region_tail 24 (by kernel_rfl) (by kernel_rfl) fun W hW => ?_
  rw [← hW] at ky
  have HW := Lib.hid hW
  clear hW
  have e1 := ky.cell
  simp only [List.take_succ_cons, List.take_zero, List.drop_succ_cons, List.drop_zero]
  repeat still_step
  refine wpStill_nil ?_
  have hW := HW.out
  subst hW
  go_wp2
  exact bodyPost_ret (v := .agg #[.int .i64 k, .int .i64 a, .int .i64 f, .int .i64 b, .int .i64 e, .int .i64 g, .int .i64 c, .int .i64 d, .string s]) (by simp [results, Tryd.results49, go_sem]) rfl ⟨rfl, ((Below.refl _ _).alloc (Nat.le_refl _) _).trans ⟨rfl, rfl, rfl, Nat.le_refl _, fun _ _ => rfl⟩⟩
end Go.Proofs.YthbnkejjipiaaaaDoor
