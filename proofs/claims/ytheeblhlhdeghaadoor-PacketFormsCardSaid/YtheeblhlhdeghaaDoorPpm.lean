/- packet.May answers as the plain words say. No condition. -/
-- PKT
import Derived.Test.YtheeblhlhdeghaaDoorProg
import Derived.WalkKit
import Derived.WalkSpells
import Derived.WalkLawsBesides
import Derived.Deep.QuietTactic
import Derived.BigQuiet
import Derived.LoopTactic
import Derived.Lib.Hide
namespace Go.Proofs.YtheeblhlhdeghaaDoor
open Go Go.RowKit

/-- Which parts a kind has, a bit each; whether it has one; the greatest number of one. -/
def pU (k : Int) : Nat := if k = 0 then 33 else if k = 1 then 82 else if k = 2 then 112 else if k = 3 then 156 else if k = 4 then 20 else 0
def pT (h : Nat) (j : Int) : Bool := bits BinOp.and IntKind.u64 (h / 2 ^ j.toNat) 1 == 1
def pM (h : Nat) (j : Int) : Int := if pT h j then (if j = 3 then 1048575 else if j = 7 then 64 else 1073741823) else 0

theorem ret_bo {a b : Bool} (h : a = b) : Ending.returned (.bool a) = .returned (.bool b) := by rw [h]
theorem ret_in {k : IntKind} {a b : Int} (h : a = b) : Ending.returned (.int k a) = .returned (.int k b) := by rw [h]

theorem pnamed (k : Int) (w : World) : Calls Tryd.prog 15 #[.int .i64 k] w fun e w' => e = .returned (.int .u64 (pU k : Int)) ∧ w = w' := by
  have go : ∀ (a : Int) (m : Nat), (∀ w, Calls Tryd.prog 15 #[.int .i64 a] w fun e w' => e = .returned (.int .u64 (m : Int)) ∧ w = w') → k = a → pU k = m → Calls Tryd.prog 15 #[.int .i64 k] w fun e w' => e = .returned (.int .u64 (pU k : Int)) ∧ w = w' := by
    intro a m h e1 e2; rw [e2, e1]; exact h w
  by_cases h0 : k = 0
  · refine go 0 33 (fun w => ?_) h0 (by rw [h0]; rfl)
    go_enter Tryd.func15, Tryd.ntmps15
    go_wp2
    go_ret
    exact ⟨rfl, rfl⟩
  by_cases h1 : k = 1
  · refine go 1 82 (fun w => ?_) h1 (by rw [h1]; rfl)
    go_enter Tryd.func15, Tryd.ntmps15
    go_wp2
    go_ret
    exact ⟨rfl, rfl⟩
  by_cases h2 : k = 2
  · refine go 2 112 (fun w => ?_) h2 (by rw [h2]; rfl)
    go_enter Tryd.func15, Tryd.ntmps15
    go_wp2
    go_ret
    exact ⟨rfl, rfl⟩
  by_cases h3 : k = 3
  · refine go 3 156 (fun w => ?_) h3 (by rw [h3]; rfl)
    go_enter Tryd.func15, Tryd.ntmps15
    go_wp2
    go_ret
    exact ⟨rfl, rfl⟩
  by_cases h4 : k = 4
  · refine go 4 20 (fun w => ?_) h4 (by rw [h4]; rfl)
    go_enter Tryd.func15, Tryd.ntmps15
    go_wp2
    go_ret
    exact ⟨rfl, rfl⟩
  have e : pU k = 0 := by unfold pU; rw [if_neg h0, if_neg h1, if_neg h2, if_neg h3, if_neg h4]
  rw [e]
  go_enter Tryd.func15, Tryd.ntmps15
  go_wp2
  go_ret
  exact ⟨rfl, rfl⟩
theorem pwith (h : Nat) (j : Int) (w : World) (j0 : 0 ≤ j) (j1 : j ≤ 7) : Calls Tryd.prog 18 #[.int .u64 h, .int .i64 j] w fun e w' => e = .returned (.bool (pT h j)) ∧ w = w' := by
  go_enter Tryd.func18, Tryd.ntmps18
  go_wp2
  go_ret
  exact ⟨rfl, rfl⟩
theorem pmost (h : Nat) (j : Int) (w : World) (j0 : 0 ≤ j) (j1 : j ≤ 7) : Calls Tryd.prog 25 #[.int .u64 h, .int .i64 j] w fun e w' => e = .returned (.int .i64 (pM h j)) ∧ w = w' := by
  have H := Lib.hid (fun w => pwith h j w j0 j1)
  unfold pM
  generalize pT h j = b at *
  cases b
  · go_enter Tryd.func25, Tryd.ntmps25
    go_wp2_with (go_at_call 18; (with_reducible refine (H.out _).mono ?_); rintro e w1 ⟨rfl, rfl⟩)
    go_ret
    exact ⟨rfl, rfl⟩
  · go_enter Tryd.func25, Tryd.ntmps25
    go_wp2_with (go_at_call 18; (with_reducible refine (H.out _).mono ?_); rintro e w1 ⟨rfl, rfl⟩)
    all_goals
      go_ret
      exact ⟨ret_in (by simp_all), rfl⟩
theorem prow (k u n h t c s q : Int) (d : ByteArray) (w : World) : Calls Tryd.prog 17 #[.agg #[.int .i64 k, .int .i64 u, .int .i64 n, .int .i64 h, .int .i64 t, .int .i64 c, .int .i64 s, .int .i64 q, .string d]] w fun e w' => e = .returned (.agg #[.int .i64 u, .int .i64 h, .int .i64 s, .int .i64 q, .int .i64 t, .int .i64 n, .int .i64 c]) ∧ Below w.heap.size w w' := by
  go_enter Tryd.func17, Tryd.ntmps17
  go_wp2
  refine bodyPost_ret (v := .agg #[.int .i64 u, .int .i64 h, .int .i64 s, .int .i64 q, .int .i64 t, .int .i64 n, .int .i64 c]) (by simp [results, Tryd.results17, go_sem]) rfl ⟨rfl, ?_⟩
  repeat (first | exact Below.refl _ _ | refine Below.setCell ?_ (by simp) _ | refine Below.alloc ?_ (by simp) _)
end Go.Proofs.YtheeblhlhdeghaaDoor
