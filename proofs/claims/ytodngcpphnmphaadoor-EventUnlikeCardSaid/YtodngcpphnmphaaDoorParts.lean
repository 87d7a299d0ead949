/- Package parts, which codecs share: a set of places, a row of numbers. Has, May and Put answer as the plain words say. Conditions: the row's cells. -/
import Derived.Test.YtodngcpphnmphaaDoorFnum
import Derived.Test.YtodngcpphnmphaaDoorRnums
import Derived.Test.YtodngcpphnmphaaDoorBlk
import Derived.WalkKit
import Derived.LoopTactic
namespace Go.Proofs.YtodngcpphnmphaaDoor
open Go Go.RowKit

theorem ret_bo {a b : Bool} (h : a = b) : Ending.returned (.bool a) = .returned (.bool b) := by rw [h]
theorem ret_in {k : IntKind} {a b : Int} (h : a = b) : Ending.returned (.int k a) = .returned (.int k b) := by rw [h]
/-- Is the place in the set? -/
def pT (h : Nat) (j : Int) : Bool := bits BinOp.and IntKind.u64 (h / 2 ^ j.toNat) 1 == 1
theorem pHas (h : Nat) (j : Int) (w : World) (j0 : 0 ≤ j) (j1 : j ≤ 31) : Calls Tryd.prog 26 #[.int .u64 h, .int .i64 j] w fun e w' => e = .returned (.bool (pT h j)) ∧ w = w' := by
  go_enter Tryd.func26, Tryd.ntmps26
  go_wp2
  go_ret
  exact ⟨rfl, rfl⟩
/-- May the row's numbers be? -/
def okRow (U : Nat) (n : Nat) (r M : Nat → Int) : Bool := (List.range n).all fun j => (decide (0 ≤ r j) && decide (r j ≤ M j)) && (decide (r j = 0) || pT U j)
theorem okRow_no {U n : Nat} {r M : Nat → Int} (j : Nat) (hj : j < n) (h : r j < 0 ∨ M j < r j ∨ (r j ≠ 0 ∧ pT U j = false)) : okRow U n r M = false := by
  unfold okRow
  rw [List.all_eq_false]
  refine ⟨j, List.mem_range.2 hj, ?_⟩
  rcases h with h | h | ⟨h1, h2⟩
  · simp; omega
  · simp; omega
  · simp [h1, h2]
theorem okRow_yes {U n : Nat} {r M : Nat → Int} (h : ∀ j, j < n → 0 ≤ r j ∧ r j ≤ M j ∧ (r j = 0 ∨ pT U j = true)) : okRow U n r M = true := by
  unfold okRow
  rw [List.all_eq_true]
  intro j hj
  obtain ⟨h1, h2, h3⟩ := h j (List.mem_range.1 hj)
  simp [h1, h2, h3]

theorem okRow_step {U : Nat} {r M : Nat → Int} (j : Nat) (h : ∀ m : Nat, m < j → 0 ≤ r m ∧ r m ≤ M m ∧ (r m = 0 ∨ pT U m = true)) (h1 : 0 ≤ r j) (h2 : r j ≤ M j) (h3 : r j = 0 ∨ pT U j = true) : ∀ m : Nat, m < j + 1 → 0 ≤ r m ∧ r m ≤ M m ∧ (r m = 0 ∨ pT U m = true) := by
  intro m hm
  by_cases e : m = j
  · subst e; exact ⟨h1, h2, h3⟩
  · exact h m (by omega)
theorem or_of {x : Int} {b : Bool} (h : (x != 0) = false ∨ (!b) = false) : x = 0 ∨ b = true := by
  rcases h with h | h
  · exact .inl (by simpa using h)
  · exact .inr (by simpa using h)

set_option maxHeartbeats 2000000 in
theorem pMay (U n : Nat) (r M : Nat → Int) (b1 b2 : Nat) (w : World) (hn : n ≤ 32) (h1 : ∀ j, j < n → w.cell? ⟨b1, j, none⟩ = some (.int .i64 (r j))) (h2 : ∀ j, j < n → w.cell? ⟨b2, j, none⟩ = some (.int .i64 (M j))) :
    Calls Tryd.prog 21 #[.int .u64 U, .slice (some ⟨b1, 0, none⟩) n n, .slice (some ⟨b2, 0, none⟩) n n] w fun e w' => e = .returned (.bool (okRow U n r M)) ∧ w = w' := by
  have H1 := Lib.hid h1
  have H2 := Lib.hid h2
  have HH := Lib.hid (fun (j : Int) w j0 j1 => pHas U j w j0 j1)
  have HN := Lib.hid (fun j hj h => okRow_no (U := U) (n := n) (r := r) (M := M) j hj h)
  have HY := Lib.hid (fun h => okRow_yes (U := U) (n := n) (r := r) (M := M) h)
  generalize okRow U n r M = B at *
  clear h1 h2
  go_enter Tryd.func21, Tryd.ntmps21
  go_wp2
  go_loop [11] (fun i => ∃ j : Nat, j ≤ n ∧ (∀ m, m < j → 0 ≤ r m ∧ r m ≤ M m ∧ (r m = 0 ∨ pT U m = true)) ∧ i = .int .i64 j) (fun i => n - (intOf i).toNat)
  case atStart => exact ⟨0, by omega, fun m hm => absurd hm (by omega), rfl⟩
  case round =>
    obtain ⟨j, hj, hall, rfl⟩ := hrel
    have HA := Lib.hid hall
    clear hall
    by_cases hlt : j < n
    · have e1 := H1.out j hlt
      have e2 := H2.out j hlt
      have HHj := Lib.hid (fun w => HH.out (j : Int) w (by omega) (by omega))
      have HNj := Lib.hid (HN.out j hlt)
      have HXj := Lib.hid (okRow_step (U := U) (r := r) (M := M) j HA.out)
      generalize hx : r j = x at *
      generalize hM : M j = m0 at *
      generalize hp : pT U (j : Int) = tb at *
      go_wp2_with (go_at_call 26; (with_reducible refine (HHj.out _).mono ?_); rintro e w1 ⟨rfl, rfl⟩)
      all_goals first
        | (go_ret; refine ⟨ret_bo (HNj.out ?_).symm, rfl⟩; first | omega | (refine .inr (.inr ?_); simp_all))
        | (go_round
           case rel => exact ⟨j + 1, by omega, HXj.out (by omega) (by omega) (by first | exact .inl (by assumption) | exact .inr (by assumption) | exact or_of (by assumption) | simp_all), by go_num⟩
           case measure => simp [intOf]; omega)
    · obtain rfl : j = n := by omega
      go_wp2
      go_ret
      exact ⟨ret_bo (HY.out HA.out).symm, rfl⟩
end Go.Proofs.YtodngcpphnmphaaDoor
