/- Put together: Parts, Parts2. Conditions: each theorem's own. -/
import Derived.Test.YtiebpjkppjollaaDoorFnum
import Derived.Test.YtiebpjkppjollaaDoorBfr
import Derived.Test.YtiebpjkppjollaaDoorBlk
import Derived.WalkKit
import Derived.LoopTactic
namespace Go.Proofs.YtiebpjkppjollaaDoor
open Go Go.RowKit

theorem ret_bo {a b : Bool} (h : a = b) : Ending.returned (.bool a) = .returned (.bool b) := by rw [h]
theorem ret_in {k : IntKind} {a b : Int} (h : a = b) : Ending.returned (.int k a) = .returned (.int k b) := by rw [h]
/-- Is the place in the set? -/
def pT (h : Nat) (j : Int) : Bool := bits BinOp.and IntKind.u64 (h / 2 ^ j.toNat) 1 == 1
theorem pHas (h : Nat) (j : Int) (w : World) (j0 : 0 ≤ j) (j1 : j ≤ 31) : Calls Tryd.prog 85 #[.int .u64 h, .int .i64 j] w fun e w' => e = .returned (.bool (pT h j)) ∧ w = w' := by
  go_enter Tryd.func85, Tryd.ntmps85
  go_wp2
  go_ret
  exact ⟨rfl, rfl⟩
/-- May the row's numbers be? -/
def okRow (U : Nat) (n : Nat) (r M : Nat → Int) : Bool := (List.range n).all fun j => (decide (0 ≤ r j) && decide (r j ≤ M j)) && (decide (r j = 0) || pT U j)
theorem okRow_no {U n : Nat} {r M : Nat → Int} (j : Nat) (hj : j < n) (h : r j < 0 ∨ M j < r j ∨ (r j ≠ 0 ∧ pT U j = false)) : okRow U n r M = false := by
  unfold okRow
  rw [List.all_eq_false]
  refine ⟨j, List.mem_range.2 hj, ?_⟩
  rcases h with h | h | ⟨h1, h2⟩
  · simp; omega
  · simp; omega
  · simp [h1, h2]
theorem okRow_yes {U n : Nat} {r M : Nat → Int} (h : ∀ j, j < n → 0 ≤ r j ∧ r j ≤ M j ∧ (r j = 0 ∨ pT U j = true)) : okRow U n r M = true := by
  unfold okRow
  rw [List.all_eq_true]
  intro j hj
  obtain ⟨h1, h2, h3⟩ := h j (List.mem_range.1 hj)
  simp [h1, h2, h3]

theorem okRow_step {U : Nat} {r M : Nat → Int} (j : Nat) (h : ∀ m : Nat, m < j → 0 ≤ r m ∧ r m ≤ M m ∧ (r m = 0 ∨ pT U m = true)) (h1 : 0 ≤ r j) (h2 : r j ≤ M j) (h3 : r j = 0 ∨ pT U j = true) : ∀ m : Nat, m < j + 1 → 0 ≤ r m ∧ r m ≤ M m ∧ (r m = 0 ∨ pT U m = true) := by
  intro m hm
  by_cases e : m = j
  · subst e; exact ⟨h1, h2, h3⟩
  · exact h m (by omega)
theorem or_of {x : Int} {b : Bool} (h : (x != 0) = false ∨ (!b) = false) : x = 0 ∨ b = true := by
  rcases h with h | h
  · exact .inl (by simpa using h)
  · exact .inr (by simpa using h)

set_option maxHeartbeats 2000000 in
theorem pMay (U n : Nat) (r M : Nat → Int) (b1 b2 : Nat) (w : World) (hn : n ≤ 32) (h1 : ∀ j, j < n → w.cell? ⟨b1, j, none⟩ = some (.int .i64 (r j))) (h2 : ∀ j, j < n → w.cell? ⟨b2, j, none⟩ = some (.int .i64 (M j))) :
    Calls Tryd.prog 83 #[.int .u64 U, .slice (some ⟨b1, 0, none⟩) n n, .slice (some ⟨b2, 0, none⟩) n n] w fun e w' => e = .returned (.bool (okRow U n r M)) ∧ w = w' := by
  have H1 := Lib.hid h1
  have H2 := Lib.hid h2
  have HH := Lib.hid (fun (j : Int) w j0 j1 => pHas U j w j0 j1)
  have HN := Lib.hid (fun j hj h => okRow_no (U := U) (n := n) (r := r) (M := M) j hj h)
  have HY := Lib.hid (fun h => okRow_yes (U := U) (n := n) (r := r) (M := M) h)
  generalize okRow U n r M = B at *
  clear h1 h2
  go_enter Tryd.func83, Tryd.ntmps83
  go_wp2
  go_loop [11] (fun i => ∃ j : Nat, j ≤ n ∧ (∀ m, m < j → 0 ≤ r m ∧ r m ≤ M m ∧ (r m = 0 ∨ pT U m = true)) ∧ i = .int .i64 j) (fun i => n - (intOf i).toNat)
  case atStart => exact ⟨0, by omega, fun m hm => absurd hm (by omega), rfl⟩
  case round =>
    obtain ⟨j, hj, hall, rfl⟩ := hrel
    have HA := Lib.hid hall
    clear hall
    by_cases hlt : j < n
    · have e1 := H1.out j hlt
      have e2 := H2.out j hlt
      have HHj := Lib.hid (fun w => HH.out (j : Int) w (by omega) (by omega))
      have HNj := Lib.hid (HN.out j hlt)
      have HXj := Lib.hid (okRow_step (U := U) (r := r) (M := M) j HA.out)
      generalize hx : r j = x at *
      generalize hM : M j = m0 at *
      generalize hp : pT U (j : Int) = tb at *
      go_wp2_with (go_at_call 85; (with_reducible refine (HHj.out _).mono ?_); rintro e w1 ⟨rfl, rfl⟩)
      all_goals first
        | (go_ret; refine ⟨ret_bo (HNj.out ?_).symm, rfl⟩; first | omega | (refine .inr (.inr ?_); simp_all))
        | (go_round
           case rel => exact ⟨j + 1, by omega, HXj.out (by omega) (by omega) (by first | exact .inl (by assumption) | exact .inr (by assumption) | exact or_of (by assumption) | simp_all), by go_num⟩
           case measure => simp [intOf]; omega)
    · obtain rfl : j = n := by omega
      go_wp2
      go_ret
      exact ⟨ret_bo (HY.out HA.out).symm, rfl⟩
end Go.Proofs.YtiebpjkppjollaaDoor

namespace Go.Proofs.YtiebpjkppjollaaDoor
open Go Go.RowKit

/-- The bytes as the program lays them: the kind, then those of the first j places that are in the set. -/
def accP (k : Int) (U : Nat) (r : Nat → Int) : Nat → ByteArray
  | 0 => numS k
  | j + 1 => if pT U (j : Nat) then accP k U r j ++ numS (r j) else accP k U r j
theorem accP_size (k : Int) (U : Nat) (r : Nat → Int) (j : Nat) : (accP k U r j).size ≤ 5 * (j + 1) := by
  induction j with
  | zero => exact numS_size k
  | succ j ih =>
    rw [accP]
    have := numS_size (r j)
    split
    · rw [ByteArray.size_append]; omega
    · omega

set_option maxRecDepth 100000 in
set_option maxHeartbeats 4000000 in
theorem pPut (U n : Nat) (k : Int) (r : Nat → Int) (b : Nat) (w : World) (hn : n ≤ 32) (hk0 : -9223372036854775808 ≤ k) (hk1 : k ≤ 9223372036854775807) (hb : b < w.heap.size)
    (hr : ∀ j, j < n → -9223372036854775808 ≤ r j ∧ r j ≤ 9223372036854775807) (hc : ∀ j, j < n → w.cell? ⟨b, j, none⟩ = some (.int .i64 (r j))) :
    Calls Tryd.prog 71 #[.int .u64 U, .int .i64 k, .slice (some ⟨b, 0, none⟩) n n] w fun e w' => e = .returned (.string (accP k U r n)) ∧ Below w.heap.size w w' := by
  have HC := Lib.hid hc
  have HX := Lib.hid hr
  have HH := Lib.hid (fun (j : Int) w j0 j1 => pHas U j w j0 j1)
  have HK := Lib.hid (fun w => fnum k w hk0 hk1)
  have HA : Hid (∀ j, accP k U r (j + 1) = if pT U (j : Nat) then accP k U r j ++ numS (r j) else accP k U r j) := Lib.hid (fun _ => rfl)
  have HZ := Lib.hid (accP_size k U r)
  have H0 : Hid (numS k = accP k U r 0) := Lib.hid rfl
  clear hc hr hk0 hk1
  generalize accP k U r = ac at *
  rw [H0.out] at HK
  clear H0
  generalize numE k = ke at *
  have z0 := HZ.out 0
  go_enter Tryd.func71, Tryd.ntmps71
  go_wp2_with (go_at_call 53; (with_reducible refine (HK.out _).mono ?_); rintro e w1 ⟨rfl, hB⟩)
  clear z0
  go_loopw [7, 20] (fun o i wr => ∃ j : Nat, j ≤ n ∧ i = .int .i64 j ∧ o = .string (ac j) ∧ Below w.heap.size w wr) (fun _ i _ => n - (intOf i).toNat)
  case atStart => exact ⟨0, by omega, rfl, rfl, hB⟩
  case round =>
    clear hB
    obtain ⟨j, hj, rfl, rfl, hB⟩ := hrel
    have z0 := HZ.out j
    by_cases hlt : j < n
    · have e1 := (hB.cell (p := ⟨b, j, none⟩) hb).trans (HC.out j hlt)
      have HHj := Lib.hid (fun w => HH.out (j : Int) w (by omega) (by omega))
      have HAj := Lib.hid (HA.out j)
      obtain ⟨x0, x1⟩ := HX.out j hlt
      have HF := Lib.hid (fun w => fnum (r j) w x0 x1)
      have z1 := numS_size (r j)
      clear x0 x1
      generalize numE (r j) = ne at *
      generalize numS (r j) = ns at *
      generalize r j = x at *
      cases hT : pT U (j : Int)
      · rw [hT] at HHj HAj
        clear hT
        go_wp2_with (go_at_call 85; (with_reducible refine (HHj.out _).mono ?_); rintro e w1 ⟨rfl, rfl⟩)
        go_roundw
        case rel => exact ⟨j + 1, by omega, by go_num, by rw [HAj.out]; rfl, hB⟩
        case measure => simp [intOf]; omega
      · rw [hT] at HHj HAj
        clear hT
        go_wp2_with (first
          | (go_at_call 85; (with_reducible refine (HHj.out _).mono ?_); rintro e w1 ⟨rfl, rfl⟩)
          | (go_at_call 53; (with_reducible refine (HF.out _).mono ?_); rintro e w1 ⟨rfl, hb1⟩))
        go_roundw
        case rel => exact ⟨j + 1, by omega, by go_num, by rw [HAj.out]; rfl, hB.trans (hb1.mono hB.size)⟩
        case measure => simp [intOf]; omega
    · obtain rfl : j = n := by omega
      go_wp2
      go_ret
      exact ⟨rfl, hB⟩
end Go.Proofs.YtiebpjkppjollaaDoor

