/- Package parts: Put lays the kind's bytes, then those of the row's numbers that are in the set. Conditions: the row's cells. -/
import Derived.Test.YtodngcpphnmphaaDoorParts
namespace Go.Proofs.YtodngcpphnmphaaDoor
open Go Go.RowKit

/-- The bytes as the program lays them: the kind, then those of the first j places that are in the set. -/
def accP (k : Int) (U : Nat) (r : Nat → Int) : Nat → ByteArray
  | 0 => numS k
  | j + 1 => if pT U (j : Nat) then accP k U r j ++ numS (r j) else accP k U r j
theorem accP_size (k : Int) (U : Nat) (r : Nat → Int) (j : Nat) : (accP k U r j).size ≤ 5 * (j + 1) := by
  induction j with
  | zero => exact numS_size k
  | succ j ih =>
    rw [accP]
    have := numS_size (r j)
    split
    · rw [ByteArray.size_append]; omega
    · omega

set_option maxRecDepth 100000 in
set_option maxHeartbeats 4000000 in
theorem pPut (U n : Nat) (k : Int) (r : Nat → Int) (b : Nat) (w : World) (hn : n ≤ 32) (hk0 : -9223372036854775808 ≤ k) (hk1 : k ≤ 9223372036854775807) (hb : b < w.heap.size)
    (hr : ∀ j, j < n → -9223372036854775808 ≤ r j ∧ r j ≤ 9223372036854775807) (hc : ∀ j, j < n → w.cell? ⟨b, j, none⟩ = some (.int .i64 (r j))) :
    Calls Tryd.prog 16 #[.int .u64 U, .int .i64 k, .slice (some ⟨b, 0, none⟩) n n] w fun e w' => e = .returned (.string (accP k U r n)) ∧ Below w.heap.size w w' := by
  have HC := Lib.hid hc
  have HX := Lib.hid hr
  have HH := Lib.hid (fun (j : Int) w j0 j1 => pHas U j w j0 j1)
  have HK := Lib.hid (fun w => fnum k w hk0 hk1)
  have HA : Hid (∀ j, accP k U r (j + 1) = if pT U (j : Nat) then accP k U r j ++ numS (r j) else accP k U r j) := Lib.hid (fun _ => rfl)
  have HZ := Lib.hid (accP_size k U r)
  have H0 : Hid (numS k = accP k U r 0) := Lib.hid rfl
  clear hc hr hk0 hk1
  generalize accP k U r = ac at *
  rw [H0.out] at HK
  clear H0
  generalize numE k = ke at *
  have z0 := HZ.out 0
  go_enter Tryd.func16, Tryd.ntmps16
  go_wp2_with (go_at_call 25; (with_reducible refine (HK.out _).mono ?_); rintro e w1 ⟨rfl, hB⟩)
  clear z0
  go_loopw [7, 20] (fun o i wr => ∃ j : Nat, j ≤ n ∧ i = .int .i64 j ∧ o = .string (ac j) ∧ Below w.heap.size w wr) (fun _ i _ => n - (intOf i).toNat)
  case atStart => exact ⟨0, by omega, rfl, rfl, hB⟩
  case round =>
    clear hB
    obtain ⟨j, hj, rfl, rfl, hB⟩ := hrel
    have z0 := HZ.out j
    by_cases hlt : j < n
    · have e1 := (hB.cell (p := ⟨b, j, none⟩) hb).trans (HC.out j hlt)
      have HHj := Lib.hid (fun w => HH.out (j : Int) w (by omega) (by omega))
      have HAj := Lib.hid (HA.out j)
      obtain ⟨x0, x1⟩ := HX.out j hlt
      have HF := Lib.hid (fun w => fnum (r j) w x0 x1)
      have z1 := numS_size (r j)
      clear x0 x1
      generalize numE (r j) = ne at *
      generalize numS (r j) = ns at *
      generalize r j = x at *
      cases hT : pT U (j : Int)
      · rw [hT] at HHj HAj
        clear hT
        go_wp2_with (go_at_call 26; (with_reducible refine (HHj.out _).mono ?_); rintro e w1 ⟨rfl, rfl⟩)
        go_roundw
        case rel => exact ⟨j + 1, by omega, by go_num, by rw [HAj.out]; rfl, hB⟩
        case measure => simp [intOf]; omega
      · rw [hT] at HHj HAj
        clear hT
        go_wp2_with (first
          | (go_at_call 26; (with_reducible refine (HHj.out _).mono ?_); rintro e w1 ⟨rfl, rfl⟩)
          | (go_at_call 25; (with_reducible refine (HF.out _).mono ?_); rintro e w1 ⟨rfl, hb1⟩))
        go_roundw
        case rel => exact ⟨j + 1, by omega, by go_num, by rw [HAj.out]; rfl, hB.trans (hb1.mono hB.size)⟩
        case measure => simp [intOf]; omega
    · obtain rfl : j = n := by omega
      go_wp2
      go_ret
      exact ⟨rfl, hB⟩
end Go.Proofs.YtodngcpphnmphaaDoor
