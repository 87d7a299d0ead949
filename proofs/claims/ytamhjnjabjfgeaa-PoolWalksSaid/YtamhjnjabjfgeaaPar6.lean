/- The reference's NewPool: what it answers. Conditions: none. -/
import Derived.Test.YtamhjnjabjfgeaaPar5
namespace Go.Proofs.Ytamhjnjabjfgeaa
open Go Go.RowKit

def paNew : Pa := ⟨false, -1, 0⟩
set_option maxRecDepth 100000 in
set_option maxHeartbeats 2000000 in
theorem rnewpool (m : Int) (w : World) : Calls Try.prog 16 #[.int .i64 m] w (PaOut w (pnL m) (pnE m)) := by
  have hb0 := Below.refl w.heap.size w
  cases ho : pnOk m with
  | false =>
    rw [show pnL m = [] by unfold pnL; rw [ho]; rfl, show pnE m = 1600 by unfold pnE; rw [ho]; rfl]
    have hcase : m < 1 ∨ (1 ≤ m ∧ 16 < m) := by
      unfold pnOk at ho
      by_cases h1 : 1 ≤ m
      · by_cases h2 : m ≤ 16
        · simp [h1, h2] at ho
        · exact .inr ⟨h1, by omega⟩
      · exact .inl (by omega)
    clear ho
    rcases hcase with h1 | ⟨h1, h2⟩
    all_goals
      go_enter Try.func16, Try.ntmps16
      go_wp2
      go_ret2
      exact PaOut.no hb0 _
  | true =>
    obtain ⟨h1, h2⟩ : 1 ≤ m ∧ m ≤ 16 := by simpa [pnOk] using ho
    obtain ⟨q, rfl⟩ := Int.eq_ofNat_of_zero_le (show 0 ≤ m by omega)
    have HE := Lib.hid (show pnL (q : Int) = List.replicate q paNew ∧ pnE (q : Int) = 0 from by unfold pnL pnE; rw [if_pos ho, if_pos ho]; exact ⟨rfl, rfl⟩)
    have hS0 := At.erow0 TPa 3 (At.none hb0)
    clear ho hb0
    go_enter Try.func16, Try.ntmps16
    go_wp2
    go_loopw [4, 5] (fun s i wr => ∃ (k : Nat) (ao : Option Addr) (cap : Nat), k ≤ q ∧ i = .int .i64 (k : Int) ∧ s = .slice ao k cap ∧ At w ((rowE TPa 3 (.slice ao k cap) (List.replicate k paNew).length (paCells (List.replicate k paNew))).star emp) wr) (fun _ i _ => q - (intOf i).toNat)
    case atStart => exact ⟨0, none, 0, Nat.zero_le _, rfl, rfl, hS0⟩
    case round =>
      clear hS0
      obtain ⟨k, ao, cap, hk, rfl, rfl, hS⟩ := hrel
      by_cases hlt : k < q
      · have hltI : (k : Int) < (q : Int) := by omega
        have hfew : (List.replicate k paNew).length + 1 ≤ 5864062014805 := by rw [List.length_replicate]; omega
        have HS := Lib.hid hS
        clear hS hk
        go_wp2_with (at_builtin; refine pa_appLit emp_good rfl _ _ rfl ao k cap (List.replicate k paNew) [paNew] 1 rfl rfl rfl rfl HS.out hfew ?_; intro a3 c3 w3 hS3; have H3 := Lib.hid hS3; clear hS3)
        go_round
        case rel => exact ⟨k + 1, a3, c3, by omega, by go_num, rfl, by rw [List.replicate_succ']; exact H3.out⟩
        case measure => simp [intOf]; omega
      · obtain rfl : k = q := by omega
        have hltI : ¬ (k : Int) < (k : Int) := by omega
        have HS := Lib.hid hS
        clear hS hk
        go_wp2
        go_ret2
        rw [HE.out.1, HE.out.2]
        exact ⟨ao, cap, by rw [List.length_replicate]; rfl, by have h := HS.out; rw [List.length_replicate] at h ⊢; exact h⟩
end Go.Proofs.Ytamhjnjabjfgeaa
