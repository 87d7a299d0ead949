/- The walk of LockForms: locks and numbers that are none, and a lock that is not open. No condition. -/
import Derived.Test.YtnlmmpmpjcimcaaLkaw
import Derived.Test.YtnlmmpmpjcimcaaFplain3
import Derived.Deep.RegionWith
namespace Go.Proofs.Ytnlmmpmpjcimcaa
open Go Go.RowKit

theorem lk_form : (lkF 1 5 9 3 7, lkU 1 5 9 3 7, lkE 1 5 9 3 7) = (2, 5, 0) := by decide

theorem lk_old {w0 w2 w3 : World} {A : Array Value} {t : TypeId} (hB : Below w0.heap.size w0 w2) (hb : Below (w2.alloc (.cells A t)).heap.size (w2.alloc (.cells A t)) w3) : Blk w3 w2.heap.size A ∧ Below w0.heap.size w0 w3 :=
  ⟨(Blk.new _ _ _).step hb, (hB.alloc hB.size _).trans (hb.mono (by simp; have := hB.size; omega))⟩
theorem lk_far {w0 w2 w3 : World} {A : Array Value} {t : TypeId} {b off : Nat} {v : Value} (hB : Below w0.heap.size w0 w2) (h0 : w0.heap.size ≤ b)
    (hb : Below ((w2.setCell ⟨b, off, none⟩ v).alloc (.cells A t)).heap.size ((w2.setCell ⟨b, off, none⟩ v).alloc (.cells A t)) w3) : Blk w3 w2.heap.size A ∧ Below w0.heap.size w0 w3 :=
  ⟨(Blk.new' (w2.setCell ⟨b, off, none⟩ v) _ (by simp) A t).step hb, ((hB.setCell h0 _).alloc (by simp; exact hB.size) _).trans (hb.mono (by simp; have := hB.size; omega))⟩

set_option maxRecDepth 100000 in
set_option maxHeartbeats 16000000 in
theorem lforms_walk' (n x : Int) (j : Nat) (m : Int) (w : World) (hj : (IntKind.u64.wrap n).tmod 11 = (j : Int)) (hjl : j < 11) (hm : bits .and .i64 x 1023 = m) (m0 : 0 ≤ m) (m1 : m ≤ 1023) :
    Calls Try.prog 5 #[.int .i64 n, .int .i64 x] w fun e w' => e = .returned (.bool true) ∧ Below w.heap.size w w' := by
  have hG := Lib.hid (fun W => kf _ _ _ _ _ _ _ _ lk_form W)
  have hB := Below.refl w.heap.size w
  rcases (show j = 0 ∨ j = 1 ∨ j = 2 ∨ j = 3 ∨ j = 4 ∨ j = 5 ∨ j = 6 ∨ j = 7 ∨ j = 8 ∨ j = 9 ∨ j = 10 by omega) with h | h | h | h | h | h | h | h | h | h | h
  all_goals subst h
  all_goals clear hjl
  all_goals
    go_enter Try.func5, Try.ntmps5
    go_wp2_with (first
      | (go_at_call 12; (with_reducible refine (awake13 _).mono ?_); rintro e w1 ⟨rfl, hb⟩; replace hB := hb; clear hb; have hs1 := hB.size)
      | (go_at_call 7; first
        | ((with_reducible refine (hG.out _).mono ?_); rintro e w2 ⟨rfl, hb⟩; have kk := (Blk.new _ _ _).step hb; replace hB := (hB.alloc hB.size _).trans (hb.mono (by simp; have := hB.size; omega)); clear hb; have ek := kk.cell; have gk := kk.froz; have lk := kk.lt)
        | ((with_reducible refine (kfail_no _ _ _ _ _ (by unfold lkOk; omega) _).mono ?_); rintro e w3 ⟨rfl, hb⟩; (first | (have q := lk_far hB hs1 hb) | (have q := lk_old hB hb)); obtain ⟨ka, hB3⟩ := q; clear hb; have ea := ka.cell; have ga := ka.froz; have la := ka.lt))
      | (go_at_call 9; (with_reducible refine (lnum _ _).mono ?_); rintro e w7 ⟨rfl, rfl⟩))
  all_goals
    go_ret
    exact ⟨rfl, hB3.alloc hB3.size _⟩
theorem lforms_walk (n x : Int) (w : World) :
    Calls Try.prog 5 #[.int .i64 n, .int .i64 x] w fun e w' => e = .returned (.bool true) ∧ Below w.heap.size w w' := by
  have hu0 : 0 ≤ IntKind.u64.wrap n := by rw [IntKind.wrap_u64]; omega
  have hm := i64_mask x 10 (by omega)
  rw [show ((2 ^ 10 - 1 : Nat) : Int) = 1023 from by decide, show ((2 ^ 10 : Nat) : Int) = 1024 from by decide] at hm
  obtain ⟨j, hj, h9⟩ : ∃ j : Nat, (IntKind.u64.wrap n).tmod 11 = (j : Int) ∧ j < 11 := ⟨((IntKind.u64.wrap n) % 11).toNat, by rw [Int.tmod_eq_emod_of_nonneg hu0]; omega, by omega⟩
  exact lforms_walk' n x j _ w hj h9 hm (by omega) (by omega)
end Go.Proofs.Ytnlmmpmpjcimcaa
