/- The walk of Locks: the program and the reference answer alike, whatever the lock and the numbers. No condition. -/
import Derived.Test.YtnlmmpmpjcimcaaLkr
import Derived.Test.YtnlmmpmpjcimcaaLkaw
import Derived.Deep.RegionWith
namespace Go.Proofs.Ytnlmmpmpjcimcaa
open Go Go.RowKit

set_option maxRecDepth 100000 in
set_option maxHeartbeats 8000000 in
theorem locks_walk (f u t m o : Int) (w : World) :
    Calls Try.prog 3 #[.agg #[.int .i64 f, .int .i64 u], .int .i64 t, .int .i64 m, .int .i64 o] w fun e w' => e = .returned (.bool true) ∧ Below w.heap.size w w' := by
  have hP := fun W => kfail f u t m o W
  have hR := fun W => rfail f u t m o W
  generalize lkF f u t m o = X at hP hR
  generalize lkU f u t m o = V at hP hR
  generalize lkE f u t m o = E at hP hR
  have HP := Lib.hid hP
  have HR := Lib.hid hR
  clear hP hR
  have hB := Below.refl w.heap.size w
  go_enter Try.func3, Try.ntmps3
  go_wp2_with (first
    | (go_at_call 7; (with_reducible refine (HP.out _).mono ?_); rintro e w1 ⟨rfl, hb⟩; have kk := (Blk.new _ _ _).step hb; replace hB := (hB.alloc hB.size _).trans (hb.mono (by simp)); clear hb; have ek := kk.cell; have gk := kk.froz; have lk := kk.lt)
    | (go_at_call 8; (with_reducible refine (HR.out _).mono ?_); rintro e w2 ⟨rfl, hb⟩; replace kk := (kk.alloc _).step hb; have ka := (Blk.new _ _ _).step hb; replace hB := (hB.alloc hB.size _).trans (hb.mono (by simp; have := hB.size; omega)); clear hb; have ek := kk.cell; have gk := kk.froz; have lk := kk.lt; have ea := ka.cell; have ga := ka.froz; have la := ka.lt))
  have hB5 := (hB.alloc hB.size (.cells #[.int .i64 X, .int .i64 V] 23)).drew
  have kk5 := (kk.alloc (.cells #[.int .i64 X, .int .i64 V] 23)).drew
  go_region_with (first
    | (go_at_call 10; (with_reducible refine (kopen _ _ _ _ rfl _).mono ?_); rintro e w3 ⟨rfl, hb⟩; replace kk5 := kk5.step hb; replace hB5 := hB5.trans (hb.mono hB5.size); clear hb; have ek := kk5.cell)
    | (go_at_call 11; (with_reducible refine (ropen _ _ _ _ rfl _).mono ?_); rintro e w4 ⟨rfl, hb⟩; replace hB5 := hB5.trans (hb.mono hB5.size); clear hb)
    | (go_at_call 12; (with_reducible refine (awake13 _).mono ?_); rintro e w5 ⟨rfl, hb⟩; replace hB5 := hB5.trans (hb.mono hB5.size); clear hb)
    | (go_at_call 9; (with_reducible refine (lnum _ _).mono ?_); rintro e w7 ⟨rfl, rfl⟩))
  all_goals
    go_wp2
    go_ret
    exact ⟨rfl, hB5⟩
end Go.Proofs.Ytnlmmpmpjcimcaa
