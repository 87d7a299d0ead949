/- Chapter 13's 'awake' answers true. No condition. -/
import Derived.Test.YtnlmmpmpjcimcaaLkp
import Derived.Test.YtnlmmpmpjcimcaaLnum
namespace Go.Proofs.Ytnlmmpmpjcimcaa
open Go Go.RowKit

theorem kf (f u t m o x v e : Int) (h : (lkF f u t m o, lkU f u t m o, lkE f u t m o) = (x, v, e)) (w : World) : Calls Try.prog 7 #[.agg #[.int .i64 f, .int .i64 u], .int .i64 t, .int .i64 m, .int .i64 o] w fun r w' => r = .returned (.tuple #[.agg #[.int .i64 x, .int .i64 v], .int .i64 e]) ∧ Below w.heap.size w w' := by
  have := kfail f u t m o w
  simp only [Prod.mk.injEq] at h
  rwa [h.1, h.2.1, h.2.2] at this
theorem kw1 : (lkF 0 0 5 2 10, lkU 0 0 5 2 10, lkE 0 0 5 2 10) = (1, 0, 0) := by decide
theorem kw2 : (lkF 1 0 6 2 10, lkU 1 0 6 2 10, lkE 1 0 6 2 10) = (2, 16, 0) := by decide
theorem kw3 : (lkF 2 16 15 2 10, lkU 2 16 15 2 10, lkE 2 16 15 2 10) = (0, 0, 1300) := by decide
theorem kw4 : (lkF 2 16 16 2 10, lkU 2 16 16 2 10, lkE 2 16 16 2 10) = (1, 16, 0) := by decide
theorem kw5 : true = decide ((16 : Int) ≤ 16) := by decide
theorem kw6 : false = decide ((16 : Int) ≤ 15) := by decide

set_option maxRecDepth 100000 in
set_option maxHeartbeats 4000000 in
theorem awake13 (w : World) : Calls Try.prog 12 #[] w fun e w' => e = .returned (.bool true) ∧ Below w.heap.size w w' := by
  go_enter Try.func12, Try.ntmps12
  go_wp2_with (first
    | (go_at_call 7; first
       | ((with_reducible refine (kf _ _ _ _ _ _ _ _ kw1 _).mono ?_); rintro e w1 ⟨rfl, hB⟩)
       | ((with_reducible refine (kf _ _ _ _ _ _ _ _ kw2 _).mono ?_); rintro e w2 ⟨rfl, hb⟩; have ka := (Blk.new _ _ _).step hb; replace hB := (hB.alloc hB.size _).trans (hb.mono (by simp; have := hB.size; omega)); clear hb; have ea := ka.cell; have ga := ka.froz; have la := ka.lt)
       | ((with_reducible refine (kf _ _ _ _ _ _ _ _ kw3 _).mono ?_); rintro e w3 ⟨rfl, hb⟩; replace ka := (ka.alloc _).step hb; have kb := (Blk.new _ _ _).step hb; replace hB := (hB.alloc hB.size _).trans (hb.mono (by simp; have := hB.size; omega)); clear hb; have ea := ka.cell; have ga := ka.froz; have la := ka.lt; have eb := kb.cell; have gb := kb.froz; have lb := kb.lt)
       | ((with_reducible refine (kf _ _ _ _ _ _ _ _ kw4 _).mono ?_); rintro e w4 ⟨rfl, hb⟩; replace ka := (ka.alloc _).step hb; replace kb := (kb.alloc _).step hb; replace hB := (hB.alloc hB.size _).trans (hb.mono (by simp; have := hB.size; omega)); clear hb; have ea := ka.cell; have ga := ka.froz; have la := ka.lt; have eb := kb.cell; have gb := kb.froz; have lb := kb.lt))
    | (go_at_call 10; first
       | ((with_reducible refine (kopen _ _ _ _ kw5 _).mono ?_); rintro e w5 ⟨rfl, hb⟩; replace ka := (ka.alloc _).step hb; replace kb := (kb.alloc _).step hb; replace hB := (hB.alloc hB.size _).trans (hb.mono (by simp; have := hB.size; omega)); clear hb; have ea := ka.cell; have ga := ka.froz; have la := ka.lt; have eb := kb.cell; have gb := kb.froz; have lb := kb.lt)
       | ((with_reducible refine (kopen _ _ _ _ kw6 _).mono ?_); rintro e w6 ⟨rfl, hb⟩; replace hB := hB.trans (hb.mono (hB.size)); clear hb))
    | (go_at_call 9; (with_reducible refine (lnum _ _).mono ?_); rintro e w7 ⟨rfl, rfl⟩))
  go_ret
  exact ⟨rfl, hB⟩
end Go.Proofs.Ytnlmmpmpjcimcaa
