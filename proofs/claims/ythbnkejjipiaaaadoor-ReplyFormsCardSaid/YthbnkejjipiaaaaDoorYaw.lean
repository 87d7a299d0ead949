/- The statements' samples over package reply. Condition: errors.errorType holds the handle of the type error. -/
import Derived.Test.YthbnkejjipiaaaaDoorYp8
import Derived.Test.YthbnkejjipiaaaaDoorRyget
import Derived.Test.YthbnkejjipiaaaaDoorYp5
import Derived.Test.YthbnkejjipiaaaaDoorGr
import Derived.Test.YthbnkejjipiaaaaDoorBlk
namespace Go.Proofs.YthbnkejjipiaaaaDoor
open Go Go.RowKit

theorem sv1 : Ry.putS ⟨1, 0, 0, 2, 15, 9, 0, 0, ⟨#[]⟩⟩ = ⟨#[1, 1, 1, 2, 1, 15, 1, 9]⟩ := by kernel_rfl
theorem sv2 : Ry.putE ⟨1, 0, 0, 2, 15, 9, 0, 0, ⟨#[]⟩⟩ = 0 := by kernel_rfl
theorem sv3 : Ry.getP ⟨#[1, 1, 1, 2, 1, 15, 1, 9]⟩ = ⟨1, 0, 0, 2, 15, 9, 0, 0, ⟨#[]⟩⟩ := by kernel_rfl
theorem sv4 : Ry.getE ⟨#[1, 1, 1, 2, 1, 15, 1, 9]⟩ = 0 := by kernel_rfl
theorem sv5 : Ry.getP ⟨#[3, 12]⟩ = Ry.zero := by kernel_rfl
theorem sv6 : Ry.getE ⟨#[3, 12]⟩ = 500 := by kernel_rfl
theorem sv7 : Ry.putS ⟨5, 0, 0, 0, 0, 0, 0, 1, ⟨#[]⟩⟩ = ⟨#[]⟩ := by kernel_rfl
theorem sv8 : Ry.putE ⟨5, 0, 0, 0, 0, 0, 0, 1, ⟨#[]⟩⟩ = 500 := by kernel_rfl
theorem sv9 : Ry.may ⟨1, 0, 0, 2, 15, 9, 0, 0, ⟨#[]⟩⟩ = true := by kernel_rfl
theorem sv10 : Ry.may ⟨1, 0, 0, 0, 16, 0, 0, 0, ⟨#[]⟩⟩ = false := by kernel_rfl
theorem sa1 (w : World) : Calls Tryd.prog 19 #[.agg #[.int .i64 1, .int .i64 0, .int .i64 0, .int .i64 2, .int .i64 15, .int .i64 9, .int .i64 0, .int .i64 0, .string ⟨#[]⟩]] w fun e w' => e = .returned (.tuple #[.string ⟨#[1, 1, 1, 2, 1, 15, 1, 9]⟩, .int .i64 0]) ∧ Below w.heap.size w w' := by
  have := ypput ⟨1, 0, 0, 2, 15, 9, 0, 0, ⟨#[]⟩⟩ w; rwa [sv1, sv2] at this
theorem sa2 (w : World) (hg : Gd w) : Calls Tryd.prog 21 #[.string ⟨#[1, 1, 1, 2, 1, 15, 1, 9]⟩] w fun e w' => e = .returned (.tuple #[.agg #[.int .i64 1, .int .i64 0, .int .i64 0, .int .i64 2, .int .i64 15, .int .i64 9, .int .i64 0, .int .i64 0, .string ⟨#[]⟩], .int .i64 0]) ∧ Below w.heap.size w w' := by
  have := ypget ⟨#[1, 1, 1, 2, 1, 15, 1, 9]⟩ w (by decide) hg; rwa [sv3, sv4] at this
theorem sa3 (w : World) (hg : Gd w) : Calls Tryd.prog 21 #[.string ⟨#[3, 12]⟩] w fun e w' => e = .returned (.tuple #[.agg #[.int .i64 0, .int .i64 0, .int .i64 0, .int .i64 0, .int .i64 0, .int .i64 0, .int .i64 0, .int .i64 0, .string ⟨#[]⟩], .int .i64 500]) ∧ Below w.heap.size w w' := by
  have := ypget ⟨#[3, 12]⟩ w (by decide) hg; rwa [sv5, sv6] at this
theorem sa4 (w : World) : Calls Tryd.prog 19 #[.agg #[.int .i64 5, .int .i64 0, .int .i64 0, .int .i64 0, .int .i64 0, .int .i64 0, .int .i64 0, .int .i64 1, .string ⟨#[]⟩]] w fun e w' => e = .returned (.tuple #[.string ⟨#[]⟩, .int .i64 500]) ∧ Below w.heap.size w w' := by
  have := ypput ⟨5, 0, 0, 0, 0, 0, 0, 1, ⟨#[]⟩⟩ w; rwa [sv7, sv8] at this
theorem sa5 (w : World) : Calls Tryd.prog 23 #[.agg #[.int .i64 1, .int .i64 0, .int .i64 0, .int .i64 2, .int .i64 15, .int .i64 9, .int .i64 0, .int .i64 0, .string ⟨#[]⟩]] w fun e w' => e = .returned (.bool true) ∧ Below w.heap.size w w' := by
  have := ypmay ⟨1, 0, 0, 2, 15, 9, 0, 0, ⟨#[]⟩⟩ w; rwa [sv9] at this
theorem sa6 (w : World) : Calls Tryd.prog 23 #[.agg #[.int .i64 1, .int .i64 0, .int .i64 0, .int .i64 0, .int .i64 16, .int .i64 0, .int .i64 0, .int .i64 0, .string ⟨#[]⟩]] w fun e w' => e = .returned (.bool false) ∧ Below w.heap.size w w' := by
  have := ypmay ⟨1, 0, 0, 0, 16, 0, 0, 0, ⟨#[]⟩⟩ w; rwa [sv10] at this

set_option maxRecDepth 100000 in
set_option maxHeartbeats 8000000 in
theorem awake5 (w : World) (hg : Gd w) : Calls Tryd.prog 25 #[] w fun e w' => e = .returned (.bool true) ∧ Below w.heap.size w w' := by
  have hr := Gr.refl hg
  clear hg
  go_enter Tryd.func25, Tryd.ntmps25
  go_wp2_with (first
    | (go_at_call 19; first | ((with_reducible refine (sa1 _).mono ?_); rintro e w1 ⟨rfl, hb⟩; replace hr := (hr.alloc _).step hb; have kp := (Blk.new _ _ _).step hb; have e1 := kp.cell; have g1 := kp.froz; have l1 := kp.lt; clear hb) | ((with_reducible refine (sa4 _).mono ?_); rintro e w1 ⟨rfl, hb⟩; replace hr := (hr.alloc _).step hb; replace kp := (kp.alloc _).step hb; replace kq := (kq.alloc _).step hb; have e1 := kp.cell; have g1 := kp.froz; have l1 := kp.lt; have e2 := kq.cell; have g2 := kq.froz; have l2 := kq.lt; clear hb))
    | (go_at_call 21; first | ((with_reducible refine (sa2 _ hr.good).mono ?_); rintro e w1 ⟨rfl, hb⟩; replace hr := hr.step hb; replace kp := kp.step hb; have e1 := kp.cell; have g1 := kp.froz; have l1 := kp.lt; clear hb) | ((with_reducible refine (sa3 _ (hr.alloc _).good).mono ?_); rintro e w1 ⟨rfl, hb⟩; replace hr := (hr.alloc _).step hb; replace kp := (kp.alloc _).step hb; have kq := (Blk.new _ _ _).step hb; have e1 := kp.cell; have g1 := kp.froz; have l1 := kp.lt; have e2 := kq.cell; have g2 := kq.froz; have l2 := kq.lt; clear hb))
    | (go_at_call 23; first | ((with_reducible refine (sa5 _).mono ?_); rintro e w1 ⟨rfl, hb⟩; replace hr := hr.step hb; clear hb) | ((with_reducible refine (sa6 _).mono ?_); rintro e w1 ⟨rfl, hb⟩; replace hr := hr.step hb; clear hb))
    | (go_at_call 15; (with_reducible refine (lnum _ _).mono ?_); rintro e w1 ⟨rfl, rfl⟩))
  go_ret
  exact ⟨rfl, hr.below⟩
end Go.Proofs.YthbnkejjipiaaaaDoor
