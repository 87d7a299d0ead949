/- The statements' samples over package event. Condition: errors.errorType holds the handle of the type error. -/
import Derived.Test.YtodngcpphnmphaaDoorEp8
import Derived.Test.YtodngcpphnmphaaDoorReget
import Derived.Test.YtodngcpphnmphaaDoorEp5
import Derived.Test.YtodngcpphnmphaaDoorGr
import Derived.Test.YtodngcpphnmphaaDoorBlk
namespace Go.Proofs.YtodngcpphnmphaaDoor
open Go Go.RowKit

theorem sv1 : Ev.putS ⟨5, 2, 1, 3, 0, 0, 0, 4⟩ = ⟨#[1, 5, 1, 1, 1, 2, 1, 3, 1, 4]⟩ := by kernel_rfl
theorem sv2 : Ev.putE ⟨5, 2, 1, 3, 0, 0, 0, 4⟩ = 0 := by kernel_rfl
theorem sv3 : Ev.getP ⟨#[1, 5, 1, 1, 1, 2, 1, 3, 1, 4]⟩ = ⟨5, 2, 1, 3, 0, 0, 0, 4⟩ := by kernel_rfl
theorem sv4 : Ev.getE ⟨#[1, 5, 1, 1, 1, 2, 1, 3, 1, 4]⟩ = 0 := by kernel_rfl
theorem sv5 : Ev.getP ⟨#[6, 1, 2, 5, 0]⟩ = Ev.zero := by kernel_rfl
theorem sv6 : Ev.getE ⟨#[6, 1, 2, 5, 0]⟩ = 700 := by kernel_rfl
theorem sv7 : Ev.putS ⟨8, 0, 0, 0, 1, 0, 0, 0⟩ = ⟨#[]⟩ := by kernel_rfl
theorem sv8 : Ev.putE ⟨8, 0, 0, 0, 1, 0, 0, 0⟩ = 700 := by kernel_rfl
theorem sv9 : Ev.may ⟨5, 2, 1, 3, 0, 0, 0, 4⟩ = true := by kernel_rfl
theorem sv10 : Ev.may ⟨10, 0, 0, 0, 0, 0, 0, 0⟩ = false := by kernel_rfl
theorem sa1 (w : World) : Calls Tryd.prog 7 #[.agg #[.int .i64 5, .int .i64 2, .int .i64 1, .int .i64 3, .int .i64 0, .int .i64 0, .int .i64 0, .int .i64 4]] w fun e w' => e = .returned (.tuple #[.string ⟨#[1, 5, 1, 1, 1, 2, 1, 3, 1, 4]⟩, .int .i64 0]) ∧ Below w.heap.size w w' := by
  have := epput ⟨5, 2, 1, 3, 0, 0, 0, 4⟩ w; rwa [sv1, sv2] at this
theorem sa2 (w : World) (hg : Gd w) : Calls Tryd.prog 9 #[.string ⟨#[1, 5, 1, 1, 1, 2, 1, 3, 1, 4]⟩] w fun e w' => e = .returned (.tuple #[.agg #[.int .i64 5, .int .i64 2, .int .i64 1, .int .i64 3, .int .i64 0, .int .i64 0, .int .i64 0, .int .i64 4], .int .i64 0]) ∧ Below w.heap.size w w' := by
  have := epget ⟨#[1, 5, 1, 1, 1, 2, 1, 3, 1, 4]⟩ w (by decide) hg; rwa [sv3, sv4] at this
theorem sa3 (w : World) (hg : Gd w) : Calls Tryd.prog 9 #[.string ⟨#[6, 1, 2, 5, 0]⟩] w fun e w' => e = .returned (.tuple #[.agg #[.int .i64 0, .int .i64 0, .int .i64 0, .int .i64 0, .int .i64 0, .int .i64 0, .int .i64 0, .int .i64 0], .int .i64 700]) ∧ Below w.heap.size w w' := by
  have := epget ⟨#[6, 1, 2, 5, 0]⟩ w (by decide) hg; rwa [sv5, sv6] at this
theorem sa4 (w : World) : Calls Tryd.prog 7 #[.agg #[.int .i64 8, .int .i64 0, .int .i64 0, .int .i64 0, .int .i64 1, .int .i64 0, .int .i64 0, .int .i64 0]] w fun e w' => e = .returned (.tuple #[.string ⟨#[]⟩, .int .i64 700]) ∧ Below w.heap.size w w' := by
  have := epput ⟨8, 0, 0, 0, 1, 0, 0, 0⟩ w; rwa [sv7, sv8] at this
theorem sa5 (w : World) : Calls Tryd.prog 12 #[.agg #[.int .i64 5, .int .i64 2, .int .i64 1, .int .i64 3, .int .i64 0, .int .i64 0, .int .i64 0, .int .i64 4]] w fun e w' => e = .returned (.bool true) ∧ Below w.heap.size w w' := by
  have := epmay ⟨5, 2, 1, 3, 0, 0, 0, 4⟩ w; rwa [sv9] at this
theorem sa6 (w : World) : Calls Tryd.prog 12 #[.agg #[.int .i64 10, .int .i64 0, .int .i64 0, .int .i64 0, .int .i64 0, .int .i64 0, .int .i64 0, .int .i64 0]] w fun e w' => e = .returned (.bool false) ∧ Below w.heap.size w w' := by
  have := epmay ⟨10, 0, 0, 0, 0, 0, 0, 0⟩ w; rwa [sv10] at this

set_option maxRecDepth 100000 in
set_option maxHeartbeats 8000000 in
theorem awake7 (w : World) (hg : Gd w) : Calls Tryd.prog 14 #[] w fun e w' => e = .returned (.bool true) ∧ Below w.heap.size w w' := by
  have hr := Gr.refl hg
  clear hg
  go_enter Tryd.func14, Tryd.ntmps14
  go_wp2_with (first
    | (go_at_call 7; first | ((with_reducible refine (sa1 _).mono ?_); rintro e w1 ⟨rfl, hb⟩; replace hr := (hr.alloc _).step hb; have kp := (Blk.new _ _ _).step hb; have e1 := kp.cell; have g1 := kp.froz; have l1 := kp.lt; clear hb) | ((with_reducible refine (sa4 _).mono ?_); rintro e w1 ⟨rfl, hb⟩; replace hr := (hr.alloc _).step hb; replace kp := (kp.alloc _).step hb; replace kq := (kq.alloc _).step hb; have e1 := kp.cell; have g1 := kp.froz; have l1 := kp.lt; have e2 := kq.cell; have g2 := kq.froz; have l2 := kq.lt; clear hb))
    | (go_at_call 9; first | ((with_reducible refine (sa2 _ hr.good).mono ?_); rintro e w1 ⟨rfl, hb⟩; replace hr := hr.step hb; replace kp := kp.step hb; have e1 := kp.cell; have g1 := kp.froz; have l1 := kp.lt; clear hb) | ((with_reducible refine (sa3 _ (hr.alloc _).good).mono ?_); rintro e w1 ⟨rfl, hb⟩; replace hr := (hr.alloc _).step hb; replace kp := (kp.alloc _).step hb; have kq := (Blk.new _ _ _).step hb; have e1 := kp.cell; have g1 := kp.froz; have l1 := kp.lt; have e2 := kq.cell; have g2 := kq.froz; have l2 := kq.lt; clear hb))
    | (go_at_call 12; first | ((with_reducible refine (sa5 _).mono ?_); rintro e w1 ⟨rfl, hb⟩; replace hr := hr.step hb; clear hb) | ((with_reducible refine (sa6 _).mono ?_); rintro e w1 ⟨rfl, hb⟩; replace hr := hr.step hb; clear hb))
    | (go_at_call 11; (with_reducible refine (lnum _ _).mono ?_); rintro e w1 ⟨rfl, rfl⟩))
  go_ret
  exact ⟨rfl, hr.below⟩
end Go.Proofs.YtodngcpphnmphaaDoor
