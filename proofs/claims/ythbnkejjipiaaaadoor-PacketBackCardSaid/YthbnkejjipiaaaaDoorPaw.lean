/- The statements' samples over package packet. Condition: errors.errorType holds the handle of the type error. -/
import Derived.Test.YthbnkejjipiaaaaDoorPp8
import Derived.Test.YthbnkejjipiaaaaDoorRpget
import Derived.Test.YthbnkejjipiaaaaDoorPp5
import Derived.Test.YthbnkejjipiaaaaDoorGr
import Derived.Test.YthbnkejjipiaaaaDoorBlk
namespace Go.Proofs.YthbnkejjipiaaaaDoor
open Go Go.RowKit

theorem sv1 : Pk.putS ⟨3, 0, 0, 0, 7, 0, 1, 300, ⟨#[104, 105]⟩⟩ = ⟨#[1, 3, 1, 1, 2, 1, 44, 1, 7, 1, 2, 104, 105]⟩ := by kernel_rfl
theorem sv2 : Pk.putE ⟨3, 0, 0, 0, 7, 0, 1, 300, ⟨#[104, 105]⟩⟩ = 0 := by kernel_rfl
theorem sv3 : Pk.getP ⟨#[1, 3, 1, 1, 2, 1, 44, 1, 7, 1, 2, 104, 105]⟩ = ⟨3, 0, 0, 0, 7, 0, 1, 300, ⟨#[104, 105]⟩⟩ := by kernel_rfl
theorem sv4 : Pk.getE ⟨#[1, 3, 1, 1, 2, 1, 44, 1, 7, 1, 2, 104, 105]⟩ = 0 := by kernel_rfl
theorem sv5 : Pk.getP ⟨#[5]⟩ = Pk.zero := by kernel_rfl
theorem sv6 : Pk.getE ⟨#[5]⟩ = 400 := by kernel_rfl
theorem sv7 : Pk.putS ⟨4, 0, 1, 0, 0, 0, 0, 0, ⟨#[]⟩⟩ = ⟨#[]⟩ := by kernel_rfl
theorem sv8 : Pk.putE ⟨4, 0, 1, 0, 0, 0, 0, 0, ⟨#[]⟩⟩ = 400 := by kernel_rfl
theorem sv9 : Pk.may ⟨3, 0, 0, 0, 7, 0, 1, 300, ⟨#[104, 105]⟩⟩ = true := by kernel_rfl
theorem sv10 : Pk.may ⟨5, 0, 0, 0, 0, 0, 0, 0, ⟨#[]⟩⟩ = false := by kernel_rfl
theorem sa1 (w : World) : Calls Tryd.prog 11 #[.agg #[.int .i64 3, .int .i64 0, .int .i64 0, .int .i64 0, .int .i64 7, .int .i64 0, .int .i64 1, .int .i64 300, .string ⟨#[104, 105]⟩]] w fun e w' => e = .returned (.tuple #[.string ⟨#[1, 3, 1, 1, 2, 1, 44, 1, 7, 1, 2, 104, 105]⟩, .int .i64 0]) ∧ Below w.heap.size w w' := by
  have := ppput ⟨3, 0, 0, 0, 7, 0, 1, 300, ⟨#[104, 105]⟩⟩ w; rwa [sv1, sv2] at this
theorem sa2 (w : World) (hg : Gd w) : Calls Tryd.prog 13 #[.string ⟨#[1, 3, 1, 1, 2, 1, 44, 1, 7, 1, 2, 104, 105]⟩] w fun e w' => e = .returned (.tuple #[.agg #[.int .i64 3, .int .i64 0, .int .i64 0, .int .i64 0, .int .i64 7, .int .i64 0, .int .i64 1, .int .i64 300, .string ⟨#[104, 105]⟩], .int .i64 0]) ∧ Below w.heap.size w w' := by
  have := ppget ⟨#[1, 3, 1, 1, 2, 1, 44, 1, 7, 1, 2, 104, 105]⟩ w (by decide) hg; rwa [sv3, sv4] at this
theorem sa3 (w : World) (hg : Gd w) : Calls Tryd.prog 13 #[.string ⟨#[5]⟩] w fun e w' => e = .returned (.tuple #[.agg #[.int .i64 0, .int .i64 0, .int .i64 0, .int .i64 0, .int .i64 0, .int .i64 0, .int .i64 0, .int .i64 0, .string ⟨#[]⟩], .int .i64 400]) ∧ Below w.heap.size w w' := by
  have := ppget ⟨#[5]⟩ w (by decide) hg; rwa [sv5, sv6] at this
theorem sa4 (w : World) : Calls Tryd.prog 11 #[.agg #[.int .i64 4, .int .i64 0, .int .i64 1, .int .i64 0, .int .i64 0, .int .i64 0, .int .i64 0, .int .i64 0, .string ⟨#[]⟩]] w fun e w' => e = .returned (.tuple #[.string ⟨#[]⟩, .int .i64 400]) ∧ Below w.heap.size w w' := by
  have := ppput ⟨4, 0, 1, 0, 0, 0, 0, 0, ⟨#[]⟩⟩ w; rwa [sv7, sv8] at this
theorem sa5 (w : World) : Calls Tryd.prog 16 #[.agg #[.int .i64 3, .int .i64 0, .int .i64 0, .int .i64 0, .int .i64 7, .int .i64 0, .int .i64 1, .int .i64 300, .string ⟨#[104, 105]⟩]] w fun e w' => e = .returned (.bool true) ∧ Below w.heap.size w w' := by
  have := ppmay ⟨3, 0, 0, 0, 7, 0, 1, 300, ⟨#[104, 105]⟩⟩ w; rwa [sv9] at this
theorem sa6 (w : World) : Calls Tryd.prog 16 #[.agg #[.int .i64 5, .int .i64 0, .int .i64 0, .int .i64 0, .int .i64 0, .int .i64 0, .int .i64 0, .int .i64 0, .string ⟨#[]⟩]] w fun e w' => e = .returned (.bool false) ∧ Below w.heap.size w w' := by
  have := ppmay ⟨5, 0, 0, 0, 0, 0, 0, 0, ⟨#[]⟩⟩ w; rwa [sv10] at this

set_option maxRecDepth 100000 in
set_option maxHeartbeats 8000000 in
theorem awake4 (w : World) (hg : Gd w) : Calls Tryd.prog 18 #[] w fun e w' => e = .returned (.bool true) ∧ Below w.heap.size w w' := by
  have hr := Gr.refl hg
  clear hg
  go_enter Tryd.func18, Tryd.ntmps18
  go_wp2_with (first
    | (go_at_call 11; first | ((with_reducible refine (sa1 _).mono ?_); rintro e w1 ⟨rfl, hb⟩; replace hr := (hr.alloc _).step hb; have kp := (Blk.new _ _ _).step hb; have e1 := kp.cell; have g1 := kp.froz; have l1 := kp.lt; clear hb) | ((with_reducible refine (sa4 _).mono ?_); rintro e w1 ⟨rfl, hb⟩; replace hr := (hr.alloc _).step hb; replace kp := (kp.alloc _).step hb; replace kq := (kq.alloc _).step hb; have e1 := kp.cell; have g1 := kp.froz; have l1 := kp.lt; have e2 := kq.cell; have g2 := kq.froz; have l2 := kq.lt; clear hb))
    | (go_at_call 13; first | ((with_reducible refine (sa2 _ hr.good).mono ?_); rintro e w1 ⟨rfl, hb⟩; replace hr := hr.step hb; replace kp := kp.step hb; have e1 := kp.cell; have g1 := kp.froz; have l1 := kp.lt; clear hb) | ((with_reducible refine (sa3 _ (hr.alloc _).good).mono ?_); rintro e w1 ⟨rfl, hb⟩; replace hr := (hr.alloc _).step hb; replace kp := (kp.alloc _).step hb; have kq := (Blk.new _ _ _).step hb; have e1 := kp.cell; have g1 := kp.froz; have l1 := kp.lt; have e2 := kq.cell; have g2 := kq.froz; have l2 := kq.lt; clear hb))
    | (go_at_call 16; first | ((with_reducible refine (sa5 _).mono ?_); rintro e w1 ⟨rfl, hb⟩; replace hr := hr.step hb; clear hb) | ((with_reducible refine (sa6 _).mono ?_); rintro e w1 ⟨rfl, hb⟩; replace hr := hr.step hb; clear hb))
    | (go_at_call 15; (with_reducible refine (lnum _ _).mono ?_); rintro e w1 ⟨rfl, rfl⟩))
  go_ret
  exact ⟨rfl, hr.below⟩
end Go.Proofs.YthbnkejjipiaaaaDoor
