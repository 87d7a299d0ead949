/- The statement's own samples (awake) hold: true. Condition: errors.errorType holds the handle of the type error. -/
import Derived.Test.YtmllcbhoioajgaaDoorFreftext
namespace Go.Proofs.YtmllcbhoioajgaaDoor
open Go.RowKit

theorem aw_s300 : numS 300 = ⟨#[2, 1, 44]⟩ := by kernel_rfl
theorem aw_e300 : numE 300 = 0 := by kernel_rfl
theorem aw_x1 : getX (⟨#[122, 2, 1, 44]⟩) 1 = 300 := by kernel_rfl
theorem aw_t1 : getTo (⟨#[122, 2, 1, 44]⟩) 1 = 4 := by kernel_rfl
theorem aw_e1 : getE (⟨#[122, 2, 1, 44]⟩) 1 = 0 := by kernel_rfl
theorem aw_e2 : getE (⟨#[2, 1]⟩) 0 = 101 := by kernel_rfl
theorem aw_x2 : getX (⟨#[2, 1]⟩) 0 = 0 := by kernel_rfl
theorem aw_t2 : getTo (⟨#[2, 1]⟩) 0 = 0 := by kernel_rfl
theorem aw_e3 : getE (⟨#[1, 0]⟩) 0 = 100 := by kernel_rfl
theorem aw_x3 : getX (⟨#[1, 0]⟩) 0 = 0 := by kernel_rfl
theorem aw_t3 : getTo (⟨#[1, 0]⟩) 0 = 0 := by kernel_rfl
theorem aw_ts : textS (⟨#[97, 98]⟩) = ⟨#[1, 2, 97, 98]⟩ := by kernel_rfl
theorem aw_te : textE (⟨#[97, 98]⟩) = 0 := by kernel_rfl
theorem aw_s4 : txtS (⟨#[1, 2, 97, 98, 99]⟩) 0 = ⟨#[97, 98]⟩ := by kernel_rfl
theorem aw_t4 : txtTo (⟨#[1, 2, 97, 98, 99]⟩) 0 = 4 := by kernel_rfl
theorem aw_e4 : txtE (⟨#[1, 2, 97, 98, 99]⟩) 0 = 0 := by kernel_rfl
theorem aw_s5 : numS (-1) = ⟨#[]⟩ := by kernel_rfl
theorem aw_e5 : numE (-1) = 100 := by kernel_rfl

/-- What a call leaves: the handle's variable as it was, and of old memory nothing turned. -/
structure Gr (w w' : World) : Prop where
  below : Below w.heap.size w w'
  good : Gd w'
theorem Gr.refl {w : World} (h : Gd w) : Gr w w := ⟨Below.refl _ _, h⟩
theorem Gr.step {w w1 w2 : World} (h : Gr w w1) (hb : Below w1.heap.size w1 w2) : Gr w w2 :=
  ⟨h.below.trans (hb.mono h.below.size), h.good.below hb h.good.pos⟩

theorem ca1 (w : World) : Calls Tryd.prog 8 #[.int .i64 300] w fun e w' => e = .returned (.tuple #[.string ⟨#[2, 1, 44]⟩, .int .i64 0]) ∧ Below w.heap.size w w' := by
  have := fnum 300 w (by omega) (by omega); rwa [aw_s300, aw_e300] at this
theorem ca2 (w : World) (hg : Gd w) : Calls Tryd.prog 11 #[.string (⟨#[122]⟩ ++ ⟨#[2, 1, 44]⟩), .int .i64 1] w fun e w' => e = .returned (.tuple #[.int .i64 300, .int .i64 4, .int .i64 0]) ∧ Below w.heap.size w w' := by
  rw [show ((⟨#[122]⟩ : ByteArray) ++ ⟨#[2, 1, 44]⟩) = ⟨#[122, 2, 1, 44]⟩ by kernel_rfl]
  have := fget ⟨#[122, 2, 1, 44]⟩ 1 w (by decide) (by omega) (by omega) hg; rwa [aw_x1, aw_t1, aw_e1] at this
theorem ca3 (w : World) (hg : Gd w) : Calls Tryd.prog 11 #[.string ⟨#[2, 1]⟩, .int .i64 0] w fun e w' => e = .returned (.tuple #[.int .i64 0, .int .i64 0, .int .i64 101]) ∧ Below w.heap.size w w' := by
  have := fget ⟨#[2, 1]⟩ 0 w (by decide) (by omega) (by omega) hg; rwa [aw_x2, aw_t2, aw_e2] at this
theorem ca4 (w : World) (hg : Gd w) : Calls Tryd.prog 11 #[.string ⟨#[1, 0]⟩, .int .i64 0] w fun e w' => e = .returned (.tuple #[.int .i64 0, .int .i64 0, .int .i64 100]) ∧ Below w.heap.size w w' := by
  have := fget ⟨#[1, 0]⟩ 0 w (by decide) (by omega) (by omega) hg; rwa [aw_x3, aw_t3, aw_e3] at this
theorem ca5 (w : World) : Calls Tryd.prog 13 #[.string ⟨#[97, 98]⟩] w fun e w' => e = .returned (.tuple #[.string ⟨#[1, 2, 97, 98]⟩, .int .i64 0]) ∧ Below w.heap.size w w' := by
  have := ftext ⟨#[97, 98]⟩ w (by decide); rwa [aw_ts, aw_te] at this
theorem ca6 (w : World) (hg : Gd w) : Calls Tryd.prog 15 #[.string ⟨#[1, 2, 97, 98, 99]⟩, .int .i64 0] w fun e w' => e = .returned (.tuple #[.string ⟨#[97, 98]⟩, .int .i64 4, .int .i64 0]) ∧ Below w.heap.size w w' := by
  have := fgett ⟨#[1, 2, 97, 98, 99]⟩ 0 w (by decide) (by omega) (by omega) hg; rwa [aw_s4, aw_t4, aw_e4] at this
theorem ca7 (w : World) : Calls Tryd.prog 8 #[.int .i64 (-1)] w fun e w' => e = .returned (.tuple #[.string ⟨#[]⟩, .int .i64 100]) ∧ Below w.heap.size w w' := by
  have := fnum (-1) w (by omega) (by omega); rwa [aw_s5, aw_e5] at this

theorem lnum (n : Int) (w : World) : Calls Tryd.prog 10 #[.int .i64 n] w fun e w' => e = .returned (.int .i64 n) ∧ w = w' := by
  go_enter Tryd.func10, Tryd.ntmps10
  go_wp2
  go_ret
  exact ⟨rfl, rfl⟩

set_option maxRecDepth 100000 in
set_option maxHeartbeats 4000000 in
theorem awake (w : World) (hg : Gd w) : Calls Tryd.prog 17 #[] w fun e w' => e = .returned (.bool true) ∧ Gr w w' := by
  have hr := Gr.refl hg
  go_enter Tryd.func17, Tryd.ntmps17
  go_wp2_with (first
    | (go_at_call 8; first | ((with_reducible refine (ca1 _).mono ?_); rintro e w1 ⟨rfl, hb⟩; replace hr := hr.step hb; clear hb) | ((with_reducible refine (ca7 _).mono ?_); rintro e w1 ⟨rfl, hb⟩; replace hr := hr.step hb; clear hb))
    | (go_at_call 11; first | ((with_reducible refine (ca2 _ hr.good).mono ?_); rintro e w1 ⟨rfl, hb⟩; replace hr := hr.step hb; clear hb) | ((with_reducible refine (ca3 _ hr.good).mono ?_); rintro e w1 ⟨rfl, hb⟩; replace hr := hr.step hb; clear hb) | ((with_reducible refine (ca4 _ hr.good).mono ?_); rintro e w1 ⟨rfl, hb⟩; replace hr := hr.step hb; clear hb))
    | (go_at_call 13; (with_reducible refine (ca5 _).mono ?_); rintro e w1 ⟨rfl, hb⟩; replace hr := hr.step hb; clear hb)
    | (go_at_call 15; (with_reducible refine (ca6 _ hr.good).mono ?_); rintro e w1 ⟨rfl, hb⟩; replace hr := hr.step hb; clear hb)
    | (go_at_call 10; refine (lnum _ _).mono ?_; rintro e w1 ⟨rfl, rfl⟩))
  go_ret
  exact ⟨rfl, hr⟩
end Go.Proofs.YtmllcbhoioajgaaDoor
