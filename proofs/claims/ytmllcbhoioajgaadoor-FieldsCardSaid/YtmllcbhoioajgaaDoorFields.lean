/- The walk of Fields: at every number, text and place it answers true. Condition: errors.errorType holds the handle of the type error. -/
import Derived.Test.YtmllcbhoioajgaaDoorFawake
namespace Go.Proofs.YtmllcbhoioajgaaDoor
open Go.RowKit

theorem Gr.step0 {w w1 w2 : World} (h : Gr w w1) (e : w1 = w2) : Gr w w2 := e ▸ h

set_option maxRecDepth 100000 in
set_option maxHeartbeats 4000000 in
theorem fields_walk (x : Int) (s : ByteArray) (a : Int) (w : World) (hx0 : -9223372036854775808 ≤ x) (hx1 : x ≤ 9223372036854775807) (hs : s.size ≤ 9223372036854770000) (ha0 : -9223372036854775808 ≤ a) (ha1 : a ≤ 9223372036854775807) (hg : Gd w) :
    Calls Tryd.prog 3 #[.int .i64 x, .string s, .int .i64 a] w fun e w' => e = .returned (.bool true) ∧ Gr w w' := by
  have hr := Gr.refl hg
  go_enter Tryd.func3, Tryd.ntmps3
  go_wp2_with (first
    | (go_at_call 8; (with_reducible refine (fnum _ _ hx0 hx1).mono ?_); rintro e w1 ⟨rfl, hb⟩; replace hr := hr.step hb; clear hb)
    | (go_at_call 9; (with_reducible refine (rnum _ _ hx0 hx1).mono ?_); rintro e w1 ⟨rfl, hb⟩; replace hr := hr.step hb; clear hb)
    | (go_at_call 11; (with_reducible refine (fget _ _ _ hs ha0 ha1 hr.good).mono ?_); rintro e w1 ⟨rfl, hb⟩; replace hr := hr.step hb; clear hb)
    | (go_at_call 12; (with_reducible refine (rget _ _ _ hs ha0 ha1).mono ?_); rintro e w1 ⟨rfl, he⟩; replace hr := hr.step0 he.symm; clear he)
    | (go_at_call 13; (with_reducible refine (ftext _ _ hs).mono ?_); rintro e w1 ⟨rfl, hb⟩; replace hr := hr.step hb; clear hb)
    | (go_at_call 14; (with_reducible refine (rtext _ _ hs).mono ?_); rintro e w1 ⟨rfl, hb⟩; replace hr := hr.step hb; clear hb)
    | (go_at_call 15; (with_reducible refine (fgett _ _ _ hs ha0 ha1 hr.good).mono ?_); rintro e w1 ⟨rfl, hb⟩; replace hr := hr.step hb; clear hb)
    | (go_at_call 16; (with_reducible refine (rgett _ _ _ hs ha0 ha1).mono ?_); rintro e w1 ⟨rfl, he⟩; replace hr := hr.step0 he; clear he)
    | (go_at_call 17; (with_reducible refine (awake _ hr.good).mono ?_); rintro e w1 ⟨rfl, hb⟩; replace hr := hr.step hb.below; clear hb)
    | (go_at_call 10; refine (lnum _ _).mono ?_; rintro e w1 ⟨rfl, rfl⟩))
  go_ret
  exact ⟨rfl, hr⟩
end Go.Proofs.YtmllcbhoioajgaaDoor
