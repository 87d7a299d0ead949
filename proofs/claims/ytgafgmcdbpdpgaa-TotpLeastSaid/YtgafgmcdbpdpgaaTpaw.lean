/- Chapter 12's 'awake' answers true. No condition. -/
import Derived.Test.YtgafgmcdbpdpgaaTpq
import Derived.Test.YtgafgmcdbpdpgaaTw12
namespace Go.Proofs.Ytgafgmcdbpdpgaa
open Go Go.RowKit Go.Maps

abbrev tpt : ByteArray := ⟨#[77, 1, 5, 99, 111, 100, 101, 1, 3]⟩
theorem tpw1 (p : Nat) : Does Try.prog (bookA p 9 []) 9 #[.pointer (some ⟨p, 0, none⟩), .int .i64 5, .int .i64 3] (.returned (.tuple #[.int .i64 0, .int .i64 0])) (bookA p 9 [⟨#[77, 1, 5, 99, 111, 100, 101, 1, 3]⟩]) :=
  (ptcode p 9 [] 5 3 (by decide) (by decide)).to (by kernel_rfl) (congrArg (bookA p 9) (by kernel_rfl))
theorem tpw2 (p : Nat) : Does Try.prog (bookA p 9 [⟨#[77, 1, 5, 99, 111, 100, 101, 1, 3]⟩]) 9 #[.pointer (some ⟨p, 0, none⟩), .int .i64 5, .int .i64 0] (.returned (.tuple #[.int .i64 0, .int .i64 1200])) (bookA p 9 [⟨#[77, 1, 5, 99, 111, 100, 101, 1, 3]⟩]) :=
  (ptcode p 9 [tpt] 5 0 (by decide) (by decide)).to (by kernel_rfl) (congrArg (bookA p 9) (by kernel_rfl))
theorem tpw3 (p : Nat) : Does Try.prog (bookA p 9 [⟨#[77, 1, 5, 99, 111, 100, 101, 1, 3]⟩]) 11 #[.pointer (some ⟨p, 0, none⟩), .int .i64 5, .int .i64 0, .int .i64 30, .int .i64 0] (.returned (.tuple #[.int .i64 3, .bool true])) (bookA p 9 [⟨#[77, 1, 5, 99, 111, 100, 101, 1, 3]⟩]) :=
  (ptaccept p 9 [tpt] 5 0 30 0 (by decide) (by decide)).to (by kernel_rfl) rfl
theorem tpw4 (p : Nat) : Does Try.prog (bookA p 9 [⟨#[77, 1, 5, 99, 111, 100, 101, 1, 3]⟩]) 11 #[.pointer (some ⟨p, 0, none⟩), .int .i64 5, .int .i64 3, .int .i64 30, .int .i64 0] (.returned (.tuple #[.int .i64 0, .bool false])) (bookA p 9 [⟨#[77, 1, 5, 99, 111, 100, 101, 1, 3]⟩]) :=
  (ptaccept p 9 [tpt] 5 3 30 0 (by decide) (by decide)).to (by kernel_rfl) rfl
theorem tpw5 (p : Nat) : Does Try.prog (bookA p 9 [⟨#[77, 1, 5, 99, 111, 100, 101, 1, 3]⟩]) 11 #[.pointer (some ⟨p, 0, none⟩), .int .i64 5, .int .i64 0, .int .i64 120, .int .i64 0] (.returned (.tuple #[.int .i64 0, .bool false])) (bookA p 9 [⟨#[77, 1, 5, 99, 111, 100, 101, 1, 3]⟩]) :=
  (ptaccept p 9 [tpt] 5 0 120 0 (by decide) (by decide)).to (by kernel_rfl) rfl
theorem tpw6 (p : Nat) : Does Try.prog (bookA p 9 [⟨#[77, 1, 5, 99, 111, 100, 101, 1, 3]⟩]) 11 #[.pointer (some ⟨p, 0, none⟩), .int .i64 6, .int .i64 0, .int .i64 60, .int .i64 0] (.returned (.tuple #[.int .i64 0, .bool false])) (bookA p 9 [⟨#[77, 1, 5, 99, 111, 100, 101, 1, 3]⟩]) :=
  (ptaccept p 9 [tpt] 6 0 60 0 (by decide) (by decide)).to (by kernel_rfl) rfl
theorem tpw7 (p : Nat) : Does Try.prog (bookA p 9 [⟨#[77, 1, 5, 99, 111, 100, 101, 1, 3]⟩]) 17 #[.pointer (some ⟨p, 0, none⟩)] (.returned (.int .i64 1)) (bookA p 9 [⟨#[77, 1, 5, 99, 111, 100, 101, 1, 3]⟩]) :=
  (dlen p 9 [tpt]).to rfl rfl
theorem ptst (t d : Int) (h : stX t = d) (w : World) : Calls Try.prog 14 #[.int .i64 t] w fun e w' => e = .returned (.int .i64 d) ∧ w = w' := by
  subst h; exact ptstep t w
theorem tpst1 : stX 0 = 1 := by decide
theorem tpst2 : stX 59 = 2 := by decide
theorem tpst3 : stX (-1) = 0 := by decide

set_option maxRecDepth 100000 in
set_option maxHeartbeats 4000000 in
theorem awake12 (w : World) : Calls Try.prog 8 #[] w fun e w' => e = .returned (.bool true) ∧ Below w.heap.size w w' := by
  go_enter Try.func8, Try.ntmps8
  go_wp2_with (first
    | (go_at_call 7; (with_reducible refine (twin_none12 9 _ (by omega) (by omega)).mono ?_); rintro e w1 ⟨p, q, rfl, hb⟩; have hS := At.start hb; clear hb)
    | (go_at_call 9; first | ((with_reducible refine (At.op1 (tpw1 _) (refA_good _ _ _) emp_good hS).mono ?_); rintro e w1 ⟨rfl, hS1⟩; replace hS := hS1; clear hS1) | ((with_reducible refine (At.op1 (tpw2 _) (refA_good _ _ _) emp_good hS).mono ?_); rintro e w1 ⟨rfl, hS1⟩; replace hS := hS1; clear hS1))
    | (go_at_call 11; first
        | ((with_reducible refine (At.op1 (tpw3 _) (refA_good _ _ _) emp_good hS).mono ?_); rintro e w1 ⟨rfl, hS1⟩; replace hS := hS1; clear hS1)
        | ((with_reducible refine (At.op1 (tpw4 _) (refA_good _ _ _) emp_good hS).mono ?_); rintro e w1 ⟨rfl, hS1⟩; replace hS := hS1; clear hS1)
        | ((with_reducible refine (At.op1 (tpw5 _) (refA_good _ _ _) emp_good hS).mono ?_); rintro e w1 ⟨rfl, hS1⟩; replace hS := hS1; clear hS1)
        | ((with_reducible refine (At.op1 (tpw6 _) (refA_good _ _ _) emp_good hS).mono ?_); rintro e w1 ⟨rfl, hS1⟩; replace hS := hS1; clear hS1))
    | (go_at_call 14; first | ((with_reducible refine (ptst _ _ tpst1 _).mono ?_); rintro e w1 ⟨rfl, rfl⟩) | ((with_reducible refine (ptst _ _ tpst2 _).mono ?_); rintro e w1 ⟨rfl, rfl⟩) | ((with_reducible refine (ptst _ _ tpst3 _).mono ?_); rintro e w1 ⟨rfl, rfl⟩))
    | (go_at_call 17; ((with_reducible refine (At.op1 (tpw7 _) (refA_good _ _ _) emp_good hS).mono ?_); rintro e w1 ⟨rfl, hS1⟩; replace hS := hS1; clear hS1))
    | (go_at_call 13; refine (lnum _ _).mono ?_; rintro e w1 ⟨rfl, rfl⟩))
  go_ret
  exact ⟨rfl, hS.bel⟩
end Go.Proofs.Ytgafgmcdbpdpgaa
