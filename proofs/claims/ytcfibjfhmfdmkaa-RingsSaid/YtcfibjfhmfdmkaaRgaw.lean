/- Chapter 14's 'awake' answers true. No condition. -/
import Derived.Test.YtcfibjfhmfdmkaaRgp
import Derived.Test.YtcfibjfhmfdmkaaTw14
namespace Go.Proofs.Ytcfibjfhmfdmkaa
open Go Go.RowKit Go.Maps

abbrev rgt3 : ByteArray := ⟨#[65, 101, 112, 111, 99, 104, 1, 3]⟩
abbrev rgt4 : ByteArray := ⟨#[65, 101, 112, 111, 99, 104, 1, 4]⟩
theorem rgw1 (p : Nat) : Does Try.prog (bookA p 9 []) 7 #[.pointer (some ⟨p, 0, none⟩), .int .i64 3] (.returned (.tuple #[.int .i64 0, .int .i64 0])) (bookA p 9 [rgt3]) :=
  (pgkey p 9 [] 3 (by decide) (by decide)).to (by kernel_rfl) (congrArg (bookA p 9) (by kernel_rfl))
theorem rgw2 (p : Nat) : Does Try.prog (bookA p 9 [rgt3]) 7 #[.pointer (some ⟨p, 0, none⟩), .int .i64 3] (.returned (.tuple #[.int .i64 0, .int .i64 0])) (bookA p 9 [rgt3]) :=
  (pgkey p 9 [rgt3] 3 (by decide) (by decide)).to (by kernel_rfl) (congrArg (bookA p 9) (by kernel_rfl))
theorem rgw3 (p : Nat) : Does Try.prog (bookA p 9 [rgt3]) 7 #[.pointer (some ⟨p, 0, none⟩), .int .i64 4] (.returned (.tuple #[.int .i64 1, .int .i64 0])) (bookA p 9 [rgt3, rgt4]) :=
  (pgkey p 9 [rgt3] 4 (by decide) (by decide)).to (by kernel_rfl) (congrArg (bookA p 9) (by kernel_rfl))
theorem rgw4 (p : Nat) : Does Try.prog (bookA p 9 [rgt3, rgt4]) 7 #[.pointer (some ⟨p, 0, none⟩), .int .i64 (-1)] (.returned (.tuple #[.int .i64 0, .int .i64 1400])) (bookA p 9 [rgt3, rgt4]) :=
  (pgkey p 9 [rgt3, rgt4] (-1) (by decide) (by decide)).to (by kernel_rfl) (congrArg (bookA p 9) (by kernel_rfl))
theorem rgv1 : true = rgL 3 5 2 := by decide
theorem rgv2 : false = rgL 2 5 2 := by decide
theorem rgv3 : false = rgL 6 5 2 := by decide

set_option maxRecDepth 100000 in
set_option maxHeartbeats 4000000 in
theorem awake14 (w : World) : Calls Try.prog 6 #[] w fun e w' => e = .returned (.bool true) ∧ Below w.heap.size w w' := by
  go_enter Try.func6, Try.ntmps6
  go_wp2_with (first
    | (go_at_call 5; (with_reducible refine (twin_none14 9 _ (by omega) (by omega)).mono ?_); rintro e w1 ⟨p, q, rfl, hb⟩; have hS := At.start hb; clear hb)
    | (go_at_call 7; first
        | ((with_reducible refine (At.op1 (rgw1 _) (refA_good _ _ _) emp_good hS).mono ?_); rintro e w1 ⟨rfl, hS1⟩; replace hS := hS1; clear hS1)
        | ((with_reducible refine (At.op1 (rgw2 _) (refA_good _ _ _) emp_good hS).mono ?_); rintro e w1 ⟨rfl, hS1⟩; replace hS := hS1; clear hS1)
        | ((with_reducible refine (At.op1 (rgw3 _) (refA_good _ _ _) emp_good hS).mono ?_); rintro e w1 ⟨rfl, hS1⟩; replace hS := hS1; clear hS1)
        | ((with_reducible refine (At.op1 (rgw4 _) (refA_good _ _ _) emp_good hS).mono ?_); rintro e w1 ⟨rfl, hS1⟩; replace hS := hS1; clear hS1))
    | (go_at_call 10; first | ((with_reducible refine (pglive _ _ _ _ rgv1 _).mono ?_); rintro e w1 ⟨rfl, rfl⟩) | ((with_reducible refine (pglive _ _ _ _ rgv2 _).mono ?_); rintro e w1 ⟨rfl, rfl⟩) | ((with_reducible refine (pglive _ _ _ _ rgv3 _).mono ?_); rintro e w1 ⟨rfl, rfl⟩))
    | (go_at_call 9; refine (lnum _ _).mono ?_; rintro e w1 ⟨rfl, rfl⟩))
  go_ret
  exact ⟨rfl, hS.bel⟩
end Go.Proofs.Ytcfibjfhmfdmkaa
