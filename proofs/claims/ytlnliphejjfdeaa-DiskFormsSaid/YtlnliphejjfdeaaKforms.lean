/- The walk of DiskForms: sizes, sectors, bytes, numbers that are none; a disk that is down. No condition. -/
import Derived.Test.YtlnliphejjfdeaaKaw
import Derived.IntWalk
import Derived.Laws.BitsLemmas
namespace Go.Proofs.Ytlnliphejjfdeaa
open Go Go.RowKit

set_option maxRecDepth 100000 in
set_option maxHeartbeats 8000000 in
theorem kforms0 (K0 K1 K2 K3 K4 : Dk) (tKept tNil : ByteArray) (n x : Int) (m : Nat) (m1 : m ≤ 1023) (hm : bits .and .i64 x 1023 = (m : Int)) (hj : (IntKind.u64.wrap n).tmod 9 = 0)
    (h_lk : ∀ w : World, Calls Try.prog 11 #[.string ⟨#[107, 101, 112, 116]⟩] w fun e w' => e = .returned (.string tKept) ∧ Below w.heap.size w w')
    (h_ln : ∀ w : World, Calls Try.prog 11 #[.string ⟨#[]⟩] w fun e w' => e = .returned (.string tNil) ∧ Below w.heap.size w w')
    (h_n1 : ∀ w : World, Calls Try.prog 7 #[.int .i64 (1 - (1 + (m : Int)))] w fun e w' => e = .returned (.tuple #[.pointer none, .int .i64 800]) ∧ Below w.heap.size w w')
    (h_n2 : ∀ w : World, Calls Try.prog 7 #[.int .i64 (256 + (1 + (m : Int)))] w fun e w' => e = .returned (.tuple #[.pointer none, .int .i64 800]) ∧ Below w.heap.size w w')
    (h_n3 : ∀ w : World, Calls Try.prog 7 #[.int .i64 3] w fun e w' => ∃ p : Nat, e = .returned (.tuple #[.pointer (some ⟨p, 0, none⟩), .int .i64 0]) ∧ Becomes [] (dpA p K0) w w')
    (h_a1 : ∀ p : Nat, Does Try.prog (dpA p K0) 12 #[.pointer (some ⟨p, 0, none⟩), .int .i64 1, .string tKept] (.returned (.int .i64 0)) (dpA p K1))
    (h_a2 : ∀ p : Nat, Does Try.prog (dpA p K1) 14 #[.pointer (some ⟨p, 0, none⟩)] (.returned (.int .i64 0)) (dpA p K2))
    (h_a3 : ∀ p : Nat, Does Try.prog (dpA p K2) 22 #[.pointer (some ⟨p, 0, none⟩), .int .i64 1] (.returned (.tuple #[.string tKept, .int .i64 0])) (dpA p K2))
    (h_a4 : ∀ p : Nat, Does Try.prog (dpA p K2) 16 #[.pointer (some ⟨p, 0, none⟩), .int .i64 0, .int .i64 0] (.returned (.int .i64 0)) (dpA p K3))
    (h_a5 : ∀ p : Nat, Does Try.prog (dpA p K3) 12 #[.pointer (some ⟨p, 0, none⟩), .int .i64 1, .string tNil] (.returned (.int .i64 801)) (dpA p K3))
    (h_a6 : ∀ p : Nat, Does Try.prog (dpA p K3) 14 #[.pointer (some ⟨p, 0, none⟩)] (.returned (.int .i64 801)) (dpA p K3))
    (h_a7 : ∀ p : Nat, Does Try.prog (dpA p K3) 16 #[.pointer (some ⟨p, 0, none⟩), .int .i64 0, .int .i64 0] (.returned (.int .i64 801)) (dpA p K3))
    (h_a8 : ∀ p : Nat, Does Try.prog (dpA p K3) 18 #[.pointer (some ⟨p, 0, none⟩)] (.returned (.int .i64 0)) (dpA p K4))
    (h_a9 : ∀ p : Nat, Does Try.prog (dpA p K4) 22 #[.pointer (some ⟨p, 0, none⟩), .int .i64 1] (.returned (.tuple #[.string tKept, .int .i64 0])) (dpA p K4))
    (h_b : ∀ p : Nat, Does Try.prog (dpA p K2) 12 #[.pointer (some ⟨p, 0, none⟩), .int .i64 (2 + (1 + (m : Int))), .string tNil] (.returned (.int .i64 800)) (dpA p K2)) (w : World) :
    Calls Try.prog 4 #[.int .i64 n, .int .i64 x] w fun e w' => e = .returned (.bool true) ∧ Below w.heap.size w w' := by
  have H_lk := Lib.hid h_lk
  have H_ln := Lib.hid h_ln
  have H_n1 := Lib.hid h_n1
  have H_n2 := Lib.hid h_n2
  have H_n3 := Lib.hid h_n3
  have H_a1 := Lib.hid h_a1
  have H_a2 := Lib.hid h_a2
  have H_a3 := Lib.hid h_a3
  have H_a4 := Lib.hid h_a4
  have H_a5 := Lib.hid h_a5
  have H_a6 := Lib.hid h_a6
  have H_a7 := Lib.hid h_a7
  have H_a8 := Lib.hid h_a8
  have H_a9 := Lib.hid h_a9
  have H_b := Lib.hid h_b
  clear h_lk h_ln h_n1 h_n2 h_n3 h_a1 h_a2 h_a3 h_a4 h_a5 h_a6 h_a7 h_a8 h_a9 h_b
  have hB := Below.refl w.heap.size w
  go_enter Try.func4, Try.ntmps4
  go_wp2_with (first
    | (go_at_call 10; (with_reducible refine (awake8 _).mono ?_); rintro e w1 ⟨rfl, hb⟩; first | replace hS := hS.lay ((dpA_good _ _).star emp_good) hb | replace hB := hB.trans (hb.mono hB.size))
    | (go_at_call 7; first | ((with_reducible refine (H_n1.out _).mono ?_); rintro e w1 ⟨rfl, hb⟩; first | replace hS := hS.lay ((dpA_good _ _).star emp_good) hb | replace hB := hB.trans (hb.mono hB.size)) | ((with_reducible refine (H_n2.out _).mono ?_); rintro e w1 ⟨rfl, hb⟩; first | replace hS := hS.lay ((dpA_good _ _).star emp_good) hb | replace hB := hB.trans (hb.mono hB.size)) | ((with_reducible refine (H_n3.out _).mono ?_); rintro e w1 ⟨p, rfl, hb⟩; have hS : At w ((dpA p K0).star emp) w1 := At.add emp_good (At.none hB) hb; clear hb))
    | (go_at_call 11; first | ((with_reducible refine (H_lk.out _).mono ?_); rintro e w1 ⟨rfl, hb⟩; first | replace hS := hS.lay ((dpA_good _ _).star emp_good) hb | replace hB := hB.trans (hb.mono hB.size)) | ((with_reducible refine (H_ln.out _).mono ?_); rintro e w1 ⟨rfl, hb⟩; first | replace hS := hS.lay ((dpA_good _ _).star emp_good) hb | replace hB := hB.trans (hb.mono hB.size)))
    | (go_at_call 12; first | ((with_reducible refine (At.op0 (H_b.out _) emp_good hS).mono ?_); rintro e w1 ⟨rfl, hS1⟩; replace hS := hS1; clear hS1) | ((with_reducible refine (At.op0 (H_a1.out _) emp_good hS).mono ?_); rintro e w1 ⟨rfl, hS1⟩; replace hS := hS1; clear hS1) | ((with_reducible refine (At.op0 (H_a5.out _) emp_good hS).mono ?_); rintro e w1 ⟨rfl, hS1⟩; replace hS := hS1; clear hS1))
    | (go_at_call 14; first | ((with_reducible refine (At.op0 (H_a2.out _) emp_good hS).mono ?_); rintro e w1 ⟨rfl, hS1⟩; replace hS := hS1; clear hS1) | ((with_reducible refine (At.op0 (H_a6.out _) emp_good hS).mono ?_); rintro e w1 ⟨rfl, hS1⟩; replace hS := hS1; clear hS1))
    | (go_at_call 22; first | ((with_reducible refine (At.op0 (H_a3.out _) emp_good hS).mono ?_); rintro e w1 ⟨rfl, hS1⟩; replace hS := hS1; clear hS1) | ((with_reducible refine (At.op0 (H_a9.out _) emp_good hS).mono ?_); rintro e w1 ⟨rfl, hS1⟩; replace hS := hS1; clear hS1))
    | (go_at_call 16; first | ((with_reducible refine (At.op0 (H_a4.out _) emp_good hS).mono ?_); rintro e w1 ⟨rfl, hS1⟩; replace hS := hS1; clear hS1) | ((with_reducible refine (At.op0 (H_a7.out _) emp_good hS).mono ?_); rintro e w1 ⟨rfl, hS1⟩; replace hS := hS1; clear hS1))
    | (go_at_call 18; first | ((with_reducible refine (At.op0 (H_a8.out _) emp_good hS).mono ?_); rintro e w1 ⟨rfl, hS1⟩; replace hS := hS1; clear hS1))
    | (go_at_call 9; (with_reducible refine (lnum _ _).mono ?_); rintro e w1 ⟨rfl, rfl⟩))
  go_ret
  exact ⟨rfl, hS.bel⟩
set_option maxRecDepth 100000 in
set_option maxHeartbeats 8000000 in
theorem kforms1 (K0 K1 K2 K3 K4 : Dk) (tKept tNil : ByteArray) (n x : Int) (m : Nat) (m1 : m ≤ 1023) (hm : bits .and .i64 x 1023 = (m : Int)) (hj : (IntKind.u64.wrap n).tmod 9 = 1)
    (h_lk : ∀ w : World, Calls Try.prog 11 #[.string ⟨#[107, 101, 112, 116]⟩] w fun e w' => e = .returned (.string tKept) ∧ Below w.heap.size w w')
    (h_ln : ∀ w : World, Calls Try.prog 11 #[.string ⟨#[]⟩] w fun e w' => e = .returned (.string tNil) ∧ Below w.heap.size w w')
    (h_n1 : ∀ w : World, Calls Try.prog 7 #[.int .i64 (1 - (1 + (m : Int)))] w fun e w' => e = .returned (.tuple #[.pointer none, .int .i64 800]) ∧ Below w.heap.size w w')
    (h_n2 : ∀ w : World, Calls Try.prog 7 #[.int .i64 (256 + (1 + (m : Int)))] w fun e w' => e = .returned (.tuple #[.pointer none, .int .i64 800]) ∧ Below w.heap.size w w')
    (h_n3 : ∀ w : World, Calls Try.prog 7 #[.int .i64 3] w fun e w' => ∃ p : Nat, e = .returned (.tuple #[.pointer (some ⟨p, 0, none⟩), .int .i64 0]) ∧ Becomes [] (dpA p K0) w w')
    (h_a1 : ∀ p : Nat, Does Try.prog (dpA p K0) 12 #[.pointer (some ⟨p, 0, none⟩), .int .i64 1, .string tKept] (.returned (.int .i64 0)) (dpA p K1))
    (h_a2 : ∀ p : Nat, Does Try.prog (dpA p K1) 14 #[.pointer (some ⟨p, 0, none⟩)] (.returned (.int .i64 0)) (dpA p K2))
    (h_a3 : ∀ p : Nat, Does Try.prog (dpA p K2) 22 #[.pointer (some ⟨p, 0, none⟩), .int .i64 1] (.returned (.tuple #[.string tKept, .int .i64 0])) (dpA p K2))
    (h_a4 : ∀ p : Nat, Does Try.prog (dpA p K2) 16 #[.pointer (some ⟨p, 0, none⟩), .int .i64 0, .int .i64 0] (.returned (.int .i64 0)) (dpA p K3))
    (h_a5 : ∀ p : Nat, Does Try.prog (dpA p K3) 12 #[.pointer (some ⟨p, 0, none⟩), .int .i64 1, .string tNil] (.returned (.int .i64 801)) (dpA p K3))
    (h_a6 : ∀ p : Nat, Does Try.prog (dpA p K3) 14 #[.pointer (some ⟨p, 0, none⟩)] (.returned (.int .i64 801)) (dpA p K3))
    (h_a7 : ∀ p : Nat, Does Try.prog (dpA p K3) 16 #[.pointer (some ⟨p, 0, none⟩), .int .i64 0, .int .i64 0] (.returned (.int .i64 801)) (dpA p K3))
    (h_a8 : ∀ p : Nat, Does Try.prog (dpA p K3) 18 #[.pointer (some ⟨p, 0, none⟩)] (.returned (.int .i64 0)) (dpA p K4))
    (h_a9 : ∀ p : Nat, Does Try.prog (dpA p K4) 22 #[.pointer (some ⟨p, 0, none⟩), .int .i64 1] (.returned (.tuple #[.string tKept, .int .i64 0])) (dpA p K4))
    (h_b : ∀ p : Nat, Does Try.prog (dpA p K2) 12 #[.pointer (some ⟨p, 0, none⟩), .int .i64 (-(1 + (m : Int))), .string tNil] (.returned (.int .i64 800)) (dpA p K2)) (w : World) :
    Calls Try.prog 4 #[.int .i64 n, .int .i64 x] w fun e w' => e = .returned (.bool true) ∧ Below w.heap.size w w' := by
  have H_lk := Lib.hid h_lk
  have H_ln := Lib.hid h_ln
  have H_n1 := Lib.hid h_n1
  have H_n2 := Lib.hid h_n2
  have H_n3 := Lib.hid h_n3
  have H_a1 := Lib.hid h_a1
  have H_a2 := Lib.hid h_a2
  have H_a3 := Lib.hid h_a3
  have H_a4 := Lib.hid h_a4
  have H_a5 := Lib.hid h_a5
  have H_a6 := Lib.hid h_a6
  have H_a7 := Lib.hid h_a7
  have H_a8 := Lib.hid h_a8
  have H_a9 := Lib.hid h_a9
  have H_b := Lib.hid h_b
  clear h_lk h_ln h_n1 h_n2 h_n3 h_a1 h_a2 h_a3 h_a4 h_a5 h_a6 h_a7 h_a8 h_a9 h_b
  have hB := Below.refl w.heap.size w
  go_enter Try.func4, Try.ntmps4
  go_wp2_with (first
    | (go_at_call 10; (with_reducible refine (awake8 _).mono ?_); rintro e w1 ⟨rfl, hb⟩; first | replace hS := hS.lay ((dpA_good _ _).star emp_good) hb | replace hB := hB.trans (hb.mono hB.size))
    | (go_at_call 7; first | ((with_reducible refine (H_n1.out _).mono ?_); rintro e w1 ⟨rfl, hb⟩; first | replace hS := hS.lay ((dpA_good _ _).star emp_good) hb | replace hB := hB.trans (hb.mono hB.size)) | ((with_reducible refine (H_n2.out _).mono ?_); rintro e w1 ⟨rfl, hb⟩; first | replace hS := hS.lay ((dpA_good _ _).star emp_good) hb | replace hB := hB.trans (hb.mono hB.size)) | ((with_reducible refine (H_n3.out _).mono ?_); rintro e w1 ⟨p, rfl, hb⟩; have hS : At w ((dpA p K0).star emp) w1 := At.add emp_good (At.none hB) hb; clear hb))
    | (go_at_call 11; first | ((with_reducible refine (H_lk.out _).mono ?_); rintro e w1 ⟨rfl, hb⟩; first | replace hS := hS.lay ((dpA_good _ _).star emp_good) hb | replace hB := hB.trans (hb.mono hB.size)) | ((with_reducible refine (H_ln.out _).mono ?_); rintro e w1 ⟨rfl, hb⟩; first | replace hS := hS.lay ((dpA_good _ _).star emp_good) hb | replace hB := hB.trans (hb.mono hB.size)))
    | (go_at_call 12; first | ((with_reducible refine (At.op0 (H_b.out _) emp_good hS).mono ?_); rintro e w1 ⟨rfl, hS1⟩; replace hS := hS1; clear hS1) | ((with_reducible refine (At.op0 (H_a1.out _) emp_good hS).mono ?_); rintro e w1 ⟨rfl, hS1⟩; replace hS := hS1; clear hS1) | ((with_reducible refine (At.op0 (H_a5.out _) emp_good hS).mono ?_); rintro e w1 ⟨rfl, hS1⟩; replace hS := hS1; clear hS1))
    | (go_at_call 14; first | ((with_reducible refine (At.op0 (H_a2.out _) emp_good hS).mono ?_); rintro e w1 ⟨rfl, hS1⟩; replace hS := hS1; clear hS1) | ((with_reducible refine (At.op0 (H_a6.out _) emp_good hS).mono ?_); rintro e w1 ⟨rfl, hS1⟩; replace hS := hS1; clear hS1))
    | (go_at_call 22; first | ((with_reducible refine (At.op0 (H_a3.out _) emp_good hS).mono ?_); rintro e w1 ⟨rfl, hS1⟩; replace hS := hS1; clear hS1) | ((with_reducible refine (At.op0 (H_a9.out _) emp_good hS).mono ?_); rintro e w1 ⟨rfl, hS1⟩; replace hS := hS1; clear hS1))
    | (go_at_call 16; first | ((with_reducible refine (At.op0 (H_a4.out _) emp_good hS).mono ?_); rintro e w1 ⟨rfl, hS1⟩; replace hS := hS1; clear hS1) | ((with_reducible refine (At.op0 (H_a7.out _) emp_good hS).mono ?_); rintro e w1 ⟨rfl, hS1⟩; replace hS := hS1; clear hS1))
    | (go_at_call 18; first | ((with_reducible refine (At.op0 (H_a8.out _) emp_good hS).mono ?_); rintro e w1 ⟨rfl, hS1⟩; replace hS := hS1; clear hS1))
    | (go_at_call 9; (with_reducible refine (lnum _ _).mono ?_); rintro e w1 ⟨rfl, rfl⟩))
  go_ret
  exact ⟨rfl, hS.bel⟩
set_option maxRecDepth 100000 in
set_option maxHeartbeats 8000000 in
theorem kforms2 (K0 K1 K2 K3 K4 : Dk) (tKept tNil : ByteArray) (n x : Int) (m : Nat) (m1 : m ≤ 1023) (hm : bits .and .i64 x 1023 = (m : Int)) (hj : (IntKind.u64.wrap n).tmod 9 = 2)
    (h_lk : ∀ w : World, Calls Try.prog 11 #[.string ⟨#[107, 101, 112, 116]⟩] w fun e w' => e = .returned (.string tKept) ∧ Below w.heap.size w w')
    (h_ln : ∀ w : World, Calls Try.prog 11 #[.string ⟨#[]⟩] w fun e w' => e = .returned (.string tNil) ∧ Below w.heap.size w w')
    (h_n1 : ∀ w : World, Calls Try.prog 7 #[.int .i64 (1 - (1 + (m : Int)))] w fun e w' => e = .returned (.tuple #[.pointer none, .int .i64 800]) ∧ Below w.heap.size w w')
    (h_n2 : ∀ w : World, Calls Try.prog 7 #[.int .i64 (256 + (1 + (m : Int)))] w fun e w' => e = .returned (.tuple #[.pointer none, .int .i64 800]) ∧ Below w.heap.size w w')
    (h_n3 : ∀ w : World, Calls Try.prog 7 #[.int .i64 3] w fun e w' => ∃ p : Nat, e = .returned (.tuple #[.pointer (some ⟨p, 0, none⟩), .int .i64 0]) ∧ Becomes [] (dpA p K0) w w')
    (h_a1 : ∀ p : Nat, Does Try.prog (dpA p K0) 12 #[.pointer (some ⟨p, 0, none⟩), .int .i64 1, .string tKept] (.returned (.int .i64 0)) (dpA p K1))
    (h_a2 : ∀ p : Nat, Does Try.prog (dpA p K1) 14 #[.pointer (some ⟨p, 0, none⟩)] (.returned (.int .i64 0)) (dpA p K2))
    (h_a3 : ∀ p : Nat, Does Try.prog (dpA p K2) 22 #[.pointer (some ⟨p, 0, none⟩), .int .i64 1] (.returned (.tuple #[.string tKept, .int .i64 0])) (dpA p K2))
    (h_a4 : ∀ p : Nat, Does Try.prog (dpA p K2) 16 #[.pointer (some ⟨p, 0, none⟩), .int .i64 0, .int .i64 0] (.returned (.int .i64 0)) (dpA p K3))
    (h_a5 : ∀ p : Nat, Does Try.prog (dpA p K3) 12 #[.pointer (some ⟨p, 0, none⟩), .int .i64 1, .string tNil] (.returned (.int .i64 801)) (dpA p K3))
    (h_a6 : ∀ p : Nat, Does Try.prog (dpA p K3) 14 #[.pointer (some ⟨p, 0, none⟩)] (.returned (.int .i64 801)) (dpA p K3))
    (h_a7 : ∀ p : Nat, Does Try.prog (dpA p K3) 16 #[.pointer (some ⟨p, 0, none⟩), .int .i64 0, .int .i64 0] (.returned (.int .i64 801)) (dpA p K3))
    (h_a8 : ∀ p : Nat, Does Try.prog (dpA p K3) 18 #[.pointer (some ⟨p, 0, none⟩)] (.returned (.int .i64 0)) (dpA p K4))
    (h_a9 : ∀ p : Nat, Does Try.prog (dpA p K4) 22 #[.pointer (some ⟨p, 0, none⟩), .int .i64 1] (.returned (.tuple #[.string tKept, .int .i64 0])) (dpA p K4))
    (h_b : ∀ p : Nat, Does Try.prog (dpA p K2) 12 #[.pointer (some ⟨p, 0, none⟩), .int .i64 1, .string ⟨#[115, 104, 111, 114, 116]⟩] (.returned (.int .i64 800)) (dpA p K2)) (w : World) :
    Calls Try.prog 4 #[.int .i64 n, .int .i64 x] w fun e w' => e = .returned (.bool true) ∧ Below w.heap.size w w' := by
  have H_lk := Lib.hid h_lk
  have H_ln := Lib.hid h_ln
  have H_n1 := Lib.hid h_n1
  have H_n2 := Lib.hid h_n2
  have H_n3 := Lib.hid h_n3
  have H_a1 := Lib.hid h_a1
  have H_a2 := Lib.hid h_a2
  have H_a3 := Lib.hid h_a3
  have H_a4 := Lib.hid h_a4
  have H_a5 := Lib.hid h_a5
  have H_a6 := Lib.hid h_a6
  have H_a7 := Lib.hid h_a7
  have H_a8 := Lib.hid h_a8
  have H_a9 := Lib.hid h_a9
  have H_b := Lib.hid h_b
  clear h_lk h_ln h_n1 h_n2 h_n3 h_a1 h_a2 h_a3 h_a4 h_a5 h_a6 h_a7 h_a8 h_a9 h_b
  have hB := Below.refl w.heap.size w
  go_enter Try.func4, Try.ntmps4
  go_wp2_with (first
    | (go_at_call 10; (with_reducible refine (awake8 _).mono ?_); rintro e w1 ⟨rfl, hb⟩; first | replace hS := hS.lay ((dpA_good _ _).star emp_good) hb | replace hB := hB.trans (hb.mono hB.size))
    | (go_at_call 7; first | ((with_reducible refine (H_n1.out _).mono ?_); rintro e w1 ⟨rfl, hb⟩; first | replace hS := hS.lay ((dpA_good _ _).star emp_good) hb | replace hB := hB.trans (hb.mono hB.size)) | ((with_reducible refine (H_n2.out _).mono ?_); rintro e w1 ⟨rfl, hb⟩; first | replace hS := hS.lay ((dpA_good _ _).star emp_good) hb | replace hB := hB.trans (hb.mono hB.size)) | ((with_reducible refine (H_n3.out _).mono ?_); rintro e w1 ⟨p, rfl, hb⟩; have hS : At w ((dpA p K0).star emp) w1 := At.add emp_good (At.none hB) hb; clear hb))
    | (go_at_call 11; first | ((with_reducible refine (H_lk.out _).mono ?_); rintro e w1 ⟨rfl, hb⟩; first | replace hS := hS.lay ((dpA_good _ _).star emp_good) hb | replace hB := hB.trans (hb.mono hB.size)) | ((with_reducible refine (H_ln.out _).mono ?_); rintro e w1 ⟨rfl, hb⟩; first | replace hS := hS.lay ((dpA_good _ _).star emp_good) hb | replace hB := hB.trans (hb.mono hB.size)))
    | (go_at_call 12; first | ((with_reducible refine (At.op0 (H_b.out _) emp_good hS).mono ?_); rintro e w1 ⟨rfl, hS1⟩; replace hS := hS1; clear hS1) | ((with_reducible refine (At.op0 (H_a1.out _) emp_good hS).mono ?_); rintro e w1 ⟨rfl, hS1⟩; replace hS := hS1; clear hS1) | ((with_reducible refine (At.op0 (H_a5.out _) emp_good hS).mono ?_); rintro e w1 ⟨rfl, hS1⟩; replace hS := hS1; clear hS1))
    | (go_at_call 14; first | ((with_reducible refine (At.op0 (H_a2.out _) emp_good hS).mono ?_); rintro e w1 ⟨rfl, hS1⟩; replace hS := hS1; clear hS1) | ((with_reducible refine (At.op0 (H_a6.out _) emp_good hS).mono ?_); rintro e w1 ⟨rfl, hS1⟩; replace hS := hS1; clear hS1))
    | (go_at_call 22; first | ((with_reducible refine (At.op0 (H_a3.out _) emp_good hS).mono ?_); rintro e w1 ⟨rfl, hS1⟩; replace hS := hS1; clear hS1) | ((with_reducible refine (At.op0 (H_a9.out _) emp_good hS).mono ?_); rintro e w1 ⟨rfl, hS1⟩; replace hS := hS1; clear hS1))
    | (go_at_call 16; first | ((with_reducible refine (At.op0 (H_a4.out _) emp_good hS).mono ?_); rintro e w1 ⟨rfl, hS1⟩; replace hS := hS1; clear hS1) | ((with_reducible refine (At.op0 (H_a7.out _) emp_good hS).mono ?_); rintro e w1 ⟨rfl, hS1⟩; replace hS := hS1; clear hS1))
    | (go_at_call 18; first | ((with_reducible refine (At.op0 (H_a8.out _) emp_good hS).mono ?_); rintro e w1 ⟨rfl, hS1⟩; replace hS := hS1; clear hS1))
    | (go_at_call 9; (with_reducible refine (lnum _ _).mono ?_); rintro e w1 ⟨rfl, rfl⟩))
  go_ret
  exact ⟨rfl, hS.bel⟩
set_option maxRecDepth 100000 in
set_option maxHeartbeats 8000000 in
theorem kforms3 (K0 K1 K2 K3 K4 : Dk) (tKept tNil : ByteArray) (hz : tNil.size = 64) (n x : Int) (m : Nat) (m1 : m ≤ 1023) (hm : bits .and .i64 x 1023 = (m : Int)) (hj : (IntKind.u64.wrap n).tmod 9 = 3)
    (h_lk : ∀ w : World, Calls Try.prog 11 #[.string ⟨#[107, 101, 112, 116]⟩] w fun e w' => e = .returned (.string tKept) ∧ Below w.heap.size w w')
    (h_ln : ∀ w : World, Calls Try.prog 11 #[.string ⟨#[]⟩] w fun e w' => e = .returned (.string tNil) ∧ Below w.heap.size w w')
    (h_n1 : ∀ w : World, Calls Try.prog 7 #[.int .i64 (1 - (1 + (m : Int)))] w fun e w' => e = .returned (.tuple #[.pointer none, .int .i64 800]) ∧ Below w.heap.size w w')
    (h_n2 : ∀ w : World, Calls Try.prog 7 #[.int .i64 (256 + (1 + (m : Int)))] w fun e w' => e = .returned (.tuple #[.pointer none, .int .i64 800]) ∧ Below w.heap.size w w')
    (h_n3 : ∀ w : World, Calls Try.prog 7 #[.int .i64 3] w fun e w' => ∃ p : Nat, e = .returned (.tuple #[.pointer (some ⟨p, 0, none⟩), .int .i64 0]) ∧ Becomes [] (dpA p K0) w w')
    (h_a1 : ∀ p : Nat, Does Try.prog (dpA p K0) 12 #[.pointer (some ⟨p, 0, none⟩), .int .i64 1, .string tKept] (.returned (.int .i64 0)) (dpA p K1))
    (h_a2 : ∀ p : Nat, Does Try.prog (dpA p K1) 14 #[.pointer (some ⟨p, 0, none⟩)] (.returned (.int .i64 0)) (dpA p K2))
    (h_a3 : ∀ p : Nat, Does Try.prog (dpA p K2) 22 #[.pointer (some ⟨p, 0, none⟩), .int .i64 1] (.returned (.tuple #[.string tKept, .int .i64 0])) (dpA p K2))
    (h_a4 : ∀ p : Nat, Does Try.prog (dpA p K2) 16 #[.pointer (some ⟨p, 0, none⟩), .int .i64 0, .int .i64 0] (.returned (.int .i64 0)) (dpA p K3))
    (h_a5 : ∀ p : Nat, Does Try.prog (dpA p K3) 12 #[.pointer (some ⟨p, 0, none⟩), .int .i64 1, .string tNil] (.returned (.int .i64 801)) (dpA p K3))
    (h_a6 : ∀ p : Nat, Does Try.prog (dpA p K3) 14 #[.pointer (some ⟨p, 0, none⟩)] (.returned (.int .i64 801)) (dpA p K3))
    (h_a7 : ∀ p : Nat, Does Try.prog (dpA p K3) 16 #[.pointer (some ⟨p, 0, none⟩), .int .i64 0, .int .i64 0] (.returned (.int .i64 801)) (dpA p K3))
    (h_a8 : ∀ p : Nat, Does Try.prog (dpA p K3) 18 #[.pointer (some ⟨p, 0, none⟩)] (.returned (.int .i64 0)) (dpA p K4))
    (h_a9 : ∀ p : Nat, Does Try.prog (dpA p K4) 22 #[.pointer (some ⟨p, 0, none⟩), .int .i64 1] (.returned (.tuple #[.string tKept, .int .i64 0])) (dpA p K4))
    (h_b : ∀ p : Nat, Does Try.prog (dpA p K2) 12 #[.pointer (some ⟨p, 0, none⟩), .int .i64 1, .string (tNil ++ ⟨#[120]⟩)] (.returned (.int .i64 800)) (dpA p K2)) (w : World) :
    Calls Try.prog 4 #[.int .i64 n, .int .i64 x] w fun e w' => e = .returned (.bool true) ∧ Below w.heap.size w w' := by
  have H_lk := Lib.hid h_lk
  have H_ln := Lib.hid h_ln
  have H_n1 := Lib.hid h_n1
  have H_n2 := Lib.hid h_n2
  have H_n3 := Lib.hid h_n3
  have H_a1 := Lib.hid h_a1
  have H_a2 := Lib.hid h_a2
  have H_a3 := Lib.hid h_a3
  have H_a4 := Lib.hid h_a4
  have H_a5 := Lib.hid h_a5
  have H_a6 := Lib.hid h_a6
  have H_a7 := Lib.hid h_a7
  have H_a8 := Lib.hid h_a8
  have H_a9 := Lib.hid h_a9
  have H_b := Lib.hid h_b
  clear h_lk h_ln h_n1 h_n2 h_n3 h_a1 h_a2 h_a3 h_a4 h_a5 h_a6 h_a7 h_a8 h_a9 h_b
  have hB := Below.refl w.heap.size w
  go_enter Try.func4, Try.ntmps4
  go_wp2_with (first
    | (go_at_call 10; (with_reducible refine (awake8 _).mono ?_); rintro e w1 ⟨rfl, hb⟩; first | replace hS := hS.lay ((dpA_good _ _).star emp_good) hb | replace hB := hB.trans (hb.mono hB.size))
    | (go_at_call 7; first | ((with_reducible refine (H_n1.out _).mono ?_); rintro e w1 ⟨rfl, hb⟩; first | replace hS := hS.lay ((dpA_good _ _).star emp_good) hb | replace hB := hB.trans (hb.mono hB.size)) | ((with_reducible refine (H_n2.out _).mono ?_); rintro e w1 ⟨rfl, hb⟩; first | replace hS := hS.lay ((dpA_good _ _).star emp_good) hb | replace hB := hB.trans (hb.mono hB.size)) | ((with_reducible refine (H_n3.out _).mono ?_); rintro e w1 ⟨p, rfl, hb⟩; have hS : At w ((dpA p K0).star emp) w1 := At.add emp_good (At.none hB) hb; clear hb))
    | (go_at_call 11; first | ((with_reducible refine (H_lk.out _).mono ?_); rintro e w1 ⟨rfl, hb⟩; first | replace hS := hS.lay ((dpA_good _ _).star emp_good) hb | replace hB := hB.trans (hb.mono hB.size)) | ((with_reducible refine (H_ln.out _).mono ?_); rintro e w1 ⟨rfl, hb⟩; first | replace hS := hS.lay ((dpA_good _ _).star emp_good) hb | replace hB := hB.trans (hb.mono hB.size)))
    | (go_at_call 12; first | ((with_reducible refine (At.op0 (H_b.out _) emp_good hS).mono ?_); rintro e w1 ⟨rfl, hS1⟩; replace hS := hS1; clear hS1) | ((with_reducible refine (At.op0 (H_a1.out _) emp_good hS).mono ?_); rintro e w1 ⟨rfl, hS1⟩; replace hS := hS1; clear hS1) | ((with_reducible refine (At.op0 (H_a5.out _) emp_good hS).mono ?_); rintro e w1 ⟨rfl, hS1⟩; replace hS := hS1; clear hS1))
    | (go_at_call 14; first | ((with_reducible refine (At.op0 (H_a2.out _) emp_good hS).mono ?_); rintro e w1 ⟨rfl, hS1⟩; replace hS := hS1; clear hS1) | ((with_reducible refine (At.op0 (H_a6.out _) emp_good hS).mono ?_); rintro e w1 ⟨rfl, hS1⟩; replace hS := hS1; clear hS1))
    | (go_at_call 22; first | ((with_reducible refine (At.op0 (H_a3.out _) emp_good hS).mono ?_); rintro e w1 ⟨rfl, hS1⟩; replace hS := hS1; clear hS1) | ((with_reducible refine (At.op0 (H_a9.out _) emp_good hS).mono ?_); rintro e w1 ⟨rfl, hS1⟩; replace hS := hS1; clear hS1))
    | (go_at_call 16; first | ((with_reducible refine (At.op0 (H_a4.out _) emp_good hS).mono ?_); rintro e w1 ⟨rfl, hS1⟩; replace hS := hS1; clear hS1) | ((with_reducible refine (At.op0 (H_a7.out _) emp_good hS).mono ?_); rintro e w1 ⟨rfl, hS1⟩; replace hS := hS1; clear hS1))
    | (go_at_call 18; first | ((with_reducible refine (At.op0 (H_a8.out _) emp_good hS).mono ?_); rintro e w1 ⟨rfl, hS1⟩; replace hS := hS1; clear hS1))
    | (go_at_call 9; (with_reducible refine (lnum _ _).mono ?_); rintro e w1 ⟨rfl, rfl⟩))
  go_ret
  exact ⟨rfl, hS.bel⟩
set_option maxRecDepth 100000 in
set_option maxHeartbeats 8000000 in
theorem kforms4 (K0 K1 K2 K3 K4 : Dk) (tKept tNil : ByteArray) (n x : Int) (m : Nat) (m1 : m ≤ 1023) (hm : bits .and .i64 x 1023 = (m : Int)) (hj : (IntKind.u64.wrap n).tmod 9 = 4)
    (h_lk : ∀ w : World, Calls Try.prog 11 #[.string ⟨#[107, 101, 112, 116]⟩] w fun e w' => e = .returned (.string tKept) ∧ Below w.heap.size w w')
    (h_ln : ∀ w : World, Calls Try.prog 11 #[.string ⟨#[]⟩] w fun e w' => e = .returned (.string tNil) ∧ Below w.heap.size w w')
    (h_n1 : ∀ w : World, Calls Try.prog 7 #[.int .i64 (1 - (1 + (m : Int)))] w fun e w' => e = .returned (.tuple #[.pointer none, .int .i64 800]) ∧ Below w.heap.size w w')
    (h_n2 : ∀ w : World, Calls Try.prog 7 #[.int .i64 (256 + (1 + (m : Int)))] w fun e w' => e = .returned (.tuple #[.pointer none, .int .i64 800]) ∧ Below w.heap.size w w')
    (h_n3 : ∀ w : World, Calls Try.prog 7 #[.int .i64 3] w fun e w' => ∃ p : Nat, e = .returned (.tuple #[.pointer (some ⟨p, 0, none⟩), .int .i64 0]) ∧ Becomes [] (dpA p K0) w w')
    (h_a1 : ∀ p : Nat, Does Try.prog (dpA p K0) 12 #[.pointer (some ⟨p, 0, none⟩), .int .i64 1, .string tKept] (.returned (.int .i64 0)) (dpA p K1))
    (h_a2 : ∀ p : Nat, Does Try.prog (dpA p K1) 14 #[.pointer (some ⟨p, 0, none⟩)] (.returned (.int .i64 0)) (dpA p K2))
    (h_a3 : ∀ p : Nat, Does Try.prog (dpA p K2) 22 #[.pointer (some ⟨p, 0, none⟩), .int .i64 1] (.returned (.tuple #[.string tKept, .int .i64 0])) (dpA p K2))
    (h_a4 : ∀ p : Nat, Does Try.prog (dpA p K2) 16 #[.pointer (some ⟨p, 0, none⟩), .int .i64 0, .int .i64 0] (.returned (.int .i64 0)) (dpA p K3))
    (h_a5 : ∀ p : Nat, Does Try.prog (dpA p K3) 12 #[.pointer (some ⟨p, 0, none⟩), .int .i64 1, .string tNil] (.returned (.int .i64 801)) (dpA p K3))
    (h_a6 : ∀ p : Nat, Does Try.prog (dpA p K3) 14 #[.pointer (some ⟨p, 0, none⟩)] (.returned (.int .i64 801)) (dpA p K3))
    (h_a7 : ∀ p : Nat, Does Try.prog (dpA p K3) 16 #[.pointer (some ⟨p, 0, none⟩), .int .i64 0, .int .i64 0] (.returned (.int .i64 801)) (dpA p K3))
    (h_a8 : ∀ p : Nat, Does Try.prog (dpA p K3) 18 #[.pointer (some ⟨p, 0, none⟩)] (.returned (.int .i64 0)) (dpA p K4))
    (h_a9 : ∀ p : Nat, Does Try.prog (dpA p K4) 22 #[.pointer (some ⟨p, 0, none⟩), .int .i64 1] (.returned (.tuple #[.string tKept, .int .i64 0])) (dpA p K4))
    (h_b : ∀ p : Nat, Does Try.prog (dpA p K2) 22 #[.pointer (some ⟨p, 0, none⟩), .int .i64 (2 + (1 + (m : Int)))] (.returned (.tuple #[.string ⟨#[]⟩, .int .i64 800])) (dpA p K2)) (w : World) :
    Calls Try.prog 4 #[.int .i64 n, .int .i64 x] w fun e w' => e = .returned (.bool true) ∧ Below w.heap.size w w' := by
  have H_lk := Lib.hid h_lk
  have H_ln := Lib.hid h_ln
  have H_n1 := Lib.hid h_n1
  have H_n2 := Lib.hid h_n2
  have H_n3 := Lib.hid h_n3
  have H_a1 := Lib.hid h_a1
  have H_a2 := Lib.hid h_a2
  have H_a3 := Lib.hid h_a3
  have H_a4 := Lib.hid h_a4
  have H_a5 := Lib.hid h_a5
  have H_a6 := Lib.hid h_a6
  have H_a7 := Lib.hid h_a7
  have H_a8 := Lib.hid h_a8
  have H_a9 := Lib.hid h_a9
  have H_b := Lib.hid h_b
  clear h_lk h_ln h_n1 h_n2 h_n3 h_a1 h_a2 h_a3 h_a4 h_a5 h_a6 h_a7 h_a8 h_a9 h_b
  have hB := Below.refl w.heap.size w
  go_enter Try.func4, Try.ntmps4
  go_wp2_with (first
    | (go_at_call 10; (with_reducible refine (awake8 _).mono ?_); rintro e w1 ⟨rfl, hb⟩; first | replace hS := hS.lay ((dpA_good _ _).star emp_good) hb | replace hB := hB.trans (hb.mono hB.size))
    | (go_at_call 7; first | ((with_reducible refine (H_n1.out _).mono ?_); rintro e w1 ⟨rfl, hb⟩; first | replace hS := hS.lay ((dpA_good _ _).star emp_good) hb | replace hB := hB.trans (hb.mono hB.size)) | ((with_reducible refine (H_n2.out _).mono ?_); rintro e w1 ⟨rfl, hb⟩; first | replace hS := hS.lay ((dpA_good _ _).star emp_good) hb | replace hB := hB.trans (hb.mono hB.size)) | ((with_reducible refine (H_n3.out _).mono ?_); rintro e w1 ⟨p, rfl, hb⟩; have hS : At w ((dpA p K0).star emp) w1 := At.add emp_good (At.none hB) hb; clear hb))
    | (go_at_call 11; first | ((with_reducible refine (H_lk.out _).mono ?_); rintro e w1 ⟨rfl, hb⟩; first | replace hS := hS.lay ((dpA_good _ _).star emp_good) hb | replace hB := hB.trans (hb.mono hB.size)) | ((with_reducible refine (H_ln.out _).mono ?_); rintro e w1 ⟨rfl, hb⟩; first | replace hS := hS.lay ((dpA_good _ _).star emp_good) hb | replace hB := hB.trans (hb.mono hB.size)))
    | (go_at_call 12; first | ((with_reducible refine (At.op0 (H_a1.out _) emp_good hS).mono ?_); rintro e w1 ⟨rfl, hS1⟩; replace hS := hS1; clear hS1) | ((with_reducible refine (At.op0 (H_a5.out _) emp_good hS).mono ?_); rintro e w1 ⟨rfl, hS1⟩; replace hS := hS1; clear hS1))
    | (go_at_call 14; first | ((with_reducible refine (At.op0 (H_a2.out _) emp_good hS).mono ?_); rintro e w1 ⟨rfl, hS1⟩; replace hS := hS1; clear hS1) | ((with_reducible refine (At.op0 (H_a6.out _) emp_good hS).mono ?_); rintro e w1 ⟨rfl, hS1⟩; replace hS := hS1; clear hS1))
    | (go_at_call 22; first | ((with_reducible refine (At.op0 (H_b.out _) emp_good hS).mono ?_); rintro e w1 ⟨rfl, hS1⟩; replace hS := hS1; clear hS1) | ((with_reducible refine (At.op0 (H_a3.out _) emp_good hS).mono ?_); rintro e w1 ⟨rfl, hS1⟩; replace hS := hS1; clear hS1) | ((with_reducible refine (At.op0 (H_a9.out _) emp_good hS).mono ?_); rintro e w1 ⟨rfl, hS1⟩; replace hS := hS1; clear hS1))
    | (go_at_call 16; first | ((with_reducible refine (At.op0 (H_a4.out _) emp_good hS).mono ?_); rintro e w1 ⟨rfl, hS1⟩; replace hS := hS1; clear hS1) | ((with_reducible refine (At.op0 (H_a7.out _) emp_good hS).mono ?_); rintro e w1 ⟨rfl, hS1⟩; replace hS := hS1; clear hS1))
    | (go_at_call 18; first | ((with_reducible refine (At.op0 (H_a8.out _) emp_good hS).mono ?_); rintro e w1 ⟨rfl, hS1⟩; replace hS := hS1; clear hS1))
    | (go_at_call 9; (with_reducible refine (lnum _ _).mono ?_); rintro e w1 ⟨rfl, rfl⟩))
  go_ret
  exact ⟨rfl, hS.bel⟩
set_option maxRecDepth 100000 in
set_option maxHeartbeats 8000000 in
theorem kforms5 (K0 K1 K2 K3 K4 : Dk) (tKept tNil : ByteArray) (n x : Int) (m : Nat) (m1 : m ≤ 1023) (hm : bits .and .i64 x 1023 = (m : Int)) (hj : (IntKind.u64.wrap n).tmod 9 = 5)
    (h_lk : ∀ w : World, Calls Try.prog 11 #[.string ⟨#[107, 101, 112, 116]⟩] w fun e w' => e = .returned (.string tKept) ∧ Below w.heap.size w w')
    (h_ln : ∀ w : World, Calls Try.prog 11 #[.string ⟨#[]⟩] w fun e w' => e = .returned (.string tNil) ∧ Below w.heap.size w w')
    (h_n1 : ∀ w : World, Calls Try.prog 7 #[.int .i64 (1 - (1 + (m : Int)))] w fun e w' => e = .returned (.tuple #[.pointer none, .int .i64 800]) ∧ Below w.heap.size w w')
    (h_n2 : ∀ w : World, Calls Try.prog 7 #[.int .i64 (256 + (1 + (m : Int)))] w fun e w' => e = .returned (.tuple #[.pointer none, .int .i64 800]) ∧ Below w.heap.size w w')
    (h_n3 : ∀ w : World, Calls Try.prog 7 #[.int .i64 3] w fun e w' => ∃ p : Nat, e = .returned (.tuple #[.pointer (some ⟨p, 0, none⟩), .int .i64 0]) ∧ Becomes [] (dpA p K0) w w')
    (h_a1 : ∀ p : Nat, Does Try.prog (dpA p K0) 12 #[.pointer (some ⟨p, 0, none⟩), .int .i64 1, .string tKept] (.returned (.int .i64 0)) (dpA p K1))
    (h_a2 : ∀ p : Nat, Does Try.prog (dpA p K1) 14 #[.pointer (some ⟨p, 0, none⟩)] (.returned (.int .i64 0)) (dpA p K2))
    (h_a3 : ∀ p : Nat, Does Try.prog (dpA p K2) 22 #[.pointer (some ⟨p, 0, none⟩), .int .i64 1] (.returned (.tuple #[.string tKept, .int .i64 0])) (dpA p K2))
    (h_a4 : ∀ p : Nat, Does Try.prog (dpA p K2) 16 #[.pointer (some ⟨p, 0, none⟩), .int .i64 0, .int .i64 0] (.returned (.int .i64 0)) (dpA p K3))
    (h_a5 : ∀ p : Nat, Does Try.prog (dpA p K3) 12 #[.pointer (some ⟨p, 0, none⟩), .int .i64 1, .string tNil] (.returned (.int .i64 801)) (dpA p K3))
    (h_a6 : ∀ p : Nat, Does Try.prog (dpA p K3) 14 #[.pointer (some ⟨p, 0, none⟩)] (.returned (.int .i64 801)) (dpA p K3))
    (h_a7 : ∀ p : Nat, Does Try.prog (dpA p K3) 16 #[.pointer (some ⟨p, 0, none⟩), .int .i64 0, .int .i64 0] (.returned (.int .i64 801)) (dpA p K3))
    (h_a8 : ∀ p : Nat, Does Try.prog (dpA p K3) 18 #[.pointer (some ⟨p, 0, none⟩)] (.returned (.int .i64 0)) (dpA p K4))
    (h_a9 : ∀ p : Nat, Does Try.prog (dpA p K4) 22 #[.pointer (some ⟨p, 0, none⟩), .int .i64 1] (.returned (.tuple #[.string tKept, .int .i64 0])) (dpA p K4))
    (h_b : ∀ p : Nat, Does Try.prog (dpA p K2) 22 #[.pointer (some ⟨p, 0, none⟩), .int .i64 (-(1 + (m : Int)))] (.returned (.tuple #[.string ⟨#[]⟩, .int .i64 800])) (dpA p K2)) (w : World) :
    Calls Try.prog 4 #[.int .i64 n, .int .i64 x] w fun e w' => e = .returned (.bool true) ∧ Below w.heap.size w w' := by
  have H_lk := Lib.hid h_lk
  have H_ln := Lib.hid h_ln
  have H_n1 := Lib.hid h_n1
  have H_n2 := Lib.hid h_n2
  have H_n3 := Lib.hid h_n3
  have H_a1 := Lib.hid h_a1
  have H_a2 := Lib.hid h_a2
  have H_a3 := Lib.hid h_a3
  have H_a4 := Lib.hid h_a4
  have H_a5 := Lib.hid h_a5
  have H_a6 := Lib.hid h_a6
  have H_a7 := Lib.hid h_a7
  have H_a8 := Lib.hid h_a8
  have H_a9 := Lib.hid h_a9
  have H_b := Lib.hid h_b
  clear h_lk h_ln h_n1 h_n2 h_n3 h_a1 h_a2 h_a3 h_a4 h_a5 h_a6 h_a7 h_a8 h_a9 h_b
  have hB := Below.refl w.heap.size w
  go_enter Try.func4, Try.ntmps4
  go_wp2_with (first
    | (go_at_call 10; (with_reducible refine (awake8 _).mono ?_); rintro e w1 ⟨rfl, hb⟩; first | replace hS := hS.lay ((dpA_good _ _).star emp_good) hb | replace hB := hB.trans (hb.mono hB.size))
    | (go_at_call 7; first | ((with_reducible refine (H_n1.out _).mono ?_); rintro e w1 ⟨rfl, hb⟩; first | replace hS := hS.lay ((dpA_good _ _).star emp_good) hb | replace hB := hB.trans (hb.mono hB.size)) | ((with_reducible refine (H_n2.out _).mono ?_); rintro e w1 ⟨rfl, hb⟩; first | replace hS := hS.lay ((dpA_good _ _).star emp_good) hb | replace hB := hB.trans (hb.mono hB.size)) | ((with_reducible refine (H_n3.out _).mono ?_); rintro e w1 ⟨p, rfl, hb⟩; have hS : At w ((dpA p K0).star emp) w1 := At.add emp_good (At.none hB) hb; clear hb))
    | (go_at_call 11; first | ((with_reducible refine (H_lk.out _).mono ?_); rintro e w1 ⟨rfl, hb⟩; first | replace hS := hS.lay ((dpA_good _ _).star emp_good) hb | replace hB := hB.trans (hb.mono hB.size)) | ((with_reducible refine (H_ln.out _).mono ?_); rintro e w1 ⟨rfl, hb⟩; first | replace hS := hS.lay ((dpA_good _ _).star emp_good) hb | replace hB := hB.trans (hb.mono hB.size)))
    | (go_at_call 12; first | ((with_reducible refine (At.op0 (H_a1.out _) emp_good hS).mono ?_); rintro e w1 ⟨rfl, hS1⟩; replace hS := hS1; clear hS1) | ((with_reducible refine (At.op0 (H_a5.out _) emp_good hS).mono ?_); rintro e w1 ⟨rfl, hS1⟩; replace hS := hS1; clear hS1))
    | (go_at_call 14; first | ((with_reducible refine (At.op0 (H_a2.out _) emp_good hS).mono ?_); rintro e w1 ⟨rfl, hS1⟩; replace hS := hS1; clear hS1) | ((with_reducible refine (At.op0 (H_a6.out _) emp_good hS).mono ?_); rintro e w1 ⟨rfl, hS1⟩; replace hS := hS1; clear hS1))
    | (go_at_call 22; first | ((with_reducible refine (At.op0 (H_b.out _) emp_good hS).mono ?_); rintro e w1 ⟨rfl, hS1⟩; replace hS := hS1; clear hS1) | ((with_reducible refine (At.op0 (H_a3.out _) emp_good hS).mono ?_); rintro e w1 ⟨rfl, hS1⟩; replace hS := hS1; clear hS1) | ((with_reducible refine (At.op0 (H_a9.out _) emp_good hS).mono ?_); rintro e w1 ⟨rfl, hS1⟩; replace hS := hS1; clear hS1))
    | (go_at_call 16; first | ((with_reducible refine (At.op0 (H_a4.out _) emp_good hS).mono ?_); rintro e w1 ⟨rfl, hS1⟩; replace hS := hS1; clear hS1) | ((with_reducible refine (At.op0 (H_a7.out _) emp_good hS).mono ?_); rintro e w1 ⟨rfl, hS1⟩; replace hS := hS1; clear hS1))
    | (go_at_call 18; first | ((with_reducible refine (At.op0 (H_a8.out _) emp_good hS).mono ?_); rintro e w1 ⟨rfl, hS1⟩; replace hS := hS1; clear hS1))
    | (go_at_call 9; (with_reducible refine (lnum _ _).mono ?_); rintro e w1 ⟨rfl, rfl⟩))
  go_ret
  exact ⟨rfl, hS.bel⟩
set_option maxRecDepth 100000 in
set_option maxHeartbeats 8000000 in
theorem kforms6 (K0 K1 K2 K3 K4 : Dk) (tKept tNil : ByteArray) (n x : Int) (m : Nat) (m1 : m ≤ 1023) (hm : bits .and .i64 x 1023 = (m : Int)) (hj : (IntKind.u64.wrap n).tmod 9 = 6)
    (h_lk : ∀ w : World, Calls Try.prog 11 #[.string ⟨#[107, 101, 112, 116]⟩] w fun e w' => e = .returned (.string tKept) ∧ Below w.heap.size w w')
    (h_ln : ∀ w : World, Calls Try.prog 11 #[.string ⟨#[]⟩] w fun e w' => e = .returned (.string tNil) ∧ Below w.heap.size w w')
    (h_n1 : ∀ w : World, Calls Try.prog 7 #[.int .i64 (1 - (1 + (m : Int)))] w fun e w' => e = .returned (.tuple #[.pointer none, .int .i64 800]) ∧ Below w.heap.size w w')
    (h_n2 : ∀ w : World, Calls Try.prog 7 #[.int .i64 (256 + (1 + (m : Int)))] w fun e w' => e = .returned (.tuple #[.pointer none, .int .i64 800]) ∧ Below w.heap.size w w')
    (h_n3 : ∀ w : World, Calls Try.prog 7 #[.int .i64 3] w fun e w' => ∃ p : Nat, e = .returned (.tuple #[.pointer (some ⟨p, 0, none⟩), .int .i64 0]) ∧ Becomes [] (dpA p K0) w w')
    (h_a1 : ∀ p : Nat, Does Try.prog (dpA p K0) 12 #[.pointer (some ⟨p, 0, none⟩), .int .i64 1, .string tKept] (.returned (.int .i64 0)) (dpA p K1))
    (h_a2 : ∀ p : Nat, Does Try.prog (dpA p K1) 14 #[.pointer (some ⟨p, 0, none⟩)] (.returned (.int .i64 0)) (dpA p K2))
    (h_a3 : ∀ p : Nat, Does Try.prog (dpA p K2) 22 #[.pointer (some ⟨p, 0, none⟩), .int .i64 1] (.returned (.tuple #[.string tKept, .int .i64 0])) (dpA p K2))
    (h_a4 : ∀ p : Nat, Does Try.prog (dpA p K2) 16 #[.pointer (some ⟨p, 0, none⟩), .int .i64 0, .int .i64 0] (.returned (.int .i64 0)) (dpA p K3))
    (h_a5 : ∀ p : Nat, Does Try.prog (dpA p K3) 12 #[.pointer (some ⟨p, 0, none⟩), .int .i64 1, .string tNil] (.returned (.int .i64 801)) (dpA p K3))
    (h_a6 : ∀ p : Nat, Does Try.prog (dpA p K3) 14 #[.pointer (some ⟨p, 0, none⟩)] (.returned (.int .i64 801)) (dpA p K3))
    (h_a7 : ∀ p : Nat, Does Try.prog (dpA p K3) 16 #[.pointer (some ⟨p, 0, none⟩), .int .i64 0, .int .i64 0] (.returned (.int .i64 801)) (dpA p K3))
    (h_a8 : ∀ p : Nat, Does Try.prog (dpA p K3) 18 #[.pointer (some ⟨p, 0, none⟩)] (.returned (.int .i64 0)) (dpA p K4))
    (h_a9 : ∀ p : Nat, Does Try.prog (dpA p K4) 22 #[.pointer (some ⟨p, 0, none⟩), .int .i64 1] (.returned (.tuple #[.string tKept, .int .i64 0])) (dpA p K4))
    (h_b : ∀ p : Nat, Does Try.prog (dpA p K2) 16 #[.pointer (some ⟨p, 0, none⟩), .int .i64 (-(1 + (m : Int))), .int .i64 0] (.returned (.int .i64 800)) (dpA p K2)) (w : World) :
    Calls Try.prog 4 #[.int .i64 n, .int .i64 x] w fun e w' => e = .returned (.bool true) ∧ Below w.heap.size w w' := by
  have H_lk := Lib.hid h_lk
  have H_ln := Lib.hid h_ln
  have H_n1 := Lib.hid h_n1
  have H_n2 := Lib.hid h_n2
  have H_n3 := Lib.hid h_n3
  have H_a1 := Lib.hid h_a1
  have H_a2 := Lib.hid h_a2
  have H_a3 := Lib.hid h_a3
  have H_a4 := Lib.hid h_a4
  have H_a5 := Lib.hid h_a5
  have H_a6 := Lib.hid h_a6
  have H_a7 := Lib.hid h_a7
  have H_a8 := Lib.hid h_a8
  have H_a9 := Lib.hid h_a9
  have H_b := Lib.hid h_b
  clear h_lk h_ln h_n1 h_n2 h_n3 h_a1 h_a2 h_a3 h_a4 h_a5 h_a6 h_a7 h_a8 h_a9 h_b
  have hB := Below.refl w.heap.size w
  go_enter Try.func4, Try.ntmps4
  go_wp2_with (first
    | (go_at_call 10; (with_reducible refine (awake8 _).mono ?_); rintro e w1 ⟨rfl, hb⟩; first | replace hS := hS.lay ((dpA_good _ _).star emp_good) hb | replace hB := hB.trans (hb.mono hB.size))
    | (go_at_call 7; first | ((with_reducible refine (H_n1.out _).mono ?_); rintro e w1 ⟨rfl, hb⟩; first | replace hS := hS.lay ((dpA_good _ _).star emp_good) hb | replace hB := hB.trans (hb.mono hB.size)) | ((with_reducible refine (H_n2.out _).mono ?_); rintro e w1 ⟨rfl, hb⟩; first | replace hS := hS.lay ((dpA_good _ _).star emp_good) hb | replace hB := hB.trans (hb.mono hB.size)) | ((with_reducible refine (H_n3.out _).mono ?_); rintro e w1 ⟨p, rfl, hb⟩; have hS : At w ((dpA p K0).star emp) w1 := At.add emp_good (At.none hB) hb; clear hb))
    | (go_at_call 11; first | ((with_reducible refine (H_lk.out _).mono ?_); rintro e w1 ⟨rfl, hb⟩; first | replace hS := hS.lay ((dpA_good _ _).star emp_good) hb | replace hB := hB.trans (hb.mono hB.size)) | ((with_reducible refine (H_ln.out _).mono ?_); rintro e w1 ⟨rfl, hb⟩; first | replace hS := hS.lay ((dpA_good _ _).star emp_good) hb | replace hB := hB.trans (hb.mono hB.size)))
    | (go_at_call 12; first | ((with_reducible refine (At.op0 (H_a1.out _) emp_good hS).mono ?_); rintro e w1 ⟨rfl, hS1⟩; replace hS := hS1; clear hS1) | ((with_reducible refine (At.op0 (H_a5.out _) emp_good hS).mono ?_); rintro e w1 ⟨rfl, hS1⟩; replace hS := hS1; clear hS1))
    | (go_at_call 14; first | ((with_reducible refine (At.op0 (H_a2.out _) emp_good hS).mono ?_); rintro e w1 ⟨rfl, hS1⟩; replace hS := hS1; clear hS1) | ((with_reducible refine (At.op0 (H_a6.out _) emp_good hS).mono ?_); rintro e w1 ⟨rfl, hS1⟩; replace hS := hS1; clear hS1))
    | (go_at_call 22; first | ((with_reducible refine (At.op0 (H_a3.out _) emp_good hS).mono ?_); rintro e w1 ⟨rfl, hS1⟩; replace hS := hS1; clear hS1) | ((with_reducible refine (At.op0 (H_a9.out _) emp_good hS).mono ?_); rintro e w1 ⟨rfl, hS1⟩; replace hS := hS1; clear hS1))
    | (go_at_call 16; first | ((with_reducible refine (At.op0 (H_b.out _) emp_good hS).mono ?_); rintro e w1 ⟨rfl, hS1⟩; replace hS := hS1; clear hS1) | ((with_reducible refine (At.op0 (H_a4.out _) emp_good hS).mono ?_); rintro e w1 ⟨rfl, hS1⟩; replace hS := hS1; clear hS1) | ((with_reducible refine (At.op0 (H_a7.out _) emp_good hS).mono ?_); rintro e w1 ⟨rfl, hS1⟩; replace hS := hS1; clear hS1))
    | (go_at_call 18; first | ((with_reducible refine (At.op0 (H_a8.out _) emp_good hS).mono ?_); rintro e w1 ⟨rfl, hS1⟩; replace hS := hS1; clear hS1))
    | (go_at_call 9; (with_reducible refine (lnum _ _).mono ?_); rintro e w1 ⟨rfl, rfl⟩))
  go_ret
  exact ⟨rfl, hS.bel⟩
set_option maxRecDepth 100000 in
set_option maxHeartbeats 8000000 in
theorem kforms7 (K0 K1 K2 K3 K4 : Dk) (tKept tNil : ByteArray) (n x : Int) (m : Nat) (m1 : m ≤ 1023) (hm : bits .and .i64 x 1023 = (m : Int)) (hj : (IntKind.u64.wrap n).tmod 9 = 7)
    (h_lk : ∀ w : World, Calls Try.prog 11 #[.string ⟨#[107, 101, 112, 116]⟩] w fun e w' => e = .returned (.string tKept) ∧ Below w.heap.size w w')
    (h_ln : ∀ w : World, Calls Try.prog 11 #[.string ⟨#[]⟩] w fun e w' => e = .returned (.string tNil) ∧ Below w.heap.size w w')
    (h_n1 : ∀ w : World, Calls Try.prog 7 #[.int .i64 (1 - (1 + (m : Int)))] w fun e w' => e = .returned (.tuple #[.pointer none, .int .i64 800]) ∧ Below w.heap.size w w')
    (h_n2 : ∀ w : World, Calls Try.prog 7 #[.int .i64 (256 + (1 + (m : Int)))] w fun e w' => e = .returned (.tuple #[.pointer none, .int .i64 800]) ∧ Below w.heap.size w w')
    (h_n3 : ∀ w : World, Calls Try.prog 7 #[.int .i64 3] w fun e w' => ∃ p : Nat, e = .returned (.tuple #[.pointer (some ⟨p, 0, none⟩), .int .i64 0]) ∧ Becomes [] (dpA p K0) w w')
    (h_a1 : ∀ p : Nat, Does Try.prog (dpA p K0) 12 #[.pointer (some ⟨p, 0, none⟩), .int .i64 1, .string tKept] (.returned (.int .i64 0)) (dpA p K1))
    (h_a2 : ∀ p : Nat, Does Try.prog (dpA p K1) 14 #[.pointer (some ⟨p, 0, none⟩)] (.returned (.int .i64 0)) (dpA p K2))
    (h_a3 : ∀ p : Nat, Does Try.prog (dpA p K2) 22 #[.pointer (some ⟨p, 0, none⟩), .int .i64 1] (.returned (.tuple #[.string tKept, .int .i64 0])) (dpA p K2))
    (h_a4 : ∀ p : Nat, Does Try.prog (dpA p K2) 16 #[.pointer (some ⟨p, 0, none⟩), .int .i64 0, .int .i64 0] (.returned (.int .i64 0)) (dpA p K3))
    (h_a5 : ∀ p : Nat, Does Try.prog (dpA p K3) 12 #[.pointer (some ⟨p, 0, none⟩), .int .i64 1, .string tNil] (.returned (.int .i64 801)) (dpA p K3))
    (h_a6 : ∀ p : Nat, Does Try.prog (dpA p K3) 14 #[.pointer (some ⟨p, 0, none⟩)] (.returned (.int .i64 801)) (dpA p K3))
    (h_a7 : ∀ p : Nat, Does Try.prog (dpA p K3) 16 #[.pointer (some ⟨p, 0, none⟩), .int .i64 0, .int .i64 0] (.returned (.int .i64 801)) (dpA p K3))
    (h_a8 : ∀ p : Nat, Does Try.prog (dpA p K3) 18 #[.pointer (some ⟨p, 0, none⟩)] (.returned (.int .i64 0)) (dpA p K4))
    (h_a9 : ∀ p : Nat, Does Try.prog (dpA p K4) 22 #[.pointer (some ⟨p, 0, none⟩), .int .i64 1] (.returned (.tuple #[.string tKept, .int .i64 0])) (dpA p K4))
    (h_b : ∀ p : Nat, Does Try.prog (dpA p K2) 16 #[.pointer (some ⟨p, 0, none⟩), .int .i64 0, .int .i64 (-(1 + (m : Int)))] (.returned (.int .i64 800)) (dpA p K2)) (w : World) :
    Calls Try.prog 4 #[.int .i64 n, .int .i64 x] w fun e w' => e = .returned (.bool true) ∧ Below w.heap.size w w' := by
  have H_lk := Lib.hid h_lk
  have H_ln := Lib.hid h_ln
  have H_n1 := Lib.hid h_n1
  have H_n2 := Lib.hid h_n2
  have H_n3 := Lib.hid h_n3
  have H_a1 := Lib.hid h_a1
  have H_a2 := Lib.hid h_a2
  have H_a3 := Lib.hid h_a3
  have H_a4 := Lib.hid h_a4
  have H_a5 := Lib.hid h_a5
  have H_a6 := Lib.hid h_a6
  have H_a7 := Lib.hid h_a7
  have H_a8 := Lib.hid h_a8
  have H_a9 := Lib.hid h_a9
  have H_b := Lib.hid h_b
  clear h_lk h_ln h_n1 h_n2 h_n3 h_a1 h_a2 h_a3 h_a4 h_a5 h_a6 h_a7 h_a8 h_a9 h_b
  have hB := Below.refl w.heap.size w
  go_enter Try.func4, Try.ntmps4
  go_wp2_with (first
    | (go_at_call 10; (with_reducible refine (awake8 _).mono ?_); rintro e w1 ⟨rfl, hb⟩; first | replace hS := hS.lay ((dpA_good _ _).star emp_good) hb | replace hB := hB.trans (hb.mono hB.size))
    | (go_at_call 7; first | ((with_reducible refine (H_n1.out _).mono ?_); rintro e w1 ⟨rfl, hb⟩; first | replace hS := hS.lay ((dpA_good _ _).star emp_good) hb | replace hB := hB.trans (hb.mono hB.size)) | ((with_reducible refine (H_n2.out _).mono ?_); rintro e w1 ⟨rfl, hb⟩; first | replace hS := hS.lay ((dpA_good _ _).star emp_good) hb | replace hB := hB.trans (hb.mono hB.size)) | ((with_reducible refine (H_n3.out _).mono ?_); rintro e w1 ⟨p, rfl, hb⟩; have hS : At w ((dpA p K0).star emp) w1 := At.add emp_good (At.none hB) hb; clear hb))
    | (go_at_call 11; first | ((with_reducible refine (H_lk.out _).mono ?_); rintro e w1 ⟨rfl, hb⟩; first | replace hS := hS.lay ((dpA_good _ _).star emp_good) hb | replace hB := hB.trans (hb.mono hB.size)) | ((with_reducible refine (H_ln.out _).mono ?_); rintro e w1 ⟨rfl, hb⟩; first | replace hS := hS.lay ((dpA_good _ _).star emp_good) hb | replace hB := hB.trans (hb.mono hB.size)))
    | (go_at_call 12; first | ((with_reducible refine (At.op0 (H_a1.out _) emp_good hS).mono ?_); rintro e w1 ⟨rfl, hS1⟩; replace hS := hS1; clear hS1) | ((with_reducible refine (At.op0 (H_a5.out _) emp_good hS).mono ?_); rintro e w1 ⟨rfl, hS1⟩; replace hS := hS1; clear hS1))
    | (go_at_call 14; first | ((with_reducible refine (At.op0 (H_a2.out _) emp_good hS).mono ?_); rintro e w1 ⟨rfl, hS1⟩; replace hS := hS1; clear hS1) | ((with_reducible refine (At.op0 (H_a6.out _) emp_good hS).mono ?_); rintro e w1 ⟨rfl, hS1⟩; replace hS := hS1; clear hS1))
    | (go_at_call 22; first | ((with_reducible refine (At.op0 (H_a3.out _) emp_good hS).mono ?_); rintro e w1 ⟨rfl, hS1⟩; replace hS := hS1; clear hS1) | ((with_reducible refine (At.op0 (H_a9.out _) emp_good hS).mono ?_); rintro e w1 ⟨rfl, hS1⟩; replace hS := hS1; clear hS1))
    | (go_at_call 16; first | ((with_reducible refine (At.op0 (H_b.out _) emp_good hS).mono ?_); rintro e w1 ⟨rfl, hS1⟩; replace hS := hS1; clear hS1) | ((with_reducible refine (At.op0 (H_a4.out _) emp_good hS).mono ?_); rintro e w1 ⟨rfl, hS1⟩; replace hS := hS1; clear hS1) | ((with_reducible refine (At.op0 (H_a7.out _) emp_good hS).mono ?_); rintro e w1 ⟨rfl, hS1⟩; replace hS := hS1; clear hS1))
    | (go_at_call 18; first | ((with_reducible refine (At.op0 (H_a8.out _) emp_good hS).mono ?_); rintro e w1 ⟨rfl, hS1⟩; replace hS := hS1; clear hS1))
    | (go_at_call 9; (with_reducible refine (lnum _ _).mono ?_); rintro e w1 ⟨rfl, rfl⟩))
  go_ret
  exact ⟨rfl, hS.bel⟩
set_option maxRecDepth 100000 in
set_option maxHeartbeats 8000000 in
theorem kforms8 (K0 K1 K2 K3 K4 : Dk) (tKept tNil : ByteArray) (n x : Int) (m : Nat) (m1 : m ≤ 1023) (hm : bits .and .i64 x 1023 = (m : Int)) (hj : (IntKind.u64.wrap n).tmod 9 = 8)
    (h_lk : ∀ w : World, Calls Try.prog 11 #[.string ⟨#[107, 101, 112, 116]⟩] w fun e w' => e = .returned (.string tKept) ∧ Below w.heap.size w w')
    (h_ln : ∀ w : World, Calls Try.prog 11 #[.string ⟨#[]⟩] w fun e w' => e = .returned (.string tNil) ∧ Below w.heap.size w w')
    (h_n1 : ∀ w : World, Calls Try.prog 7 #[.int .i64 (1 - (1 + (m : Int)))] w fun e w' => e = .returned (.tuple #[.pointer none, .int .i64 800]) ∧ Below w.heap.size w w')
    (h_n2 : ∀ w : World, Calls Try.prog 7 #[.int .i64 (256 + (1 + (m : Int)))] w fun e w' => e = .returned (.tuple #[.pointer none, .int .i64 800]) ∧ Below w.heap.size w w')
    (h_n3 : ∀ w : World, Calls Try.prog 7 #[.int .i64 3] w fun e w' => ∃ p : Nat, e = .returned (.tuple #[.pointer (some ⟨p, 0, none⟩), .int .i64 0]) ∧ Becomes [] (dpA p K0) w w')
    (h_a1 : ∀ p : Nat, Does Try.prog (dpA p K0) 12 #[.pointer (some ⟨p, 0, none⟩), .int .i64 1, .string tKept] (.returned (.int .i64 0)) (dpA p K1))
    (h_a2 : ∀ p : Nat, Does Try.prog (dpA p K1) 14 #[.pointer (some ⟨p, 0, none⟩)] (.returned (.int .i64 0)) (dpA p K2))
    (h_a3 : ∀ p : Nat, Does Try.prog (dpA p K2) 22 #[.pointer (some ⟨p, 0, none⟩), .int .i64 1] (.returned (.tuple #[.string tKept, .int .i64 0])) (dpA p K2))
    (h_a4 : ∀ p : Nat, Does Try.prog (dpA p K2) 16 #[.pointer (some ⟨p, 0, none⟩), .int .i64 0, .int .i64 0] (.returned (.int .i64 0)) (dpA p K3))
    (h_a5 : ∀ p : Nat, Does Try.prog (dpA p K3) 12 #[.pointer (some ⟨p, 0, none⟩), .int .i64 1, .string tNil] (.returned (.int .i64 801)) (dpA p K3))
    (h_a6 : ∀ p : Nat, Does Try.prog (dpA p K3) 14 #[.pointer (some ⟨p, 0, none⟩)] (.returned (.int .i64 801)) (dpA p K3))
    (h_a7 : ∀ p : Nat, Does Try.prog (dpA p K3) 16 #[.pointer (some ⟨p, 0, none⟩), .int .i64 0, .int .i64 0] (.returned (.int .i64 801)) (dpA p K3))
    (h_a8 : ∀ p : Nat, Does Try.prog (dpA p K3) 18 #[.pointer (some ⟨p, 0, none⟩)] (.returned (.int .i64 0)) (dpA p K4))
    (h_a9 : ∀ p : Nat, Does Try.prog (dpA p K4) 22 #[.pointer (some ⟨p, 0, none⟩), .int .i64 1] (.returned (.tuple #[.string tKept, .int .i64 0])) (dpA p K4))
    (h_b : ∀ p : Nat, Does Try.prog (dpA p K2) 18 #[.pointer (some ⟨p, 0, none⟩)] (.returned (.int .i64 800)) (dpA p K2)) (w : World) :
    Calls Try.prog 4 #[.int .i64 n, .int .i64 x] w fun e w' => e = .returned (.bool true) ∧ Below w.heap.size w w' := by
  have H_lk := Lib.hid h_lk
  have H_ln := Lib.hid h_ln
  have H_n1 := Lib.hid h_n1
  have H_n2 := Lib.hid h_n2
  have H_n3 := Lib.hid h_n3
  have H_a1 := Lib.hid h_a1
  have H_a2 := Lib.hid h_a2
  have H_a3 := Lib.hid h_a3
  have H_a4 := Lib.hid h_a4
  have H_a5 := Lib.hid h_a5
  have H_a6 := Lib.hid h_a6
  have H_a7 := Lib.hid h_a7
  have H_a8 := Lib.hid h_a8
  have H_a9 := Lib.hid h_a9
  have H_b := Lib.hid h_b
  clear h_lk h_ln h_n1 h_n2 h_n3 h_a1 h_a2 h_a3 h_a4 h_a5 h_a6 h_a7 h_a8 h_a9 h_b
  have hB := Below.refl w.heap.size w
  go_enter Try.func4, Try.ntmps4
  go_wp2_with (first
    | (go_at_call 10; (with_reducible refine (awake8 _).mono ?_); rintro e w1 ⟨rfl, hb⟩; first | replace hS := hS.lay ((dpA_good _ _).star emp_good) hb | replace hB := hB.trans (hb.mono hB.size))
    | (go_at_call 7; first | ((with_reducible refine (H_n1.out _).mono ?_); rintro e w1 ⟨rfl, hb⟩; first | replace hS := hS.lay ((dpA_good _ _).star emp_good) hb | replace hB := hB.trans (hb.mono hB.size)) | ((with_reducible refine (H_n2.out _).mono ?_); rintro e w1 ⟨rfl, hb⟩; first | replace hS := hS.lay ((dpA_good _ _).star emp_good) hb | replace hB := hB.trans (hb.mono hB.size)) | ((with_reducible refine (H_n3.out _).mono ?_); rintro e w1 ⟨p, rfl, hb⟩; have hS : At w ((dpA p K0).star emp) w1 := At.add emp_good (At.none hB) hb; clear hb))
    | (go_at_call 11; first | ((with_reducible refine (H_lk.out _).mono ?_); rintro e w1 ⟨rfl, hb⟩; first | replace hS := hS.lay ((dpA_good _ _).star emp_good) hb | replace hB := hB.trans (hb.mono hB.size)) | ((with_reducible refine (H_ln.out _).mono ?_); rintro e w1 ⟨rfl, hb⟩; first | replace hS := hS.lay ((dpA_good _ _).star emp_good) hb | replace hB := hB.trans (hb.mono hB.size)))
    | (go_at_call 12; first | ((with_reducible refine (At.op0 (H_a1.out _) emp_good hS).mono ?_); rintro e w1 ⟨rfl, hS1⟩; replace hS := hS1; clear hS1) | ((with_reducible refine (At.op0 (H_a5.out _) emp_good hS).mono ?_); rintro e w1 ⟨rfl, hS1⟩; replace hS := hS1; clear hS1))
    | (go_at_call 14; first | ((with_reducible refine (At.op0 (H_a2.out _) emp_good hS).mono ?_); rintro e w1 ⟨rfl, hS1⟩; replace hS := hS1; clear hS1) | ((with_reducible refine (At.op0 (H_a6.out _) emp_good hS).mono ?_); rintro e w1 ⟨rfl, hS1⟩; replace hS := hS1; clear hS1))
    | (go_at_call 22; first | ((with_reducible refine (At.op0 (H_a3.out _) emp_good hS).mono ?_); rintro e w1 ⟨rfl, hS1⟩; replace hS := hS1; clear hS1) | ((with_reducible refine (At.op0 (H_a9.out _) emp_good hS).mono ?_); rintro e w1 ⟨rfl, hS1⟩; replace hS := hS1; clear hS1))
    | (go_at_call 16; first | ((with_reducible refine (At.op0 (H_a4.out _) emp_good hS).mono ?_); rintro e w1 ⟨rfl, hS1⟩; replace hS := hS1; clear hS1) | ((with_reducible refine (At.op0 (H_a7.out _) emp_good hS).mono ?_); rintro e w1 ⟨rfl, hS1⟩; replace hS := hS1; clear hS1))
    | (go_at_call 18; first | ((with_reducible refine (At.op0 (H_b.out _) emp_good hS).mono ?_); rintro e w1 ⟨rfl, hS1⟩; replace hS := hS1; clear hS1) | ((with_reducible refine (At.op0 (H_a8.out _) emp_good hS).mono ?_); rintro e w1 ⟨rfl, hS1⟩; replace hS := hS1; clear hS1))
    | (go_at_call 9; (with_reducible refine (lnum _ _).mono ?_); rintro e w1 ⟨rfl, rfl⟩))
  go_ret
  exact ⟨rfl, hS.bel⟩
end Go.Proofs.Ytlnliphejjfdeaa
