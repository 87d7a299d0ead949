/- The statements' samples over package disk. No condition. -/
import Derived.Test.YtlnliphejjfdeaaLnum
import Derived.Test.YtlnliphejjfdeaaSep2
import Derived.Test.YtlnliphejjfdeaaKdsk
import Derived.Test.YtlnliphejjfdeaaKlaw
namespace Go.Proofs.Ytlnliphejjfdeaa
open Go Go.RowKit

def sOne : ByteArray := secOf ⟨#[111, 110, 101]⟩
def sTwo : ByteArray := secOf ⟨#[116, 119, 111]⟩
def sThree : ByteArray := secOf ⟨#[116, 104, 114, 101, 101]⟩
def sTne : ByteArray := secOf ⟨#[116, 110, 101]⟩
def sNil : ByteArray := secOf ⟨#[]⟩
def sX : ByteArray := ⟨#[120]⟩
theorem lsec_sOne (w : World) : Calls Try.prog 11 #[.string ⟨#[111, 110, 101]⟩] w fun e w' => e = .returned (.string sOne) ∧ Below w.heap.size w w' := lsector ⟨#[111, 110, 101]⟩ w (by decide)
theorem lsec_sTwo (w : World) : Calls Try.prog 11 #[.string ⟨#[116, 119, 111]⟩] w fun e w' => e = .returned (.string sTwo) ∧ Below w.heap.size w w' := lsector ⟨#[116, 119, 111]⟩ w (by decide)
theorem lsec_sThree (w : World) : Calls Try.prog 11 #[.string ⟨#[116, 104, 114, 101, 101]⟩] w fun e w' => e = .returned (.string sThree) ∧ Below w.heap.size w w' := lsector ⟨#[116, 104, 114, 101, 101]⟩ w (by decide)
theorem lsec_sTne (w : World) : Calls Try.prog 11 #[.string ⟨#[116, 110, 101]⟩] w fun e w' => e = .returned (.string sTne) ∧ Below w.heap.size w w' := lsector ⟨#[116, 110, 101]⟩ w (by decide)
theorem lsec_sNil (w : World) : Calls Try.prog 11 #[.string ⟨#[]⟩] w fun e w' => e = .returned (.string sNil) ∧ Below w.heap.size w w' := lsector ⟨#[]⟩ w (by decide)
def awK0 : Dk := Dk.new 2
def awK1 : Dk := awK0.wr 0 sOne
def awK2 : Dk := awK1.fl
def awK3 : Dk := awK2.wr 0 sTwo
def awK4 : Dk := awK3.wr 1 sThree
def awK5 : Dk := awK4.cr 2 1
def awK6 : Dk := awK5.rs
theorem ak1 (p : Nat) : Does Try.prog (dpA p awK0) 12 #[.pointer (some ⟨p, 0, none⟩), .int .i64 0, .string sOne] (.returned (.int .i64 0)) (dpA p awK1) := (kpwrite p awK0 0 sOne (by decide)).to (by kernel_rfl) (by kernel_rfl)
theorem ak2 (p : Nat) : Does Try.prog (dpA p awK1) 14 #[.pointer (some ⟨p, 0, none⟩)] (.returned (.int .i64 0)) (dpA p awK2) := (kpflush p awK1).to (by kernel_rfl) (by kernel_rfl)
theorem ak3 (p : Nat) : Does Try.prog (dpA p awK2) 12 #[.pointer (some ⟨p, 0, none⟩), .int .i64 0, .string sTwo] (.returned (.int .i64 0)) (dpA p awK3) := (kpwrite p awK2 0 sTwo (by decide)).to (by kernel_rfl) (by kernel_rfl)
theorem ak4 (p : Nat) : Does Try.prog (dpA p awK3) 12 #[.pointer (some ⟨p, 0, none⟩), .int .i64 1, .string sThree] (.returned (.int .i64 0)) (dpA p awK4) := (kpwrite p awK3 1 sThree (by decide)).to (by kernel_rfl) (by kernel_rfl)
theorem ak5 (p : Nat) : Does Try.prog (dpA p awK4) 22 #[.pointer (some ⟨p, 0, none⟩), .int .i64 0] (.returned (.tuple #[.string sTwo, .int .i64 0])) (dpA p awK4) := (kpread p awK4 0).to (by kernel_rfl) rfl
theorem ak6 (p : Nat) : Does Try.prog (dpA p awK4) 20 #[.pointer (some ⟨p, 0, none⟩)] (.returned (.int .i64 2)) (dpA p awK4) := (kpwaits p awK4).to (by kernel_rfl) rfl
theorem ak7 (p : Nat) : Does Try.prog (dpA p awK4) 16 #[.pointer (some ⟨p, 0, none⟩), .int .i64 2, .int .i64 1] (.returned (.int .i64 0)) (dpA p awK5) := (kpcrash p awK4 2 1 (by decide) (by decide)).to (by kernel_rfl) (by kernel_rfl)
theorem ak8 (p : Nat) : Does Try.prog (dpA p awK5) 22 #[.pointer (some ⟨p, 0, none⟩), .int .i64 0] (.returned (.tuple #[.string ⟨#[]⟩, .int .i64 801])) (dpA p awK5) := (kpread p awK5 0).to (by kernel_rfl) rfl
theorem ak9 (p : Nat) : Does Try.prog (dpA p awK5) 18 #[.pointer (some ⟨p, 0, none⟩)] (.returned (.int .i64 0)) (dpA p awK6) := (kprestart p awK5).to (by kernel_rfl) (by kernel_rfl)
theorem ak10 (p : Nat) : Does Try.prog (dpA p awK6) 22 #[.pointer (some ⟨p, 0, none⟩), .int .i64 0] (.returned (.tuple #[.string sTne, .int .i64 0])) (dpA p awK6) := (kpread p awK6 0).to (by kernel_rfl) rfl
theorem ak11 (p : Nat) : Does Try.prog (dpA p awK6) 22 #[.pointer (some ⟨p, 0, none⟩), .int .i64 1] (.returned (.tuple #[.string sThree, .int .i64 0])) (dpA p awK6) := (kpread p awK6 1).to (by kernel_rfl) rfl
theorem ak12 (p : Nat) : Does Try.prog (dpA p awK6) 12 #[.pointer (some ⟨p, 0, none⟩), .int .i64 2, .string sNil] (.returned (.int .i64 800)) (dpA p awK6) := (kpwrite p awK6 2 sNil (by decide)).to (by kernel_rfl) rfl
theorem ak13 (p : Nat) : Does Try.prog (dpA p awK6) 12 #[.pointer (some ⟨p, 0, none⟩), .int .i64 0, .string ⟨#[120]⟩] (.returned (.int .i64 800)) (dpA p awK6) := (kpwrite p awK6 0 ⟨#[120]⟩ (by decide)).to (by kernel_rfl) rfl
theorem ak14 (p : Nat) : Does Try.prog (dpA p awK6) 20 #[.pointer (some ⟨p, 0, none⟩)] (.returned (.int .i64 0)) (dpA p awK6) := (kpwaits p awK6).to (by kernel_rfl) rfl
theorem knew2 (w : World) : Calls Try.prog 7 #[.int .i64 2] w fun e w' => ∃ p : Nat, e = .returned (.tuple #[.pointer (some ⟨p, 0, none⟩), .int .i64 0]) ∧ Becomes [] (dpA p awK0) w w' := kpnew_ok 2 w (by decide) (by decide)

set_option maxRecDepth 100000 in
set_option maxHeartbeats 8000000 in
/-- The walk, the disk's states by letters. -/
theorem awake8_of (K0 K1 K2 K3 K4 K5 K6 : Dk) (tOne tTwo tThree tTne tNil : ByteArray)
    (h_lsec_sOne : ∀ (w : World), Calls Try.prog 11 #[.string ⟨#[111, 110, 101]⟩] w fun e w' => e = .returned (.string tOne) ∧ Below w.heap.size w w')
    (h_lsec_sTwo : ∀ (w : World), Calls Try.prog 11 #[.string ⟨#[116, 119, 111]⟩] w fun e w' => e = .returned (.string tTwo) ∧ Below w.heap.size w w')
    (h_lsec_sThree : ∀ (w : World), Calls Try.prog 11 #[.string ⟨#[116, 104, 114, 101, 101]⟩] w fun e w' => e = .returned (.string tThree) ∧ Below w.heap.size w w')
    (h_lsec_sTne : ∀ (w : World), Calls Try.prog 11 #[.string ⟨#[116, 110, 101]⟩] w fun e w' => e = .returned (.string tTne) ∧ Below w.heap.size w w')
    (h_lsec_sNil : ∀ (w : World), Calls Try.prog 11 #[.string ⟨#[]⟩] w fun e w' => e = .returned (.string tNil) ∧ Below w.heap.size w w')
    (h_ak1 : ∀ (p : Nat), Does Try.prog (dpA p K0) 12 #[.pointer (some ⟨p, 0, none⟩), .int .i64 0, .string tOne] (.returned (.int .i64 0)) (dpA p K1))
    (h_ak2 : ∀ (p : Nat), Does Try.prog (dpA p K1) 14 #[.pointer (some ⟨p, 0, none⟩)] (.returned (.int .i64 0)) (dpA p K2))
    (h_ak3 : ∀ (p : Nat), Does Try.prog (dpA p K2) 12 #[.pointer (some ⟨p, 0, none⟩), .int .i64 0, .string tTwo] (.returned (.int .i64 0)) (dpA p K3))
    (h_ak4 : ∀ (p : Nat), Does Try.prog (dpA p K3) 12 #[.pointer (some ⟨p, 0, none⟩), .int .i64 1, .string tThree] (.returned (.int .i64 0)) (dpA p K4))
    (h_ak5 : ∀ (p : Nat), Does Try.prog (dpA p K4) 22 #[.pointer (some ⟨p, 0, none⟩), .int .i64 0] (.returned (.tuple #[.string tTwo, .int .i64 0])) (dpA p K4))
    (h_ak6 : ∀ (p : Nat), Does Try.prog (dpA p K4) 20 #[.pointer (some ⟨p, 0, none⟩)] (.returned (.int .i64 2)) (dpA p K4))
    (h_ak7 : ∀ (p : Nat), Does Try.prog (dpA p K4) 16 #[.pointer (some ⟨p, 0, none⟩), .int .i64 2, .int .i64 1] (.returned (.int .i64 0)) (dpA p K5))
    (h_ak8 : ∀ (p : Nat), Does Try.prog (dpA p K5) 22 #[.pointer (some ⟨p, 0, none⟩), .int .i64 0] (.returned (.tuple #[.string ⟨#[]⟩, .int .i64 801])) (dpA p K5))
    (h_ak9 : ∀ (p : Nat), Does Try.prog (dpA p K5) 18 #[.pointer (some ⟨p, 0, none⟩)] (.returned (.int .i64 0)) (dpA p K6))
    (h_ak10 : ∀ (p : Nat), Does Try.prog (dpA p K6) 22 #[.pointer (some ⟨p, 0, none⟩), .int .i64 0] (.returned (.tuple #[.string tTne, .int .i64 0])) (dpA p K6))
    (h_ak11 : ∀ (p : Nat), Does Try.prog (dpA p K6) 22 #[.pointer (some ⟨p, 0, none⟩), .int .i64 1] (.returned (.tuple #[.string tThree, .int .i64 0])) (dpA p K6))
    (h_ak12 : ∀ (p : Nat), Does Try.prog (dpA p K6) 12 #[.pointer (some ⟨p, 0, none⟩), .int .i64 2, .string tNil] (.returned (.int .i64 800)) (dpA p K6))
    (h_ak13 : ∀ (p : Nat), Does Try.prog (dpA p K6) 12 #[.pointer (some ⟨p, 0, none⟩), .int .i64 0, .string ⟨#[120]⟩] (.returned (.int .i64 800)) (dpA p K6))
    (h_ak14 : ∀ (p : Nat), Does Try.prog (dpA p K6) 20 #[.pointer (some ⟨p, 0, none⟩)] (.returned (.int .i64 0)) (dpA p K6))
    (h_knew2 : ∀ (w : World), Calls Try.prog 7 #[.int .i64 2] w fun e w' => ∃ p : Nat, e = .returned (.tuple #[.pointer (some ⟨p, 0, none⟩), .int .i64 0]) ∧ Becomes [] (dpA p K0) w w') (w : World) :
    Calls Try.prog 10 #[] w fun e w' => e = .returned (.bool true) ∧ Below w.heap.size w w' := by
  have H_lsec_sOne := Lib.hid h_lsec_sOne
  have H_lsec_sTwo := Lib.hid h_lsec_sTwo
  have H_lsec_sThree := Lib.hid h_lsec_sThree
  have H_lsec_sTne := Lib.hid h_lsec_sTne
  have H_lsec_sNil := Lib.hid h_lsec_sNil
  have H_ak1 := Lib.hid h_ak1
  have H_ak2 := Lib.hid h_ak2
  have H_ak3 := Lib.hid h_ak3
  have H_ak4 := Lib.hid h_ak4
  have H_ak5 := Lib.hid h_ak5
  have H_ak6 := Lib.hid h_ak6
  have H_ak7 := Lib.hid h_ak7
  have H_ak8 := Lib.hid h_ak8
  have H_ak9 := Lib.hid h_ak9
  have H_ak10 := Lib.hid h_ak10
  have H_ak11 := Lib.hid h_ak11
  have H_ak12 := Lib.hid h_ak12
  have H_ak13 := Lib.hid h_ak13
  have H_ak14 := Lib.hid h_ak14
  have H_knew2 := Lib.hid h_knew2
  clear h_lsec_sOne h_lsec_sTwo h_lsec_sThree h_lsec_sTne h_lsec_sNil h_ak1 h_ak2 h_ak3 h_ak4 h_ak5 h_ak6 h_ak7 h_ak8 h_ak9 h_ak10 h_ak11 h_ak12 h_ak13 h_ak14 h_knew2
  go_enter Try.func10, Try.ntmps10
  go_wp2_with (first
    | (go_at_call 7; first | ((with_reducible refine (H_knew2.out _).mono ?_); rintro e w1 ⟨p, rfl, hb⟩; have hS : At w ((dpA p K0).star emp) w1 := At.add emp_good (At.none (Below.refl _ _)) hb; clear hb) | ((with_reducible refine (kpnew_bad 0 _ (by decide)).mono ?_); rintro e w1 ⟨rfl, hb⟩; replace hS := hS.lay ((dpA_good _ _).star emp_good) hb; clear hb))
    | (go_at_call 11; first | ((with_reducible refine (H_lsec_sOne.out _).mono ?_); rintro e w1 ⟨rfl, hb⟩; replace hS := hS.lay ((dpA_good _ _).star emp_good) hb; clear hb) | ((with_reducible refine (H_lsec_sTwo.out _).mono ?_); rintro e w1 ⟨rfl, hb⟩; replace hS := hS.lay ((dpA_good _ _).star emp_good) hb; clear hb) | ((with_reducible refine (H_lsec_sThree.out _).mono ?_); rintro e w1 ⟨rfl, hb⟩; replace hS := hS.lay ((dpA_good _ _).star emp_good) hb; clear hb) | ((with_reducible refine (H_lsec_sTne.out _).mono ?_); rintro e w1 ⟨rfl, hb⟩; replace hS := hS.lay ((dpA_good _ _).star emp_good) hb; clear hb) | ((with_reducible refine (H_lsec_sNil.out _).mono ?_); rintro e w1 ⟨rfl, hb⟩; replace hS := hS.lay ((dpA_good _ _).star emp_good) hb; clear hb))
    | (go_at_call 12; first | ((with_reducible refine (At.op0 (H_ak1.out _) emp_good hS).mono ?_); rintro e w1 ⟨rfl, hS1⟩; replace hS := hS1; clear hS1) | ((with_reducible refine (At.op0 (H_ak3.out _) emp_good hS).mono ?_); rintro e w1 ⟨rfl, hS1⟩; replace hS := hS1; clear hS1) | ((with_reducible refine (At.op0 (H_ak4.out _) emp_good hS).mono ?_); rintro e w1 ⟨rfl, hS1⟩; replace hS := hS1; clear hS1) | ((with_reducible refine (At.op0 (H_ak12.out _) emp_good hS).mono ?_); rintro e w1 ⟨rfl, hS1⟩; replace hS := hS1; clear hS1) | ((with_reducible refine (At.op0 (H_ak13.out _) emp_good hS).mono ?_); rintro e w1 ⟨rfl, hS1⟩; replace hS := hS1; clear hS1))
    | (go_at_call 14; first | ((with_reducible refine (At.op0 (H_ak2.out _) emp_good hS).mono ?_); rintro e w1 ⟨rfl, hS1⟩; replace hS := hS1; clear hS1))
    | (go_at_call 22; first | ((with_reducible refine (At.op0 (H_ak5.out _) emp_good hS).mono ?_); rintro e w1 ⟨rfl, hS1⟩; replace hS := hS1; clear hS1) | ((with_reducible refine (At.op0 (H_ak8.out _) emp_good hS).mono ?_); rintro e w1 ⟨rfl, hS1⟩; replace hS := hS1; clear hS1) | ((with_reducible refine (At.op0 (H_ak10.out _) emp_good hS).mono ?_); rintro e w1 ⟨rfl, hS1⟩; replace hS := hS1; clear hS1) | ((with_reducible refine (At.op0 (H_ak11.out _) emp_good hS).mono ?_); rintro e w1 ⟨rfl, hS1⟩; replace hS := hS1; clear hS1))
    | (go_at_call 20; first | ((with_reducible refine (At.op0 (H_ak6.out _) emp_good hS).mono ?_); rintro e w1 ⟨rfl, hS1⟩; replace hS := hS1; clear hS1) | ((with_reducible refine (At.op0 (H_ak14.out _) emp_good hS).mono ?_); rintro e w1 ⟨rfl, hS1⟩; replace hS := hS1; clear hS1))
    | (go_at_call 16; first | ((with_reducible refine (At.op0 (H_ak7.out _) emp_good hS).mono ?_); rintro e w1 ⟨rfl, hS1⟩; replace hS := hS1; clear hS1))
    | (go_at_call 18; first | ((with_reducible refine (At.op0 (H_ak9.out _) emp_good hS).mono ?_); rintro e w1 ⟨rfl, hS1⟩; replace hS := hS1; clear hS1))
    | (go_at_call 9; (with_reducible refine (lnum _ _).mono ?_); rintro e w1 ⟨rfl, rfl⟩))
  go_ret
  exact ⟨rfl, hS.bel⟩
theorem awake8 (w : World) : Calls Try.prog 10 #[] w fun e w' => e = .returned (.bool true) ∧ Below w.heap.size w w' :=
  awake8_of awK0 awK1 awK2 awK3 awK4 awK5 awK6 sOne sTwo sThree sTne sNil lsec_sOne lsec_sTwo lsec_sThree lsec_sTne lsec_sNil ak1 ak2 ak3 ak4 ak5 ak6 ak7 ak8 ak9 ak10 ak11 ak12 ak13 ak14 knew2 w
end Go.Proofs.Ytlnliphejjfdeaa
