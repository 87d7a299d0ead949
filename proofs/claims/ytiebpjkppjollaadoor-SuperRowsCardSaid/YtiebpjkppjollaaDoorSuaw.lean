/- The statements' samples over package super. Condition: the handle of the type error. -/
import Derived.Test.YtiebpjkppjollaaDoorSuk
import Derived.Test.YtiebpjkppjollaaDoorTw10
import Derived.Test.YtiebpjkppjollaaDoorBme
namespace Go.Proofs.YtiebpjkppjollaaDoor
open Go Go.RowKit

def awS1 : ByteArray := suS 9 [] 3
def awT1 : List ByteArray := suT 9 [] 3
def awS2' : ByteArray := suS 9 awT1 300
def awT2 : List ByteArray := suT 9 awT1 300
abbrev tornS : ByteArray := ⟨#[116, 111, 114, 110]⟩
theorem aw10a (p : Nat) : DoesG Tryd.prog (bookA p 9 []) 24 #[.pointer (some ⟨p, 0, none⟩), .int .i64 3] (.returned (.tuple #[.string awS1, .int .i64 0])) (bookA p 9 awT1) := (dsput p 9 [] 3 (by decide)).g.to (by kernel_rfl) rfl
theorem aw10b (p : Nat) : DoesG Tryd.prog (bookA p 9 awT1) 24 #[.pointer (some ⟨p, 0, none⟩), .int .i64 300] (.returned (.tuple #[.string awS2', .int .i64 0])) (bookA p 9 awT2) := (dsput p 9 awT1 300 (by decide +kernel)).g.to (by kernel_rfl) rfl
theorem aw10c (p : Nat) : DoesG Tryd.prog (bookA p 9 awT2) 26 #[.pointer (some ⟨p, 0, none⟩), .string awS2'] (.returned (.tuple #[.int .i64 300, .int .i64 0])) (bookA p 9 awT2) := (dsget p 9 awT2 awS2' (by decide +kernel)).to (by kernel_rfl) rfl
theorem aw10d (p : Nat) : DoesG Tryd.prog (bookA p 9 awT2) 24 #[.pointer (some ⟨p, 0, none⟩), .int .i64 0] (.returned (.tuple #[.string ⟨#[]⟩, .int .i64 1000])) (bookA p 9 awT2) := (dsput p 9 awT2 0 (by decide +kernel)).g.to (by kernel_rfl) rfl
theorem aw10e (p : Nat) : DoesG Tryd.prog (bookA p 9 awT2) 28 #[.pointer (some ⟨p, 0, none⟩), .string awS1, .string awS2'] (.returned (.tuple #[.int .i64 300, .int .i64 0, .int .i64 0])) (bookA p 9 awT2) := (dspick p 9 awT2 awS1 awS2' (by decide +kernel) (by decide +kernel)).to (by kernel_rfl) rfl
theorem aw10f (p : Nat) : DoesG Tryd.prog (bookA p 9 awT2) 28 #[.pointer (some ⟨p, 0, none⟩), .string ⟨#[]⟩, .string ⟨#[]⟩] (.returned (.tuple #[.int .i64 0, .int .i64 0, .int .i64 1001])) (bookA p 9 awT2) := (dspick p 9 awT2 ⟨#[]⟩ ⟨#[]⟩ (by decide +kernel) (by decide +kernel)).to (by kernel_rfl) rfl
theorem aw10g (p : Nat) : DoesG Tryd.prog (bookA p 9 awT2) 28 #[.pointer (some ⟨p, 0, none⟩), .string awS1, .string tornS] (.returned (.tuple #[.int .i64 3, .int .i64 1, .int .i64 0])) (bookA p 9 awT2) := (dspick p 9 awT2 awS1 tornS (by decide +kernel) (by decide +kernel)).to (by kernel_rfl) rfl
theorem aw10_3 : awS1.extract 0 3 = ⟨#[1, 3, 0]⟩ := by decide +kernel
set_option maxRecDepth 100000 in
set_option maxHeartbeats 8000000 in
theorem awake10_of (S U : ByteArray) (T1 T2 : List ByteArray) (h64 : S.size = 64) (h3 : S.extract 0 3 = ⟨#[1, 3, 0]⟩)
    (ha : ∀ p : Nat, DoesG Tryd.prog (bookA p 9 []) 24 #[.pointer (some ⟨p, 0, none⟩), .int .i64 3] (.returned (.tuple #[.string S, .int .i64 0])) (bookA p 9 T1))
    (hb : ∀ p : Nat, DoesG Tryd.prog (bookA p 9 T1) 24 #[.pointer (some ⟨p, 0, none⟩), .int .i64 300] (.returned (.tuple #[.string U, .int .i64 0])) (bookA p 9 T2))
    (hc : ∀ p : Nat, DoesG Tryd.prog (bookA p 9 T2) 26 #[.pointer (some ⟨p, 0, none⟩), .string U] (.returned (.tuple #[.int .i64 300, .int .i64 0])) (bookA p 9 T2))
    (hd : ∀ p : Nat, DoesG Tryd.prog (bookA p 9 T2) 24 #[.pointer (some ⟨p, 0, none⟩), .int .i64 0] (.returned (.tuple #[.string ⟨#[]⟩, .int .i64 1000])) (bookA p 9 T2))
    (he : ∀ p : Nat, DoesG Tryd.prog (bookA p 9 T2) 28 #[.pointer (some ⟨p, 0, none⟩), .string S, .string U] (.returned (.tuple #[.int .i64 300, .int .i64 0, .int .i64 0])) (bookA p 9 T2))
    (hf : ∀ p : Nat, DoesG Tryd.prog (bookA p 9 T2) 28 #[.pointer (some ⟨p, 0, none⟩), .string ⟨#[]⟩, .string ⟨#[]⟩] (.returned (.tuple #[.int .i64 0, .int .i64 0, .int .i64 1001])) (bookA p 9 T2))
    (hh : ∀ p : Nat, DoesG Tryd.prog (bookA p 9 T2) 28 #[.pointer (some ⟨p, 0, none⟩), .string S, .string ⟨#[116, 111, 114, 110]⟩] (.returned (.tuple #[.int .i64 3, .int .i64 1, .int .i64 0])) (bookA p 9 T2))
    (w : World) (hg : Gd w) : Calls Tryd.prog 23 #[] w fun e w' => e = .returned (.bool true) ∧ Below w.heap.size w w' := by
  have HA := Lib.hid ha
  have HB := Lib.hid hb
  have HC := Lib.hid hc
  have HD := Lib.hid hd
  have HE := Lib.hid he
  have HF := Lib.hid hf
  have HH := Lib.hid hh
  have HN := Lib.hid (fun w => dsget_nil S w)
  have HG := Lib.hid hg
  clear ha hb hc hd he hf hh hg
  go_enter Tryd.func23, Tryd.ntmps23
  go_wp2_with (first
    | (go_at_call 22; (with_reducible refine (twin_none10 9 _ (by omega) (by omega)).mono ?_); rintro e w1 ⟨p, q, rfl, hb⟩; have hS := At.start hb; clear hb)
    | (go_at_call 24; first
        | ((with_reducible refine (At.op1G (HA.out _) (refA_good _ _ _) emp_good HG.out hS).mono ?_); rintro e w1 ⟨rfl, hS1⟩; replace hS := hS1; clear hS1)
        | ((with_reducible refine (At.op1G (HB.out _) (refA_good _ _ _) emp_good HG.out hS).mono ?_); rintro e w1 ⟨rfl, hS1⟩; replace hS := hS1; clear hS1)
        | ((with_reducible refine (At.op1G (HD.out _) (refA_good _ _ _) emp_good HG.out hS).mono ?_); rintro e w1 ⟨rfl, hS1⟩; replace hS := hS1; clear hS1))
    | (go_at_call 26; first
        | ((with_reducible refine (At.op1G (HC.out _) (refA_good _ _ _) emp_good HG.out hS).mono ?_); rintro e w1 ⟨rfl, hS1⟩; replace hS := hS1; clear hS1)
        | ((with_reducible refine (HN.out _).mono ?_); rintro e w1 ⟨rfl, rfl⟩))
    | (go_at_call 28; first
        | ((with_reducible refine (At.op1G (HE.out _) (refA_good _ _ _) emp_good HG.out hS).mono ?_); rintro e w1 ⟨rfl, hS1⟩; replace hS := hS1; clear hS1)
        | ((with_reducible refine (At.op1G (HF.out _) (refA_good _ _ _) emp_good HG.out hS).mono ?_); rintro e w1 ⟨rfl, hS1⟩; replace hS := hS1; clear hS1)
        | ((with_reducible refine (At.op1G (HH.out _) (refA_good _ _ _) emp_good HG.out hS).mono ?_); rintro e w1 ⟨rfl, hS1⟩; replace hS := hS1; clear hS1))
    | (go_at_call 16; (with_reducible refine (lnum _ _).mono ?_); rintro e w1 ⟨rfl, rfl⟩))
  go_ret
  exact ⟨rfl, hS.bel⟩
theorem awake10 (w : World) (hg : Gd w) : Calls Tryd.prog 23 #[] w fun e w' => e = .returned (.bool true) ∧ Below w.heap.size w w' :=
  awake10_of awS1 awS2' awT1 awT2 (by decide +kernel) aw10_3 aw10a aw10b aw10c aw10d aw10e aw10f aw10g w hg
end Go.Proofs.YtiebpjkppjollaaDoor
