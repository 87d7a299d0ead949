/- The statements' samples over package record. Condition: the handle of the type error. -/
import Derived.Test.YtiebpjkppjollaaDoorRcprog
import Derived.Test.YtiebpjkppjollaaDoorBbk
import Derived.Test.YtiebpjkppjollaaDoorBme
namespace Go.Proofs.YtiebpjkppjollaaDoor
open Go Go.RowKit

def awR : Rc := ⟨1, 1, 0, ⟨2, 3, 0, 0, 0, 0, 0, 300⟩⟩
def awR2 : Rc := ⟨0, 1, 0, Ev.zero⟩
def awT : List ByteArray := rcT 9 [] awR
def awS : ByteArray := rcS 9 [] awR
def awS2 : ByteArray := ⟨#[2]⟩ ++ awS.extract 1 64
theorem aw9a (p : Nat) : DoesG Tryd.prog (bookA p 9 []) 14 #[.pointer (some ⟨p, 0, none⟩), awR.val] (.returned (.tuple #[.string awS, .int .i64 0, .int .i64 0])) (bookA p 9 awT) := (dpput p 9 [] awR (by decide)).to (by kernel_rfl) rfl
theorem aw9b (p : Nat) : DoesG Tryd.prog (bookA p 9 awT) 17 #[.pointer (some ⟨p, 0, none⟩), .string awS, .int .i64 1, .int .i64 0] (.returned (.tuple #[awR.val, .int .i64 0, .int .i64 0])) (bookA p 9 awT) := (dpget p 9 awT awS 1 0 (by decide +kernel)).to (by kernel_rfl) rfl
theorem aw9c (p : Nat) : DoesG Tryd.prog (bookA p 9 awT) 17 #[.pointer (some ⟨p, 0, none⟩), .string awS, .int .i64 2, .int .i64 0] (.returned (.tuple #[Rc.zero.val, .int .i64 0, .int .i64 901])) (bookA p 9 awT) := (dpget p 9 awT awS 2 0 (by decide +kernel)).to (by kernel_rfl) rfl
theorem aw9d (p : Nat) : DoesG Tryd.prog (bookA p 9 awT) 17 #[.pointer (some ⟨p, 0, none⟩), .string awS2, .int .i64 2, .int .i64 0] (.returned (.tuple #[Rc.zero.val, .int .i64 0, .int .i64 900])) (bookA p 9 awT) := (dpget p 9 awT awS2 2 0 (by decide +kernel)).to (by kernel_rfl) rfl
theorem aw9e (p : Nat) : DoesG Tryd.prog (bookA p 9 awT) 14 #[.pointer (some ⟨p, 0, none⟩), awR2.val] (.returned (.tuple #[.string ⟨#[]⟩, .int .i64 0, .int .i64 900])) (bookA p 9 awT) := (dpput p 9 awT awR2 (by decide +kernel)).to (by kernel_rfl) rfl
theorem aw9_16 : awS.extract 0 16 = ⟨#[1, 1, 1, 1, 0, 1, 7, 1, 2, 1, 3, 2, 1, 44, 0, 0]⟩ := by decide +kernel
set_option maxRecDepth 100000 in
set_option maxHeartbeats 8000000 in
theorem awake9_of (S S2 : ByteArray) (T : List ByteArray) (hS2 : ⟨#[2]⟩ ++ S.extract 1 64 = S2) (h64 : S.size = 64) (h16 : S.extract 0 16 = ⟨#[1, 1, 1, 1, 0, 1, 7, 1, 2, 1, 3, 2, 1, 44, 0, 0]⟩)
    (ha : ∀ p : Nat, DoesG Tryd.prog (bookA p 9 []) 14 #[.pointer (some ⟨p, 0, none⟩), awR.val] (.returned (.tuple #[.string S, .int .i64 0, .int .i64 0])) (bookA p 9 T))
    (hb : ∀ p : Nat, DoesG Tryd.prog (bookA p 9 T) 17 #[.pointer (some ⟨p, 0, none⟩), .string S, .int .i64 1, .int .i64 0] (.returned (.tuple #[awR.val, .int .i64 0, .int .i64 0])) (bookA p 9 T))
    (hc : ∀ p : Nat, DoesG Tryd.prog (bookA p 9 T) 17 #[.pointer (some ⟨p, 0, none⟩), .string S, .int .i64 2, .int .i64 0] (.returned (.tuple #[Rc.zero.val, .int .i64 0, .int .i64 901])) (bookA p 9 T))
    (hd : ∀ p : Nat, DoesG Tryd.prog (bookA p 9 T) 17 #[.pointer (some ⟨p, 0, none⟩), .string S2, .int .i64 2, .int .i64 0] (.returned (.tuple #[Rc.zero.val, .int .i64 0, .int .i64 900])) (bookA p 9 T))
    (he : ∀ p : Nat, DoesG Tryd.prog (bookA p 9 T) 14 #[.pointer (some ⟨p, 0, none⟩), awR2.val] (.returned (.tuple #[.string ⟨#[]⟩, .int .i64 0, .int .i64 900])) (bookA p 9 T))
    (w : World) (hg : Gd w) : Calls Tryd.prog 13 #[] w fun e w' => e = .returned (.bool true) ∧ Below w.heap.size w w' := by
  have HA := Lib.hid ha
  have HB := Lib.hid hb
  have HC := Lib.hid hc
  have HD := Lib.hid hd
  have HE := Lib.hid he
  have HN := Lib.hid (fun w => dpput_nil awR w)
  have HG := Lib.hid hg
  clear ha hb hc hd he hg
  simp only [Rc.val, awR, awR2, Rc.zero, Ev.zero] at HA HB HC HD HE HN
  go_enter Tryd.func13, Tryd.ntmps13
  go_wp2_with (first
    | (go_at_call 12; (with_reducible refine (twin_none 9 _ (by omega) (by omega)).mono ?_); rintro e w1 ⟨p, q, rfl, hb⟩; have hS := At.start hb; clear hb)
    | (go_at_call 14; first
        | ((with_reducible refine (At.op2G (HA.out _) (ownA_good _ _ _) (refA_good _ _ _) emp_good HG.out (hS.hold ((refA_good _ _ _).star (good1 _ _ _)) _ _)).mono ?_); rintro e w1 ⟨rfl, hS1⟩; replace hS := hS1; clear hS1; obtain ⟨e1, g1, l1⟩ := hS.own)
        | ((with_reducible refine (At.op3G (HE.out _) (ownA_good _ _ _) (ownA_good _ _ _) (refA_good _ _ _) emp_good HG.out hS).mono ?_); rintro e w1 ⟨rfl, hS1⟩; replace hS := hS1; clear hS1; obtain ⟨e1, g1, l1⟩ := hS.own; obtain ⟨e2, g2, l2⟩ := hS.drop.own)
        | ((with_reducible refine (At.op3G (HE.out _) (ownA_good _ _ _) (ownA_good _ _ _) (refA_good _ _ _) emp_good HG.out (At.lay1 ((ownA_good _ _ _).star ((ownA_good _ _ _).star ((refA_good _ _ _).star (good1 _ _ _)))) hS _)).mono ?_); rintro e w1 ⟨rfl, hS1⟩; replace hS := hS1; clear hS1; obtain ⟨e1, g1, l1⟩ := hS.own; obtain ⟨e2, g2, l2⟩ := hS.drop.own)
        | ((with_reducible refine (At.op3G (HE.out _) (ownA_good _ _ _) (ownA_good _ _ _) (refA_good _ _ _) emp_good HG.out (At.lay1 ((ownA_good _ _ _).star ((ownA_good _ _ _).star ((refA_good _ _ _).star (good1 _ _ _)))) (At.lay1 ((ownA_good _ _ _).star ((ownA_good _ _ _).star ((refA_good _ _ _).star (good1 _ _ _)))) hS _) _)).mono ?_); rintro e w1 ⟨rfl, hS1⟩; replace hS := hS1; clear hS1; obtain ⟨e1, g1, l1⟩ := hS.own; obtain ⟨e2, g2, l2⟩ := hS.drop.own)
        | ((with_reducible refine (HN.out _).mono ?_); rintro e w1 ⟨rfl, hb⟩; replace hS := hS.lay ((ownA_good _ _ _).star ((ownA_good _ _ _).star ((refA_good _ _ _).star (good1 _ _ _)))) hb; clear hb; obtain ⟨e1, g1, l1⟩ := hS.own; obtain ⟨e2, g2, l2⟩ := hS.drop.own))
    | (go_at_call 17; first
        | ((with_reducible refine (At.op2G (HB.out _) (ownA_good _ _ _) (refA_good _ _ _) emp_good HG.out hS).mono ?_); rintro e w1 ⟨rfl, hS1⟩; replace hS := hS1; clear hS1; obtain ⟨e1, g1, l1⟩ := hS.own)
        | ((with_reducible refine (At.op3G (HC.out _) (ownA_good _ _ _) (ownA_good _ _ _) (refA_good _ _ _) emp_good HG.out (hS.hold ((ownA_good _ _ _).star ((refA_good _ _ _).star (good1 _ _ _))) _ _)).mono ?_); rintro e w1 ⟨rfl, hS1⟩; replace hS := hS1; clear hS1; obtain ⟨e1, g1, l1⟩ := hS.own; obtain ⟨e2, g2, l2⟩ := hS.drop.own)
        | ((with_reducible refine (At.op3G (HD.out _) (ownA_good _ _ _) (ownA_good _ _ _) (refA_good _ _ _) emp_good HG.out hS).mono ?_); rintro e w1 ⟨rfl, hS1⟩; replace hS := hS1; clear hS1; obtain ⟨e1, g1, l1⟩ := hS.own; obtain ⟨e2, g2, l2⟩ := hS.drop.own)
        | ((with_reducible refine (At.op3G (HD.out _) (ownA_good _ _ _) (ownA_good _ _ _) (refA_good _ _ _) emp_good HG.out (At.lay1 ((ownA_good _ _ _).star ((ownA_good _ _ _).star ((refA_good _ _ _).star (good1 _ _ _)))) hS _)).mono ?_); rintro e w1 ⟨rfl, hS1⟩; replace hS := hS1; clear hS1; obtain ⟨e1, g1, l1⟩ := hS.own; obtain ⟨e2, g2, l2⟩ := hS.drop.own)
        | ((with_reducible refine (At.op3G (HD.out _) (ownA_good _ _ _) (ownA_good _ _ _) (refA_good _ _ _) emp_good HG.out (At.lay1 ((ownA_good _ _ _).star ((ownA_good _ _ _).star ((refA_good _ _ _).star (good1 _ _ _)))) (At.lay1 ((ownA_good _ _ _).star ((ownA_good _ _ _).star ((refA_good _ _ _).star (good1 _ _ _)))) hS _) _)).mono ?_); rintro e w1 ⟨rfl, hS1⟩; replace hS := hS1; clear hS1; obtain ⟨e1, g1, l1⟩ := hS.own; obtain ⟨e2, g2, l2⟩ := hS.drop.own))
    | (go_at_call 16; (with_reducible refine (lnum _ _).mono ?_); rintro e w1 ⟨rfl, rfl⟩))
  go_ret
  exact ⟨rfl, hS.bel⟩
theorem awake9 (w : World) (hg : Gd w) : Calls Tryd.prog 13 #[] w fun e w' => e = .returned (.bool true) ∧ Below w.heap.size w w' :=
  awake9_of awS awS2 awT rfl (by decide +kernel) aw9_16 aw9a aw9b aw9c aw9d aw9e w hg
end Go.Proofs.YtiebpjkppjollaaDoor
