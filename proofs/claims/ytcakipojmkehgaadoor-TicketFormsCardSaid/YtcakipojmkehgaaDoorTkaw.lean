/- Chapter 15's 'awake' answers true. Condition: the handle of the type error. -/
import Derived.Test.YtcakipojmkehgaaDoorTku
import Derived.Test.YtcakipojmkehgaaDoorTkl
import Derived.Test.YtcakipojmkehgaaDoorTw15
import Derived.Test.YtcakipojmkehgaaDoorLnum
namespace Go.Proofs.YtcakipojmkehgaaDoor
open Go Go.RowKit Go.Maps

abbrev tkt4 : ByteArray := ⟨#[65, 101, 112, 111, 99, 104, 1, 4]⟩
abbrev tks4 : ByteArray := ⟨#[83, 0, 1, 2, 1, 1, 2, 1, 244, 1, 7, 1, 3]⟩
abbrev tkv5 (u g x s k : Int) : Value := .agg #[.int .i64 u, .int .i64 g, .int .i64 x, .int .i64 s, .int .i64 k]
theorem tkw1 (p : Nat) : Does Tryd.prog (bookA p 9 []) 10 #[.pointer (some ⟨p, 0, none⟩), .int .i64 4, .agg #[.int .i64 2, .int .i64 1, .int .i64 500, .int .i64 7, .int .i64 3]] (.returned (.tuple #[.int .i64 1, .int .i64 0])) (bookA p 9 [tkt4, tks4]) :=
  (dtput p 9 [] 4 ⟨2, 1, 500, 7, 3⟩ (by decide) (by decide)).to (by kernel_rfl) (congrArg (bookA p 9) (by kernel_rfl))
theorem tkw2 (p : Nat) : DoesG Tryd.prog (bookA p 9 [tkt4, tks4]) 12 #[.pointer (some ⟨p, 0, none⟩), .int .i64 5, .int .i64 1, .int .i64 1] (.returned (.tuple #[.agg #[.int .i64 2, .int .i64 1, .int .i64 500, .int .i64 7, .int .i64 3], .int .i64 0])) (bookA p 9 [tkt4, tks4]) :=
  (dtget p 9 [tkt4, tks4] 5 1 1).to (by kernel_rfl) rfl
theorem tkw3 (p : Nat) : DoesG Tryd.prog (bookA p 9 [tkt4, tks4]) 12 #[.pointer (some ⟨p, 0, none⟩), .int .i64 6, .int .i64 1, .int .i64 1] (.returned (.tuple #[.agg #[.int .i64 0, .int .i64 0, .int .i64 0, .int .i64 0, .int .i64 0], .int .i64 1501])) (bookA p 9 [tkt4, tks4]) :=
  (dtget p 9 [tkt4, tks4] 6 1 1).to (by kernel_rfl) rfl
theorem tkw4 (p : Nat) : DoesG Tryd.prog (bookA p 9 [tkt4, tks4]) 12 #[.pointer (some ⟨p, 0, none⟩), .int .i64 3, .int .i64 1, .int .i64 1] (.returned (.tuple #[.agg #[.int .i64 0, .int .i64 0, .int .i64 0, .int .i64 0, .int .i64 0], .int .i64 1501])) (bookA p 9 [tkt4, tks4]) :=
  (dtget p 9 [tkt4, tks4] 3 1 1).to (by kernel_rfl) rfl
theorem tkw5 (p : Nat) : Does Tryd.prog (bookA p 9 [tkt4, tks4]) 10 #[.pointer (some ⟨p, 0, none⟩), .int .i64 4, .agg #[.int .i64 8, .int .i64 0, .int .i64 0, .int .i64 0, .int .i64 0]] (.returned (.tuple #[.int .i64 0, .int .i64 1500])) (bookA p 9 [tkt4, tks4]) :=
  (dtput p 9 [tkt4, tks4] 4 ⟨8, 0, 0, 0, 0⟩ (by decide) (by decide)).to (by kernel_rfl) (congrArg (bookA p 9) (by kernel_rfl))
theorem tkw6 (p : Nat) : DoesG Tryd.prog (bookA p 9 [tkt4, tks4]) 12 #[.pointer (some ⟨p, 0, none⟩), .int .i64 4, .int .i64 1, .int .i64 2] (.returned (.tuple #[.agg #[.int .i64 0, .int .i64 0, .int .i64 0, .int .i64 0, .int .i64 0], .int .i64 1501])) (bookA p 9 [tkt4, tks4]) :=
  (dtget p 9 [tkt4, tks4] 4 1 2).to (by kernel_rfl) rfl

theorem rb_good (p q : Nat) (m n : Int) (ts us : List ByteArray) : ((refA q m ts).star ((bookA p n us).star emp)).Good := (refA_good _ _ _).star (good1 _ _ _)
set_option maxRecDepth 100000 in
set_option maxHeartbeats 8000000 in
theorem awake15 (w : World) (hg : Gd w) : Calls Tryd.prog 9 #[] w fun e w' => e = .returned (.bool true) ∧ Below w.heap.size w w' := by
  have HG := Lib.hid hg
  clear hg
  go_enter Tryd.func9, Tryd.ntmps9
  go_wp2_with (first
    | (go_at_call 8; (with_reducible refine (twin_none15 9 _ (by omega) (by omega)).mono ?_); rintro e w1 ⟨p, q, rfl, hb⟩; have hS := (LA.start (At.start hb)).hold (two_good _ _ _ _) #[.int .i64 2, .int .i64 1, .int .i64 500, .int .i64 7, .int .i64 3] 34; clear hb)
    | (go_at_call 10; first
        | ((with_reducible refine (LA.op1 (tkw1 _) (refA_good _ _ _) emp_good hS).mono ?_); rintro e w2 ⟨rfl, hS1⟩; replace hS := hS1; clear hS1)
        | ((with_reducible refine (LA.op1 (tkw5 _) (refA_good _ _ _) emp_good hS).mono ?_); rintro e w3 ⟨rfl, hS1⟩; replace hS := hS1; clear hS1))
    | (go_at_call 12; first
        | ((with_reducible refine (LA.op1G (tkw2 _) (refA_good _ _ _) emp_good HG.out hS).mono ?_); rintro e w4 ⟨rfl, hS1⟩; replace hS := hS1.hold (rb_good _ _ _ _ _ _) #[.int .i64 2, .int .i64 1, .int .i64 500, .int .i64 7, .int .i64 3] 34; clear hS1)
        | ((with_reducible refine (LA.op1G (tkw3 _) (refA_good _ _ _) emp_good HG.out hS).mono ?_); rintro e w5 ⟨rfl, hS1⟩; replace hS := hS1.step (rb_good _ _ _ _ _ _) (balloc2 _ (.cells #[.int .i64 0, .int .i64 0, .int .i64 0, .int .i64 0, .int .i64 0] 34)); clear hS1)
        | ((with_reducible refine (LA.op1G (tkw4 _) (refA_good _ _ _) emp_good HG.out hS).mono ?_); rintro e w6 ⟨rfl, hS1⟩; replace hS := hS1.step (rb_good _ _ _ _ _ _) (balloc2 _ (.cells #[.int .i64 0, .int .i64 0, .int .i64 0, .int .i64 0, .int .i64 0] 34)); clear hS1)
        | ((with_reducible refine (LA.op1G (tkw6 _) (refA_good _ _ _) emp_good HG.out hS).mono ?_); rintro e w7 ⟨rfl, hS1⟩; have eu := hS1.b0.cell; have lu := hS1.b0.lt; have et := hS1.b1.cell; have lt := hS1.b1.lt; replace hS := hS1.step (rb_good _ _ _ _ _ _) (balloc2 _ (.cells #[.int .i64 0, .int .i64 0, .int .i64 0, .int .i64 0, .int .i64 0] 34)); clear hS1))
    | (go_at_call 16; (with_reducible refine (LA.op1 (dlen _ _ _) (refA_good _ _ _) emp_good hS).mono ?_); rintro e w8 ⟨rfl, hS1⟩; replace hS := hS1; clear hS1)
    | (go_at_call 14; (with_reducible refine (lnum _ _).mono ?_); rintro e w9 ⟨rfl, rfl⟩))
  go_ret
  exact ⟨rfl, hS.bel⟩
end Go.Proofs.YtcakipojmkehgaaDoor
