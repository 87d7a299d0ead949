/- StateSessions: sessions come with numbers rising, and go; what they had is their user's. Conditions: the rows' sizes. -/
import Derived.Test.YtopkcaflmpjhgaaSboots
import Derived.Test.YtopkcaflmpjhgaaBss
import Derived.Test.YtopkcaflmpjhgaaBsp
import Derived.Deep.CutBlock
namespace Go.Proofs.Ytopkcaflmpjhgaa
open Go Go.RowKit

abbrev ssa0 : Oper := { dst := some 121, op := Op.load 23 (Operand.tmp 3), type := 23, pos := "more.go:113", after := #[], guard := none }
abbrev ssa1 : Oper := { dst := some 122, op := Op.load 32 (Operand.tmp 4), type := 32, pos := "more.go:113", after := #[], guard := none }
abbrev ssa2 : Oper := { dst := some 123, op := Op.move (Operand.tmp 8), type := 28, pos := "more.go:113", after := #[], guard := none }
abbrev ssa3 : Oper := { dst := some 124, op := Op.move (Operand.tmp 17), type := 3, pos := "more.go:113", after := #[], guard := none }
abbrev ssa4 : Oper := { dst := some 125, op := Op.indexAddr 28 (Operand.tmp 123) (Operand.tmp 124), type := 0, pos := "more.go:113", after := #[{ on := 2, ground := Ground.data }, { on := 3, ground := Ground.data }], guard := none }
abbrev ssa5 : Oper := { dst := some 126, op := Op.fieldAddr 54 (Operand.tmp 125) 0, type := 0, pos := "more.go:113", after := #[{ on := 4, ground := Ground.data }], guard := none }
abbrev ssa6 : Oper := { dst := some 127, op := Op.load 3 (Operand.tmp 126), type := 3, pos := "more.go:113", after := #[{ on := 5, ground := Ground.data }], guard := none }
abbrev ssa7 : Oper := { dst := some 128, op := Op.move (Operand.tmp 0), type := 30, pos := "more.go:113", after := #[], guard := none }
abbrev ssa8 : Oper := { dst := some 129, op := Op.move (Operand.tmp 9), type := 3, pos := "more.go:113", after := #[], guard := none }
abbrev ssa9 : Oper := { dst := some 130, op := Op.indexAddr 30 (Operand.tmp 128) (Operand.tmp 129), type := 0, pos := "more.go:113", after := #[{ on := 7, ground := Ground.data }, { on := 8, ground := Ground.data }], guard := none }
abbrev ssa10 : Oper := { dst := some 131, op := Op.load 3 (Operand.tmp 130), type := 3, pos := "more.go:113", after := #[{ on := 9, ground := Ground.data }], guard := none }
abbrev ssa11 : Oper := { dst := some 132, op := Op.binOp BinOp.and 3 (Operand.tmp 131) (Operand.const (Value.int IntKind.i64 255)) 3, type := 3, pos := "more.go:113", after := #[{ on := 10, ground := Ground.data }], guard := none }
abbrev ssa12 : Oper := { dst := some 133, op := Op.move (Operand.tmp 9), type := 3, pos := "more.go:113", after := #[], guard := none }
abbrev ssa13 : Oper := { dst := some 134, op := Op.build 40 #[(0, Operand.const (Value.int IntKind.i64 6)), (2, Operand.tmp 127), (4, Operand.tmp 132), (5, Operand.const (Value.int IntKind.i64 0)), (7, Operand.tmp 133)], type := 40, pos := "more.go:113", after := #[{ on := 6, ground := Ground.data }, { on := 11, ground := Ground.data }, { on := 12, ground := Ground.data }], guard := none }
abbrev ssa14 : Oper := { dst := some 135, op := Op.call { callee := Callee.value (Operand.func 13), args := #[Operand.tmp 121, Operand.tmp 122, Operand.tmp 134], argTypes := #[23, 32, 40] }, type := 34, pos := "more.go:113", after := #[{ on := 0, ground := Ground.data }, { on := 1, ground := Ground.data }, { on := 13, ground := Ground.data }], guard := none }
abbrev ssa15 : Oper := { dst := some 120, op := Op.move (Operand.tmp 135), type := 34, pos := "more.go:113", after := #[{ on := 14, ground := Ground.data }], guard := none }
abbrev ssa16 : Oper := { dst := some 136, op := Op.extract (Operand.tmp 120) 0, type := 32, pos := "more.go:113", after := #[{ on := 15, ground := Ground.data }], guard := none }
abbrev ssa17 : Oper := { dst := some 137, op := Op.extract (Operand.tmp 120) 1, type := 33, pos := "more.go:113", after := #[{ on := 15, ground := Ground.data }, { on := 19, ground := Ground.gcOnly Departure.lateStores }], guard := none }
abbrev ssa18 : Oper := { dst := some 18, op := Op.alloc 32, type := 0, pos := "more.go:113", after := #[], guard := none }
abbrev ssa19 : Oper := { dst := none, op := Op.store 32 (Operand.tmp 18) (Operand.tmp 136), type := 0, pos := "more.go:113", after := #[{ on := 18, ground := Ground.data }, { on := 16, ground := Ground.data }, { on := 14, ground := Ground.chain }, { on := 0, ground := Ground.phase }, { on := 1, ground := Ground.phase }, { on := 2, ground := Ground.phase }, { on := 3, ground := Ground.phase }, { on := 4, ground := Ground.phase }, { on := 5, ground := Ground.phase }, { on := 6, ground := Ground.phase }, { on := 7, ground := Ground.phase }, { on := 8, ground := Ground.phase }, { on := 9, ground := Ground.phase }, { on := 10, ground := Ground.phase }, { on := 11, ground := Ground.phase }, { on := 12, ground := Ground.phase }, { on := 13, ground := Ground.phase }, { on := 14, ground := Ground.phase }, { on := 15, ground := Ground.phase }, { on := 16, ground := Ground.phase }, { on := 17, ground := Ground.textOnly Departure.lateStores }, { on := 18, ground := Ground.phase }], guard := none }
abbrev ssa20 : Oper := { dst := some 19, op := Op.assign (Operand.tmp 137), type := 33, pos := "more.go:113", after := #[{ on := 17, ground := Ground.data }, { on := 19, ground := Ground.chain }, { on := 0, ground := Ground.phase }, { on := 1, ground := Ground.phase }, { on := 2, ground := Ground.phase }, { on := 3, ground := Ground.phase }, { on := 4, ground := Ground.phase }, { on := 5, ground := Ground.phase }, { on := 6, ground := Ground.phase }, { on := 7, ground := Ground.phase }, { on := 8, ground := Ground.phase }, { on := 9, ground := Ground.phase }, { on := 10, ground := Ground.phase }, { on := 11, ground := Ground.phase }, { on := 12, ground := Ground.phase }, { on := 13, ground := Ground.phase }, { on := 14, ground := Ground.phase }, { on := 15, ground := Ground.phase }, { on := 16, ground := Ground.phase }, { on := 17, ground := Ground.phase }, { on := 18, ground := Ground.phase }, { on := 19, ground := Ground.phase }], guard := none }
abbrev ssb0 : Oper := { dst := some 141, op := Op.move (Operand.tmp 7), type := 30, pos := "more.go:117", after := #[], guard := none }
abbrev ssb1 : Oper := { dst := some 142, op := Op.move (Operand.tmp 8), type := 28, pos := "more.go:117", after := #[], guard := none }
abbrev ssb2 : Oper := { dst := some 143, op := Op.move (Operand.tmp 17), type := 3, pos := "more.go:117", after := #[], guard := none }
abbrev ssb3 : Oper := { dst := some 144, op := Op.indexAddr 28 (Operand.tmp 142) (Operand.tmp 143), type := 0, pos := "more.go:117", after := #[{ on := 1, ground := Ground.data }, { on := 2, ground := Ground.data }], guard := none }
abbrev ssb4 : Oper := { dst := some 145, op := Op.fieldAddr 54 (Operand.tmp 144) 1, type := 0, pos := "more.go:117", after := #[{ on := 3, ground := Ground.data }], guard := none }
abbrev ssb5 : Oper := { dst := some 146, op := Op.load 3 (Operand.tmp 145), type := 3, pos := "more.go:117", after := #[{ on := 4, ground := Ground.data }], guard := none }
abbrev ssb6 : Oper := { dst := some 147, op := Op.move (Operand.tmp 7), type := 30, pos := "more.go:117", after := #[], guard := none }
abbrev ssb7 : Oper := { dst := some 148, op := Op.move (Operand.tmp 8), type := 28, pos := "more.go:117", after := #[], guard := none }
abbrev ssb8 : Oper := { dst := some 149, op := Op.move (Operand.tmp 17), type := 3, pos := "more.go:117", after := #[], guard := none }
abbrev ssb9 : Oper := { dst := some 150, op := Op.indexAddr 28 (Operand.tmp 148) (Operand.tmp 149), type := 0, pos := "more.go:117", after := #[{ on := 7, ground := Ground.data }, { on := 8, ground := Ground.data }], guard := none }
abbrev ssb10 : Oper := { dst := some 151, op := Op.fieldAddr 54 (Operand.tmp 150) 1, type := 0, pos := "more.go:117", after := #[{ on := 9, ground := Ground.data }], guard := none }
abbrev ssb11 : Oper := { dst := some 152, op := Op.load 3 (Operand.tmp 151), type := 3, pos := "more.go:117", after := #[{ on := 10, ground := Ground.data }], guard := none }
abbrev ssb12 : Oper := { dst := some 153, op := Op.indexAddr 30 (Operand.tmp 147) (Operand.tmp 152), type := 0, pos := "more.go:117", after := #[{ on := 6, ground := Ground.data }, { on := 11, ground := Ground.data }], guard := none }
abbrev ssb13 : Oper := { dst := some 154, op := Op.load 3 (Operand.tmp 153), type := 3, pos := "more.go:117", after := #[{ on := 12, ground := Ground.data }], guard := none }
abbrev ssb14 : Oper := { dst := some 155, op := Op.move (Operand.tmp 0), type := 30, pos := "more.go:117", after := #[], guard := none }
abbrev ssb15 : Oper := { dst := some 156, op := Op.move (Operand.tmp 9), type := 3, pos := "more.go:117", after := #[], guard := none }
abbrev ssb16 : Oper := { dst := some 157, op := Op.indexAddr 30 (Operand.tmp 155) (Operand.tmp 156), type := 0, pos := "more.go:117", after := #[{ on := 14, ground := Ground.data }, { on := 15, ground := Ground.data }], guard := none }
abbrev ssb17 : Oper := { dst := some 158, op := Op.load 3 (Operand.tmp 157), type := 3, pos := "more.go:117", after := #[{ on := 16, ground := Ground.data }], guard := none }
abbrev ssb18 : Oper := { dst := some 159, op := Op.binOp BinOp.and 3 (Operand.tmp 158) (Operand.const (Value.int IntKind.i64 255)) 3, type := 3, pos := "more.go:117", after := #[{ on := 17, ground := Ground.data }], guard := none }
abbrev ssb19 : Oper := { dst := some 160, op := Op.binOp BinOp.add 3 (Operand.tmp 154) (Operand.tmp 159) 3, type := 3, pos := "more.go:117", after := #[{ on := 13, ground := Ground.data }, { on := 18, ground := Ground.data }], guard := none }
abbrev ssb20 : Oper := { dst := some 161, op := Op.indexAddr 30 (Operand.tmp 141) (Operand.tmp 146), type := 0, pos := "more.go:117", after := #[{ on := 0, ground := Ground.data }, { on := 5, ground := Ground.data }, { on := 0, ground := Ground.phase }, { on := 1, ground := Ground.phase }, { on := 2, ground := Ground.phase }, { on := 3, ground := Ground.phase }, { on := 4, ground := Ground.phase }, { on := 5, ground := Ground.phase }, { on := 6, ground := Ground.phase }, { on := 7, ground := Ground.phase }, { on := 8, ground := Ground.phase }, { on := 9, ground := Ground.phase }, { on := 10, ground := Ground.phase }, { on := 11, ground := Ground.phase }, { on := 12, ground := Ground.phase }, { on := 13, ground := Ground.phase }, { on := 14, ground := Ground.phase }, { on := 15, ground := Ground.phase }, { on := 16, ground := Ground.phase }, { on := 17, ground := Ground.phase }, { on := 18, ground := Ground.phase }, { on := 19, ground := Ground.phase }], guard := none }
abbrev ssb21 : Oper := { dst := none, op := Op.store 3 (Operand.tmp 161) (Operand.tmp 160), type := 0, pos := "more.go:117", after := #[{ on := 20, ground := Ground.data }, { on := 19, ground := Ground.data }, { on := 0, ground := Ground.phase }, { on := 1, ground := Ground.phase }, { on := 2, ground := Ground.phase }, { on := 3, ground := Ground.phase }, { on := 4, ground := Ground.phase }, { on := 5, ground := Ground.phase }, { on := 6, ground := Ground.phase }, { on := 7, ground := Ground.phase }, { on := 8, ground := Ground.phase }, { on := 9, ground := Ground.phase }, { on := 10, ground := Ground.phase }, { on := 11, ground := Ground.phase }, { on := 12, ground := Ground.phase }, { on := 13, ground := Ground.phase }, { on := 14, ground := Ground.phase }, { on := 15, ground := Ground.phase }, { on := 16, ground := Ground.phase }, { on := 17, ground := Ground.phase }, { on := 18, ground := Ground.phase }, { on := 19, ground := Ground.phase }], guard := none }
abbrev ssc0 : Oper := { dst := some 175, op := Op.fieldAddr 32 (Operand.tmp 4) 4, type := 0, pos := "more.go:123", after := #[], guard := none }
abbrev ssc1 : Oper := { dst := some 176, op := Op.load 28 (Operand.tmp 175), type := 28, pos := "more.go:123", after := #[{ on := 0, ground := Ground.data }], guard := none }
abbrev ssc2 : Oper := { dst := some 177, op := Op.move (Operand.tmp 8), type := 28, pos := "more.go:123", after := #[], guard := none }
abbrev ssc3 : Oper := { dst := some 178, op := Op.call { callee := Callee.value (Operand.func 16), args := #[Operand.tmp 176, Operand.tmp 177], argTypes := #[28, 28] }, type := 4, pos := "more.go:123", after := #[{ on := 1, ground := Ground.data }, { on := 2, ground := Ground.data }], guard := none }
abbrev ssc4 : Oper := { dst := some 179, op := Op.unOp UnOp.not 4 (Operand.tmp 178), type := 4, pos := "more.go:123", after := #[{ on := 3, ground := Ground.data }], guard := none }
abbrev ssc5 : Oper := { dst := some 180, op := Op.move (Operand.tmp 179), type := 4, pos := "more.go:123", after := #[{ on := 4, ground := Ground.data }, { on := 3, ground := Ground.chain }], guard := none }
abbrev ssc6 : Oper := { dst := some 181, op := Op.fieldAddr 32 (Operand.tmp 4) 2, type := 0, pos := "more.go:123", after := #[{ on := 5, ground := Ground.guard }], guard := some (5, false) }
abbrev ssc7 : Oper := { dst := some 182, op := Op.load 3 (Operand.tmp 181), type := 3, pos := "more.go:123", after := #[{ on := 6, ground := Ground.data }, { on := 5, ground := Ground.guard }], guard := some (5, false) }
abbrev ssc8 : Oper := { dst := some 183, op := Op.move (Operand.tmp 6), type := 3, pos := "more.go:123", after := #[{ on := 5, ground := Ground.guard }], guard := some (5, false) }
abbrev ssc9 : Oper := { dst := some 184, op := Op.binOp BinOp.neq 3 (Operand.tmp 182) (Operand.tmp 183) 3, type := 4, pos := "more.go:123", after := #[{ on := 7, ground := Ground.data }, { on := 8, ground := Ground.data }, { on := 5, ground := Ground.guard }], guard := some (5, false) }
abbrev ssc10 : Oper := { dst := some 185, op := Op.pick (Operand.tmp 180) (Operand.const (Value.bool true)) (Operand.tmp 184), type := 4, pos := "more.go:123", after := #[{ on := 5, ground := Ground.data }, { on := 9, ground := Ground.data }], guard := none }
abbrev ssc11 : Oper := { dst := some 186, op := Op.move (Operand.tmp 185), type := 4, pos := "more.go:123", after := #[{ on := 10, ground := Ground.data }, { on := 5, ground := Ground.chain }], guard := none }
abbrev ssc12 : Oper := { dst := some 187, op := Op.fieldAddr 32 (Operand.tmp 4) 3, type := 0, pos := "more.go:123", after := #[{ on := 11, ground := Ground.guard }], guard := some (11, false) }
abbrev ssc13 : Oper := { dst := some 188, op := Op.load 27 (Operand.tmp 187), type := 27, pos := "more.go:123", after := #[{ on := 12, ground := Ground.data }, { on := 11, ground := Ground.guard }], guard := some (11, false) }
abbrev ssc14 : Oper := { dst := some 189, op := Op.call { callee := Callee.builtin Builtin.len, args := #[Operand.tmp 188], argTypes := #[27] }, type := 3, pos := "more.go:123", after := #[{ on := 13, ground := Ground.data }, { on := 11, ground := Ground.guard }], guard := some (11, false) }
abbrev ssc15 : Oper := { dst := some 190, op := Op.binOp BinOp.neq 3 (Operand.tmp 189) (Operand.const (Value.int IntKind.i64 2)) 3, type := 4, pos := "more.go:123", after := #[{ on := 14, ground := Ground.data }, { on := 11, ground := Ground.guard }], guard := some (11, false) }
abbrev ssc16 : Oper := { dst := some 191, op := Op.pick (Operand.tmp 186) (Operand.const (Value.bool true)) (Operand.tmp 190), type := 4, pos := "more.go:123", after := #[{ on := 11, ground := Ground.data }, { on := 15, ground := Ground.data }], guard := none }
abbrev ssc17 : Oper := { dst := some 192, op := Op.move (Operand.tmp 191), type := 4, pos := "more.go:123", after := #[{ on := 16, ground := Ground.data }, { on := 11, ground := Ground.chain }], guard := none }
abbrev ssc18 : Oper := { dst := some 193, op := Op.fieldAddr 32 (Operand.tmp 4) 3, type := 0, pos := "more.go:123", after := #[{ on := 17, ground := Ground.guard }], guard := some (17, false) }
abbrev ssc19 : Oper := { dst := some 194, op := Op.load 27 (Operand.tmp 193), type := 27, pos := "more.go:123", after := #[{ on := 18, ground := Ground.data }, { on := 17, ground := Ground.guard }], guard := some (17, false) }
abbrev ssc20 : Oper := { dst := some 195, op := Op.indexAddr 27 (Operand.tmp 194) (Operand.const (Value.int IntKind.i64 0)), type := 0, pos := "more.go:123", after := #[{ on := 19, ground := Ground.data }, { on := 17, ground := Ground.guard }], guard := some (17, false) }
abbrev ssc21 : Oper := { dst := some 196, op := Op.fieldAddr 49 (Operand.tmp 195) 4, type := 0, pos := "more.go:123", after := #[{ on := 20, ground := Ground.data }, { on := 17, ground := Ground.guard }], guard := some (17, false) }
abbrev ssc22 : Oper := { dst := some 197, op := Op.load 3 (Operand.tmp 196), type := 3, pos := "more.go:123", after := #[{ on := 21, ground := Ground.data }, { on := 17, ground := Ground.guard }], guard := some (17, false) }
abbrev ssc23 : Oper := { dst := some 198, op := Op.move (Operand.tmp 7), type := 30, pos := "more.go:123", after := #[{ on := 17, ground := Ground.guard }], guard := some (17, false) }
abbrev ssc24 : Oper := { dst := some 199, op := Op.indexAddr 30 (Operand.tmp 198) (Operand.const (Value.int IntKind.i64 0)), type := 0, pos := "more.go:123", after := #[{ on := 23, ground := Ground.data }, { on := 17, ground := Ground.guard }], guard := some (17, false) }
abbrev ssc25 : Oper := { dst := some 200, op := Op.load 3 (Operand.tmp 199), type := 3, pos := "more.go:123", after := #[{ on := 24, ground := Ground.data }, { on := 17, ground := Ground.guard }], guard := some (17, false) }
abbrev ssc26 : Oper := { dst := some 201, op := Op.binOp BinOp.neq 3 (Operand.tmp 197) (Operand.tmp 200) 3, type := 4, pos := "more.go:123", after := #[{ on := 22, ground := Ground.data }, { on := 25, ground := Ground.data }, { on := 17, ground := Ground.guard }], guard := some (17, false) }
abbrev ssc27 : Oper := { dst := some 202, op := Op.pick (Operand.tmp 192) (Operand.const (Value.bool true)) (Operand.tmp 201), type := 4, pos := "more.go:123", after := #[{ on := 17, ground := Ground.data }, { on := 26, ground := Ground.data }], guard := none }
abbrev ssc28 : Oper := { dst := some 203, op := Op.move (Operand.tmp 202), type := 4, pos := "more.go:123", after := #[{ on := 27, ground := Ground.data }, { on := 17, ground := Ground.chain }], guard := none }
abbrev ssc29 : Oper := { dst := some 204, op := Op.fieldAddr 32 (Operand.tmp 4) 3, type := 0, pos := "more.go:123", after := #[{ on := 28, ground := Ground.guard }], guard := some (28, false) }
abbrev ssc30 : Oper := { dst := some 205, op := Op.load 27 (Operand.tmp 204), type := 27, pos := "more.go:123", after := #[{ on := 29, ground := Ground.data }, { on := 28, ground := Ground.guard }], guard := some (28, false) }
abbrev ssc31 : Oper := { dst := some 206, op := Op.indexAddr 27 (Operand.tmp 205) (Operand.const (Value.int IntKind.i64 1)), type := 0, pos := "more.go:123", after := #[{ on := 30, ground := Ground.data }, { on := 28, ground := Ground.guard }], guard := some (28, false) }
abbrev ssc32 : Oper := { dst := some 207, op := Op.fieldAddr 49 (Operand.tmp 206) 4, type := 0, pos := "more.go:123", after := #[{ on := 31, ground := Ground.data }, { on := 28, ground := Ground.guard }], guard := some (28, false) }
abbrev ssc33 : Oper := { dst := some 208, op := Op.load 3 (Operand.tmp 207), type := 3, pos := "more.go:123", after := #[{ on := 32, ground := Ground.data }, { on := 28, ground := Ground.guard }], guard := some (28, false) }
abbrev ssc34 : Oper := { dst := some 209, op := Op.move (Operand.tmp 7), type := 30, pos := "more.go:123", after := #[{ on := 28, ground := Ground.guard }], guard := some (28, false) }
abbrev ssc35 : Oper := { dst := some 210, op := Op.indexAddr 30 (Operand.tmp 209) (Operand.const (Value.int IntKind.i64 1)), type := 0, pos := "more.go:123", after := #[{ on := 34, ground := Ground.data }, { on := 28, ground := Ground.guard }], guard := some (28, false) }
abbrev ssc36 : Oper := { dst := some 211, op := Op.load 3 (Operand.tmp 210), type := 3, pos := "more.go:123", after := #[{ on := 35, ground := Ground.data }, { on := 28, ground := Ground.guard }], guard := some (28, false) }
abbrev ssc37 : Oper := { dst := some 212, op := Op.binOp BinOp.neq 3 (Operand.tmp 208) (Operand.tmp 211) 3, type := 4, pos := "more.go:123", after := #[{ on := 33, ground := Ground.data }, { on := 36, ground := Ground.data }, { on := 28, ground := Ground.guard }], guard := some (28, false) }
abbrev ssc38 : Oper := { dst := some 213, op := Op.pick (Operand.tmp 203) (Operand.const (Value.bool true)) (Operand.tmp 212), type := 4, pos := "more.go:123", after := #[{ on := 28, ground := Ground.data }, { on := 37, ground := Ground.data }], guard := none }
abbrev snAd0 : List Pa := [⟨false, -1, 0⟩, ⟨false, -1, 0⟩, ⟨false, -1, 0⟩]
theorem snS_is : saS cfS (begB ++ []) = snSt 0 0 0 [] snAd0 ∧ decide (saE cfS (begB ++ []) = 0) = true := by decide +kernel
theorem snI_begin : SnI 0 0 0 0 [] snAd0 := by
  have h := SnI.begin
  rw [show pnL 3 = snAd0 by decide] at h
  exact h
abbrev SnR (a : Option Addr) (cp : Nat) (l : List Se) : Ass := (rowE TSe 4 (.slice a l.length cp) l.length (seCells l)).star emp
theorem snR_good (a : Option Addr) (cp : Nat) (l : List Se) : (SnR a cp l).Good := (rowE_good _ _ _ _ _).star emp_good
section
variable {w W : World} {l : List Ob} {z : List (Sv × St)} {a : Option Addr} {cp : Nat} {es : List Se}
theorem SnR.row (q : At w (OB l (STS z (SnR a cp es))) W) : At w ((rowE TSe 4 (.slice a es.length cp) es.length (seCells es)).star (OB l (STS z emp))) W := (q.imp (OB.under (STS.up _ _ _))).imp (OB.up _ _ _)
theorem SnR.of (q : At w ((rowE TSe 4 (.slice a es.length cp) es.length (seCells es)).star (OB l (STS z emp))) W) : At w (OB l (STS z (SnR a cp es))) W := (q.imp (OB.dn _ _ _)).imp (OB.under (STS.dn _ _ _))
theorem SnR.in (q : At w (OB l (STS z (SnR a cp es))) W) (h : es.length ≤ 4398046511104) : SeIn [] W a es.length es := At.seI (SnR.row q) rfl rfl h
/-- A new row takes the elder one's place. -/
theorem SnR.turn {N : Ass} (q : At w (N.star (OB l (STS z (SnR a cp es)))) W) : At w (N.star (OB l (STS z emp))) W :=
  ((q.imp (((OB.under (STS.up _ _ _)).trans (OB.up _ _ _)).under N)).imp (Ass.imp.swap _ _ _)).drop
end
theorem and1 (x : Int) : ∃ m : Int, bits .and .i64 x 1 = m ∧ (m = 0 ∨ m = 1) := by
  have h := i64_mask x 1 (by decide)
  exact ⟨_, h, by omega⟩
theorem and255 (x : Int) : ∃ m : Int, bits .and .i64 x 255 = m ∧ 0 ≤ m ∧ m ≤ 255 := by
  have h := i64_mask x 8 (by decide)
  exact ⟨_, h, by omega, by omega⟩
/-- The address that the walk takes, round for round. -/
def snA (l : List Se) : Nat → Int
  | 0 => 0
  | k + 1 => if snHas l (k : Int) then snA l k else (k : Int)
theorem snA_three (l : List Se) : snA l 3 = snPick l := by
  show (if snHas l 2 then (if snHas l 1 then (if snHas l 0 then 0 else 0) else 1) else 2) = _
  unfold snPick
  simp
def snFree (l : List Se) (j : Nat) (k : Int) : Bool := (l.take j).all fun x => !decide (x.a = k)
theorem snFree_next {l : List Se} {j : Nat} (hj : j < l.length) {y : Se} (hy : l.getD j Se.none = y) (k : Int) : snFree l (j + 1) k = (snFree l j k && !decide (y.a = k)) := by
  have e : l[j] = y := by rw [← hy]; simp [List.getD, hj]
  unfold snFree
  rw [List.take_succ_eq_append_getElem hj, List.all_append, e]
  simp
theorem snFree_all (l : List Se) (k : Int) : snFree l l.length k = !snHas l k := by
  unfold snFree snHas
  rw [List.take_length, List.not_any_eq_all_not]
theorem sn_used {k : Nat} {u0 u1 yu b : Int} (h : yu = 0 ∨ yu = 1) (a0 : 0 ≤ u0) (a1 : u0 ≤ 255 * (k : Int)) (c0 : 0 ≤ u1) (c1 : u1 ≤ 255 * (k : Int)) : ∃ (j : Nat) (v : Int), yu = (j : Int) ∧ j < 2 ∧ (#[.int .i64 u0, .int .i64 u1] : Array Value)[j]? = some (.int .i64 v) ∧ 0 ≤ v ∧ v ≤ 255 * (k : Int) ∧ (#[.int .i64 u0, .int .i64 u1] : Array Value).setIfInBounds j (.int .i64 (v + b)) = #[.int .i64 (snAdd 0 u0 yu b), .int .i64 (snAdd 1 u1 yu b)] := by
  rcases h with rfl | rfl
  · exact ⟨0, u0, rfl, by decide, rfl, a0, a1, rfl⟩
  · exact ⟨1, u1, rfl, by decide, rfl, c0, c1, rfl⟩
theorem stN_is {z u0 u1 : Int} {h : Sv} {l : List Se} {ad : List Pa} (hal : ad.length = 3) : stN 1 0 z h 2 l.length 3 0 = stC h (snSt z u0 u1 l ad) := by
  simp only [stC, stN, hal]; rfl
set_option maxRecDepth 100000 in
set_option maxHeartbeats 16000000 in
set_option linter.unusedSimpArgs false in
theorem stsessions (P : StatesOk) {w : World} {ao : Option Addr} {n cap : Nat} {as' : List Int} (has : InIn [] w ao n as') :
    Calls Try.prog 6 #[.slice ao n cap] w fun e w' => e = .returned (.bool true) ∧ Below w.heap.size w w' := by
  have HEL := Lib.hid (fun k (hk : k < n) => in_el has (k := k) hk)
  clear has
  have q0 : At w (OB [] (STS [] emp)) w := OB.start (Below.refl w.heap.size w)
  go_enter Try.func6, Try.ntmps6
  go_wp2_with (first
    | (go_at_call 9; (with_reducible refine (awake20 P _).mono ?_); rintro r w1 ⟨rfl, hb⟩; have q1 := OB.lay (STS.good emp_good) q0 hb; clear hb)
    | (go_at_call 14; (with_reducible refine (lplain _).mono ?_); rintro e w2 ⟨rfl, hb⟩; have q2 : At w (OB [(w2.heap.size, cfC cfS, TCf)] (STS [] emp)) (w2.alloc (.cells (cfC cfS) TCf)) := OB.hold (STS.good emp_good) (OB.lay (STS.good emp_good) q1 hb) (cfC cfS) TCf rfl; clear hb)
    | (go_at_call 15; (with_reducible refine (obegun P emp_good q2 (MoreIn.nil _) snS_is.1 snS_is.2).mono ?_); rintro e w3 ⟨h0, rfl, qa⟩; have q3 : At w (OB [(w2.heap.size, cfC cfS, TCf), (w3.heap.size, stN 1 0 0 h0 2 0 3 0, TSt)] (STS [(h0, snSt 0 0 0 [] snAd0)] emp)) (w3.alloc (.cells (stN 1 0 0 h0 2 0 3 0) TSt)) := OB.hold (STS.good emp_good) qa (stN 1 0 0 h0 2 0 3 0) TSt rfl; clear qa))
  have q4 : At w (OB [(w2.heap.size, cfC cfS, TCf), (w3.heap.size, stN 1 0 0 h0 2 0 3 0, TSt), (w3.heap.size + 1, #[.int .i64 0, .int .i64 0], TIn)] (STS [(h0, snSt 0 0 0 [] snAd0)] (SnR none 0 []))) ((w3.alloc (.cells (stN 1 0 0 h0 2 0 3 0) TSt)).alloc (.cells #[.int .i64 0, .int .i64 0] TIn)) := SnR.of (At.erow0 TSe 4 (OB.hold (STS.good emp_good) q3 #[.int .i64 0, .int .i64 0] TIn (by simp)))
  clear q0 q1 q2 q3
  generalize (w3.alloc (.cells (stN 1 0 0 h0 2 0 3 0) TSt)).alloc (.cells #[.int .i64 0, .int .i64 0] TIn) = W4 at *
  generalize w2.heap.size = b1 at *
  generalize hb3 : w3.heap.size + 1 = b3 at *
  generalize w3.heap.size = b2 at *
  clear hb3
  have HQ := Lib.hid q4
  clear q4
  go_loopw [6, 8, 9] (fun nx row i wr => ∃ (k : Nat) (z u0 u1 : Int) (l : List Se) (ad : List Pa) (a : Option Addr) (cp : Nat) (h : Sv), k ≤ n ∧ k ≤ 40 ∧ i = .int .i64 (k : Int) ∧ nx = .int .i64 z ∧ row = .slice a l.length cp ∧ Aside (SnI k z u0 u1 l ad) ∧ Aside (At w (OB [(b1, cfC cfS, TCf), (b2, stN 1 0 z h 2 l.length 3 0, TSt), (b3, #[.int .i64 u0, .int .i64 u1], TIn)] (STS [(h, snSt z u0 u1 l ad)] (SnR a cp l))) wr)) (fun _ _ i _ => 40 - (intOf i).toNat)
  case atStart => exact ⟨0, 0, 0, 0, [], snAd0, none, 0, h0, Nat.zero_le _, by decide, rfl, rfl, rfl, (show Aside _ from snI_begin), (show Aside _ from HQ.out)⟩
  case round =>
    clear HQ
    obtain ⟨k, z, u0, u1, l, ad, a, cp, h, hkn, hk40, rfl, rfl, rfl, hI, hall⟩ := hrel
    have q := hall.out
    have HI := Lib.hid hI.out
    clear hall hI
    by_cases hlt : k < n ∧ k < 40
    · obtain ⟨hltn, hlt40⟩ := hlt
      have hltI : (k : Int) < (n : Int) := by omega
      have hltJ : (k : Int) < 40 := by omega
      obtain ⟨ba, oa, x, rfl, hx, hcell⟩ := HEL.out k hltn
      have hc := hcell _ q.bel
      have lcb := World.block_lt_of_cell? wr ⟨ba, oa + k, none⟩ hc
      dsimp only at lcb
      have HCELL := Lib.hid hcell
      clear hcell hx
      have ec := (OB.at q (i := 0) rfl).cell
      have es1 := (OB.at q (i := 1) rfl).cell
      have HQ0 := Lib.hid q
      clear q
      obtain ⟨m1, hm1, hm01⟩ := and1 x
      obtain ⟨A, hA⟩ : ∃ A : Bool, (decide (m1 = 0) || decide (l.length = 0)) = A := ⟨_, rfl⟩
      have HAA := Lib.hid hA
      clear hA
      go_upto_region 13 with fail
      go_cut [53] from 33 to 213 (fun s w' => s = .bool A ∧ w' = wr)
      case first => as_aux_lemma =>
        by_cases c1 : m1 = 0
        · subst c1
          obtain rfl : A = true := by rw [← HAA.out]; rfl
          go_wp2
          go_meet
          exact ⟨rfl, rfl⟩
        · obtain rfl : m1 = 1 := by omega
          obtain rfl : A = decide (l.length = 0) := by rw [← HAA.out]; rfl
          clear HAA
          by_cases c2 : l.length = 0
          · have hx0 : ((l.length : Int) == 0) = true := beq_iff_eq.2 (by omega)
            have HC2 := Lib.hid c2
            clear c2
            go_wp2
            go_meet
            exact ⟨by rw [decide_eq_true HC2.out], rfl⟩
          · have hx0 : ((l.length : Int) == 0) = false := beq_eq_false_iff_ne.2 (by omega)
            have HC2 := Lib.hid c2
            clear c2
            go_wp2
            go_meet
            exact ⟨by rw [decide_eq_false HC2.out], rfl⟩
      case rest =>
        obtain ⟨rfl, hwc⟩ := hcut
        subst hwc
        go_upto_if 53 with fail
        go_cut [6, 8] from 33 to 213 (fun s6 s8 w' => ∃ (z' u0' u1' : Int) (l' : List Se) (ad' : List Pa) (a' : Option Addr) (cp' : Nat) (h' : Sv), s6 = .int .i64 z' ∧ s8 = .slice a' l'.length cp' ∧ SnI (k + 1) z' u0' u1' l' ad' ∧ At w (OB [(b1, cfC cfS, TCf), (b2, stN 1 0 z' h' 2 l'.length 3 0, TSt), (b3, #[.int .i64 u0', .int .i64 u1'], TIn)] (STS [(h', snSt z' u0' u1' l' ad')] (SnR a' cp' l'))) w')
        case first =>
          cases A with
          | true =>
            by_cases h3 : l.length = 3
            · have hx3 : ((l.length : Int) == 3) = true := beq_iff_eq.2 (by omega)
              have HX3 := Lib.hid h3
              have HIN' := Lib.hid HI.out.next
              clear h3
              go_wp2
              go_roundw
              case rel => exact ⟨k + 1, z, u0, u1, l, ad, a, cp, h, by omega, by omega, by go_num, rfl, rfl, (show Aside _ from HIN'.out), (show Aside _ from HQ0.out)⟩
              case measure => simp [intOf]; omega
            · have hx3 : ((l.length : Int) == 3) = false := beq_eq_false_iff_ne.2 (by omega)
              have hl3 : l.length < 3 := by have := HI.out.len; omega
              obtain ⟨u, hu, hu01⟩ := and1 (x / 2)
              obtain ⟨hpf, hp0, hp2⟩ := snPick_free hl3
              have HP3 := Lib.hid (snA_three l)
              obtain ⟨pk, hpk⟩ : ∃ t, snPick l = t := ⟨_, rfl⟩
              rw [hpk] at hpf hp0 hp2 HP3
              obtain ⟨e1, e2, e3⟩ := sn_lease HI.out hlt40 hl3 hu01 hp0 hp2 hpf
              obtain ⟨ad', had'⟩ : ∃ t, ad.set pk.toNat ⟨true, u, 0⟩ = t := ⟨_, rfl⟩
              rw [had'] at e1 e3
              have hal' : ad'.length = 3 := by rw [← had', List.length_set]; exact HI.out.al
              have HS := Lib.hid (And.intro e1 e2)
              have HI' := Lib.hid e3
              have HSM := Lib.hid (HI.out.sm (by omega))
              have HA := Lib.hid (stN_is (z := z) (u0 := u0) (u1 := u1) (h := h) (l := l) HI.out.al)
              have hlen : (l ++ [(⟨z, u, pk, (k : Int)⟩ : Se)]).length = l.length + 1 := by simp
              have HIN := Lib.hid (fun (j : Nat) (hj : j < l.length) => se_el (SnR.in HQ0.out (by omega)) hj)
              have hwz : IntKind.i64.wrap (z + 1) = z + 1 := by rw [IntKind.wrap_i64]; have := HI.out.n0; have := HI.out.n1; omega
              clear e1 e2 e3 hpk hpf had' h3
              go_wp2
              go_loopw [10, 11] (fun av kv wq => ∃ i' : Nat, i' ≤ 3 ∧ kv = .int .i64 (i' : Int) ∧ av = .int .i64 (snA l i') ∧ wq = wc) (fun _ kv _ => 3 - (intOf kv).toNat)
              case atStart => exact ⟨0, by decide, rfl, rfl, rfl⟩
              case round =>
                obtain ⟨i, hi, rfl, rfl, hwq⟩ := hrel
                by_cases hil : i < 3
                · have hiI : (i : Int) < 3 := by omega
                  subst hwq
                  go_wp2
                  go_loopw [12, 13] (fun fr jj wz => ∃ j' : Nat, j' ≤ l.length ∧ jj = .int .i64 (j' : Int) ∧ fr = .bool (snFree l j' (i : Int)) ∧ wz = wr) (fun _ jj _ => l.length - (intOf jj).toNat)
                  case atStart => exact ⟨0, Nat.zero_le _, rfl, rfl, rfl⟩
                  case round =>
                    obtain ⟨j, hj, rfl, rfl, rfl⟩ := hrel
                    by_cases hjl : j < l.length
                    · have hjI : (j : Int) < (l.length : Int) := by omega
                      obtain ⟨b', off', y, rfl, hy, hcy⟩ := HIN.out j hjl
                      obtain ⟨y0, y1, y2, y3⟩ := hcy _ (Below.refl _ _)
                      have HNX := Lib.hid (snFree_next hjl hy (i : Int))
                      clear hy hcy
                      cases hf : snFree l j (i : Int) with
                      | true =>
                        rw [hf, Bool.true_and] at HNX
                        clear hf
                        by_cases he : y.a = (i : Int)
                        · rw [decide_eq_true he] at HNX
                          go_wp2
                          go_round
                          case rel => exact ⟨j + 1, by omega, by go_num, by rw [HNX.out]; rfl, trivial⟩
                          case measure => simp [intOf]; omega
                        · rw [decide_eq_false he] at HNX
                          have hne : (y.a != (i : Int)) = true := by simpa using he
                          go_wp2
                          go_round
                          case rel => exact ⟨j + 1, by omega, by go_num, by rw [HNX.out]; rfl, trivial⟩
                          case measure => simp [intOf]; omega
                      | false =>
                        rw [hf, Bool.false_and] at HNX
                        clear hf
                        go_wp2
                        go_round
                        case rel => exact ⟨j + 1, by omega, by go_num, by rw [HNX.out], trivial⟩
                        case measure => simp [intOf]; omega
                    · obtain rfl : j = l.length := by omega
                      have hjI : ¬ (l.length : Int) < (l.length : Int) := by omega
                      have HPK := Lib.hid (show snA l (i + 1) = if snHas l (i : Int) then snA l i else (i : Int) from rfl)
                      cases hh : snHas l (i : Int) with
                      | true =>
                        rw [hh] at HPK
                        rw [show snFree l l.length (i : Int) = false by rw [snFree_all, hh]; rfl]
                        clear hh
                        go_wp2
                        go_round
                        case rel => exact ⟨i + 1, by omega, by go_num, by rw [HPK.out]; rfl, trivial⟩
                        case measure => simp [intOf]; omega
                      | false =>
                        rw [hh] at HPK
                        rw [show snFree l l.length (i : Int) = true by rw [snFree_all, hh]; rfl]
                        clear hh
                        go_wp2
                        go_round
                        case rel => exact ⟨i + 1, by omega, by go_num, by rw [HPK.out]; rfl, trivial⟩
                        case measure => simp [intOf]; omega
                · obtain rfl : i = 3 := by omega
                  subst hwq
                  rw [HP3.out]
                  have q4 : At w (OB [(b1, cfC cfS, TCf), (b2, stN 1 0 z h 2 l.length 3 0, TSt), (b3, #[.int .i64 u0, .int .i64 u1], TIn), (wr.heap.size, #[.int .i64 z, .int .i64 u, .int .i64 pk, .int .i64 (k : Int)], TSe)] (STS [(h, snSt z u0 u1 l ad)] (SnR a cp l))) _ := OB.hold (STS.good (snR_good _ _ _)) HQ0.out #[.int .i64 z, .int .i64 u, .int .i64 pk, .int .i64 (k : Int)] TSe rfl
                  have ec := (OB.at q4 (i := 0) rfl).cell
                  have es1 := (OB.at q4 (i := 1) rfl).cell
                  go_wp2_with (first
                    | (go_at_call 13; (with_reducible refine (P.oapplyA (e := ⟨5, u, z, pk, 0, 0, 0, (k : Int)⟩) (snR_good _ _ _) q4 (i := 0) rfl HSM.out (stN 1 0 z h 2 l.length 3 0) HA.out HS.out.1 HS.out.2).mono ?_); rintro r w5 ⟨h5, rfl, qa⟩; have q5 : At w (OB [(b1, cfC cfS, TCf), (b2, stN 1 0 z h 2 l.length 3 0, TSt), (b3, #[.int .i64 u0, .int .i64 u1], TIn), (wr.heap.size, #[.int .i64 z, .int .i64 u, .int .i64 pk, .int .i64 (k : Int)], TSe), (w5.heap.size, stN 1 0 (z + 1) h5 2 (l.length + 1) 3 0, TSt)] (STS [(h5, snSt (z + 1) u0 u1 (l ++ [⟨z, u, pk, (k : Int)⟩]) ad'), (h, snSt z u0 u1 l ad)] (SnR a cp l))) (w5.alloc (.cells (stN 1 0 (z + 1) h5 2 (l.length + 1) 3 0) TSt)) := OB.hold (STS.good (snR_good _ _ _)) qa (stN 1 0 (z + 1) h5 2 (l.length + 1) 3 0) TSt rfl; clear qa; have e5 := (OB.at q5 (i := 3) rfl).cell; have HQ5 := Lib.hid (SnR.row q5); clear q5)
                    | (at_builtin; refine se_appLit2 (OB.good (STS.good emp_good)) rfl _ _ rfl a l.length cp l [⟨z, u, pk, (k : Int)⟩] 1 rfl rfl (by simp) rfl rfl HQ5.out (by omega) ?_; intro a6 c6 w6 hA6; have q6 : At w (OB [(b1, cfC cfS, TCf), (b2, stN 1 0 z h 2 l.length 3 0, TSt), (b3, #[.int .i64 u0, .int .i64 u1], TIn), (wr.heap.size, #[.int .i64 z, .int .i64 u, .int .i64 pk, .int .i64 (k : Int)], TSe), (w5.heap.size, stN 1 0 (z + 1) h5 2 (l.length + 1) 3 0, TSt)] (STS [(h5, snSt (z + 1) u0 u1 (l ++ [⟨z, u, pk, (k : Int)⟩]) ad'), (h, snSt z u0 u1 l ad)] (SnR a6 c6 (l ++ [⟨z, u, pk, (k : Int)⟩])))) w6 := SnR.of (by rw [hlen]; rw [hlen] at hA6; exact hA6); clear hA6; have e6 := (OB.at q6 (i := 1) rfl).cell; have g6 := (OB.at q6 (i := 1) rfl).froz; have d6 := (OB.at q6 (i := 4) rfl).cell; have q8 := OB.put7 (STS.good (snR_good _ _ _)) q6 (i := 1) rfl (.int .i64 1) (.int .i64 0) (.int .i64 (z + 1)) (.slice h5.u 2 h5.uc) (.slice h5.s (l.length + 1) h5.sc) (.slice h5.p 3 h5.pc) (.slice h5.i 0 h5.ic); have HQ8 := Lib.hid q8; clear q8 q6)
                    | (go_at_call 11; (with_reducible refine (lnum _ _).mono ?_); rintro r wn ⟨rfl, rfl⟩))
                  go_meet
                  refine ⟨z + 1, u0, u1, l ++ [⟨z, u, pk, (k : Int)⟩], ad', a6, c6, h5, rfl, by rw [hlen], HI'.out, ?_⟩
                  rw [hlen]
                  have q9 := HQ8.out
                  exact STS.drop 1 rfl (OB.drop 3 rfl (OB.drop 4 rfl q9))
          | false =>
            have hna : ¬ m1 = 0 ∧ ¬ l.length = 0 := by
              have := HAA.out
              simpa using this
            obtain ⟨-, hnl⟩ := hna
            have q := HQ0.out
            have hl1 : 1 ≤ l.length := by omega
            have hlen3 := HI.out.len
            obtain ⟨g, rfl, -, hcap⟩ := se_big (SnR.row q) hl1
            obtain ⟨m, hm, m0, m1'⟩ := and1023 (x / 2)
            obtain ⟨b, hb, b0, b1'⟩ := and255 x
            have hlI : (0 : Int) < (l.length : Int) := by omega
            obtain ⟨j, htm, hj⟩ : ∃ j : Nat, Int.tmod m (l.length : Int) = (j : Int) ∧ j < l.length := by
              refine ⟨(Int.tmod m (l.length : Int)).toNat, ?_, ?_⟩
              · have := Int.tmod_nonneg (l.length : Int) m0; omega
              · have h1 := Int.tmod_nonneg (l.length : Int) m0; have h2 := Int.tmod_lt_of_pos m hlI; omega
            obtain ⟨⟨ys, yu, ya, yt⟩, hy⟩ : ∃ y, l.getD j Se.none = y := ⟨_, rfl⟩
            have hmem : (⟨ys, yu, ya, yt⟩ : Se) ∈ l := by rw [← hy, show l.getD j Se.none = l[j] by simp [List.getD, hj]]; exact List.getElem_mem hj
            obtain ⟨-, -, -, -, hyu⟩ := HI.out.el _ hmem
            obtain ⟨uN, v, rfl, huN, huc, v0, v1, hus⟩ := sn_used (b := b) hyu HI.out.a0 HI.out.a1 HI.out.b0 HI.out.b1
            obtain ⟨e1, e2, e3⟩ := sn_end HI.out hlt40 hj hy b0 b1'
            obtain ⟨u0', hu0⟩ : ∃ t, snAdd 0 u0 (uN : Int) b = t := ⟨_, rfl⟩
            obtain ⟨u1', hu1⟩ : ∃ t, snAdd 1 u1 (uN : Int) b = t := ⟨_, rfl⟩
            obtain ⟨l', hl'⟩ : ∃ t, l.take j ++ l.drop (j + 1) = t := ⟨_, rfl⟩
            obtain ⟨ad', had'⟩ : ∃ t, ad.set ya.toNat ⟨false, (ad.getD ya.toNat .none).l, (k : Int)⟩ = t := ⟨_, rfl⟩
            dsimp only at e1 e2 e3
            rw [hu0, hu1, hl', had'] at e1 e3
            rw [hu0, hu1] at hus
            obtain ⟨of, hA, hat⟩ : ∃ of : Nat, (if cp = j + 1 then some (⟨g, 0, none⟩ : Addr) else some ⟨g, (j + 1) * 4, none⟩) = some ⟨g, of, none⟩ ∧ ∀ W, SeAt W g 0 l → SeAt W g of (l.drop (j + 1)) := by
              by_cases hcc : cp = j + 1
              · exact ⟨0, by rw [if_pos hcc], fun W _ => by rw [List.drop_of_length_le (by omega)]; exact seAt_nil⟩
              · exact ⟨(j + 1) * 4, by rw [if_neg hcc], fun W h => by have := seAt_drop h (k := j + 1) (by omega); rw [Nat.zero_add] at this; exact this⟩
            have HAT := Lib.hid hat
            have HLEN := Lib.hid (show l'.length = j + (l.length - (j + 1)) by rw [← hl', List.length_append, List.length_take, List.length_drop]; omega)
            obtain ⟨T, hT⟩ : ∃ t, snSt z u0' u1' l' ad' = t := ⟨_, rfl⟩
            rw [hT] at e1
            have HT := Lib.hid hT
            have HS := Lib.hid (And.intro e1 e2)
            have HI' := Lib.hid e3
            have HY := Lib.hid hy
            have HL := Lib.hid hl'
            have HUC := Lib.hid huc
            have HUS := Lib.hid hus
            have HSM := Lib.hid (HI.out.sm (by omega))
            have HA := Lib.hid (stN_is (z := z) (u0 := u0) (u1 := u1) (h := h) (l := l) HI.out.al)
            have hk40' : (k : Int) < 40 := hltJ
            have hwu : IntKind.i64.wrap (v + b) = v + b := by rw [IntKind.wrap_i64]; omega
            have hwj : IntKind.i64.wrap ((j : Int) + 1) = (j : Int) + 1 := by rw [IntKind.wrap_i64]; omega
            have hwj0 : IntKind.i64.wrap (j : Int) = (j : Int) := by rw [IntKind.wrap_i64]; omega
            have hjI : (j : Int) < (l.length : Int) := by omega
            have hj1 : (j : Int) + 1 ≤ (l.length : Int) := by omega
            have hjc : (j : Int) ≤ (cp : Int) := by omega
            have huI : (uN : Int) < 2 := by omega
            have hl0 : ¬ (l.length : Int) = 0 := by omega
            have hl0' : ¬ l.length = 0 := by omega
            clear e1 e2 e3 hy hl' had' hu0 hu1 huc hus hmem hyu hT hat
            go_wp2
            clear hc
            refine st_merge (Φ := fun (p : Nat) (h2 : Sv) Z => At w (OB [(b1, cfC cfS, TCf), (b2, stN 1 0 z h 2 l.length 3 0, TSt), (b3, #[.int .i64 u0, .int .i64 u1], TIn), (p, stC h2 T, TSt)] (STS [(h2, T), (h, snSt z u0 u1 l ad)] (SnR (some ⟨g, 0, none⟩) cp l))) Z) (K := ?K1) ?h1 ?h2
            case h1 =>
              intro hK
              refine region_held (S := fun Z => Blk Z b1 (cfC cfS) ∧ Blk Z b2 (stN 1 0 z h 2 l.length 3 0) ∧ Z.cell? ⟨g, j * 4, none⟩ = some (.int .i64 ys) ∧ Z.cell? ⟨ba, oa + k, none⟩ = some (.int .i64 x)) 21 [false, false, false, false, false, false, false, false, false, false, false, false, false, false, false, false, false, false, false, false, false] rfl rfl (by as_aux_lemma => kernel_rfl) fun Y hW => ?_
              have q3 := OB.lay (STS.good (snR_good _ _ _)) q (us_drew wc)
              rw [← hW] at q3
              have hSq3 := And.intro (OB.at q3 (i := 0) rfl) (And.intro (OB.at q3 (i := 1) rfl) (And.intro (seEl (SnR.row q3) hj HY.out).1 (HCELL.out _ (At.bel q3))))
              clear hW
              refine run_go [(0, ssa0, (some 121)), (1, ssa1, (some 122)), (2, ssa2, (some 123)), (3, ssa3, (some 124)), (4, ssa4, (some 125)), (5, ssa5, (some 126)), (6, ssa6, (some 127)), (7, ssa7, (some 128)), (8, ssa8, (some 129)), (9, ssa9, (some 130)), (10, ssa10, (some 131)), (11, ssa11, (some 132)), (12, ssa12, (some 133)), (13, ssa13, (some 134))] (by as_aux_lemma => kernel_rfl) ?_
              iterate 14 (refine run_take ?_ rfl rfl (fun _ _ _ h => h) (Or.inl ⟨by rfl, ?_⟩) hSq3 ?_; rotate_left; (· (intro w0' hy0; first | (go_simp <;> with_reducible rfl) | (have e0 := hy0.1.cell; (go_simp <;> with_reducible rfl)) | (have e1 := hy0.2.1.cell; (go_simp <;> with_reducible rfl)) | (have e2 := hy0.2.2.1; (go_simp <;> with_reducible rfl)) | (have e3 := hy0.2.2.2; (go_simp <;> with_reducible rfl)))); simp only [Act.put, List.setIfInBounds_toArray, List.set_cons_zero, List.set_cons_succ])
              refine run_end ?_
              refine jtwo 14 18 (by as_aux_lemma => kernel_rfl) ?_ ?_
              · refine jop_callv 14 ssa14 (some 135) (fun v Z => ∃ h2 : Sv, v = .tuple #[.agg (stC h2 T), .int .i64 0] ∧ At w (OB [(b1, cfC cfS, TCf), (b2, stN 1 0 z h 2 l.length 3 0, TSt), (b3, #[.int .i64 u0, .int .i64 u1], TIn)] (STS [(h2, T), (h, snSt z u0 u1 l ad)] (SnR (some ⟨g, 0, none⟩) cp l))) Z) 13 #[.agg (cfC cfS), .agg (stN 1 0 z h 2 l.length 3 0), .agg (evA ⟨6, 0, ys, 0, b, 0, 0, (k : Int)⟩)] rfl rfl (by rfl) (by go_simp <;> with_reducible rfl) ((P.oapplyA (e := ⟨6, 0, ys, 0, b, 0, 0, (k : Int)⟩) (snR_good _ _ _) q3 (i := 0) rfl HSM.out (stN 1 0 z h 2 l.length 3 0) HA.out HS.out.1 HS.out.2).mono fun _ _ ⟨h2, e1, z⟩ => ⟨_, e1, h2, rfl, z⟩) (fun v Z ⟨h2, _, z⟩ => And.intro (OB.at z (i := 0) rfl) (And.intro (OB.at z (i := 1) rfl) (And.intro (seEl (SnR.row z) hj HY.out).1 (HCELL.out _ (At.bel z))))) ?_
                rintro v V4 ⟨h2, rfl, q4⟩
                simp only [Act.put, List.setIfInBounds_toArray, List.set_cons_zero, List.set_cons_succ]
                have hSq4 := And.intro (OB.at q4 (i := 0) rfl) (And.intro (OB.at q4 (i := 1) rfl) (And.intro (seEl (SnR.row q4) hj HY.out).1 (HCELL.out _ (At.bel q4))))
                refine run_go [(15, ssa15, (some 120)), (16, ssa16, (some 136)), (17, ssa17, (some 137))] (by as_aux_lemma => kernel_rfl) ?_
                iterate 3 (refine run_take ?_ rfl rfl (fun _ _ _ h => h) (Or.inl ⟨by rfl, ?_⟩) hSq4 ?_; rotate_left; (· (intro w0' hy0; first | (go_simp <;> with_reducible rfl) | (have e0 := hy0.1.cell; (go_simp <;> with_reducible rfl)) | (have e1 := hy0.2.1.cell; (go_simp <;> with_reducible rfl)) | (have e2 := hy0.2.2.1; (go_simp <;> with_reducible rfl)) | (have e3 := hy0.2.2.2; (go_simp <;> with_reducible rfl)))); simp only [Act.put, List.setIfInBounds_toArray, List.set_cons_zero, List.set_cons_succ])
                refine run_end ?_
                have q5 := OB.hold (STS.good (snR_good _ _ _)) q4 stZ TSt rfl
                refine held_one 18 ssa18 (some 18) (.pointer (some ⟨V4.heap.size, 0, none⟩)) (V4.alloc (.cells stZ TSt)) (by as_aux_lemma => kernel_rfl) rfl rfl (by rfl) (by go_simp <;> with_reducible rfl) (And.intro (OB.at q5 (i := 0) rfl) (And.intro (OB.at q5 (i := 1) rfl) (And.intro (seEl (SnR.row q5) hj HY.out).1 (HCELL.out _ (At.bel q5))))) ?_
                simp only [Act.put, List.setIfInBounds_toArray, List.set_cons_zero, List.set_cons_succ]
                generalize V4.alloc (.cells stZ TSt) = V5 at *
                generalize V4.heap.size = p at *
                have kp := OB.at q5 (i := 3) rfl
                have ep := kp.cell
                have gp := kp.froz
                obtain ⟨V6, hZ, q6⟩ : ∃ Z, (((((((V5.setCell ⟨p, 0, none⟩ (.int .i64 T.b)).setCell ⟨p, 1, none⟩ (.int .i64 T.e)).setCell ⟨p, 2, none⟩ (.int .i64 T.n)).setCell ⟨p, 3, none⟩ (.slice h2.u T.us.length h2.uc)).setCell ⟨p, 4, none⟩ (.slice h2.s T.ss.length h2.sc)).setCell ⟨p, 5, none⟩ (.slice h2.p T.ad.length h2.pc)).setCell ⟨p, 6, none⟩ (.slice h2.i T.sp.length h2.ic)) = Z ∧ At w (OB [(b1, cfC cfS, TCf), (b2, stN 1 0 z h 2 l.length 3 0, TSt), (b3, #[.int .i64 u0, .int .i64 u1], TIn), (p, stC h2 T, TSt)] (STS [(h2, T), (h, snSt z u0 u1 l ad)] (SnR (some ⟨g, 0, none⟩) cp l))) Z := ⟨_, rfl, OB.put7 (STS.good (snR_good _ _ _)) q5 (i := 3) rfl (.int .i64 T.b) (.int .i64 T.e) (.int .i64 T.n) (.slice h2.u T.us.length h2.uc) (.slice h2.s T.ss.length h2.sc) (.slice h2.p T.ad.length h2.pc) (.slice h2.i T.sp.length h2.ic)⟩
                refine held_void 19 ssa19 V6 (by as_aux_lemma => kernel_rfl) rfl (by rfl) (by go_simp <;> with_reducible rfl) (And.intro (OB.at q6 (i := 0) rfl) (And.intro (OB.at q6 (i := 1) rfl) (And.intro (seEl (SnR.row q6) hj HY.out).1 (HCELL.out _ (At.bel q6))))) ?_
                simp only [Act.put, List.setIfInBounds_toArray, List.set_cons_zero, List.set_cons_succ]
                clear ep gp kp hZ
                refine run_go [(20, ssa20, (some 19))] (by as_aux_lemma => kernel_rfl) ?_
                iterate 1 (refine run_take ?_ rfl rfl (fun _ _ _ h => h) (Or.inl ⟨by rfl, ?_⟩) (And.intro (OB.at q6 (i := 0) rfl) (And.intro (OB.at q6 (i := 1) rfl) (And.intro (seEl (SnR.row q6) hj HY.out).1 (HCELL.out _ (At.bel q6))))) ?_; rotate_left; (· (intro w0' hy0; first | (go_simp <;> with_reducible rfl) | (have e0 := hy0.1.cell; (go_simp <;> with_reducible rfl)) | (have e1 := hy0.2.1.cell; (go_simp <;> with_reducible rfl)) | (have e2 := hy0.2.2.1; (go_simp <;> with_reducible rfl)) | (have e3 := hy0.2.2.2; (go_simp <;> with_reducible rfl)))); simp only [Act.put, List.setIfInBounds_toArray, List.set_cons_zero, List.set_cons_succ])
                refine run_end ?_
                refine wpAnyH_done (by as_aux_lemma => kernel_rfl) ?_ _
                exact hK p h2 V6 q6
              · have q4 := OB.hold (STS.good (snR_good _ _ _)) q3 stZ TSt rfl
                refine jop_one 18 ssa18 (some 18) (.pointer (some ⟨Y.heap.size, 0, none⟩)) (Y.alloc (.cells stZ TSt)) rfl rfl (by rfl) (by go_simp <;> with_reducible rfl) (And.intro (OB.at q4 (i := 0) rfl) (And.intro (OB.at q4 (i := 1) rfl) (And.intro (seEl (SnR.row q4) hj HY.out).1 (HCELL.out _ (At.bel q4))))) ?_
                simp only [Act.put, List.setIfInBounds_toArray, List.set_cons_zero, List.set_cons_succ]
                generalize Y.alloc (.cells stZ TSt) = V4 at *
                generalize Y.heap.size = p at *
                refine held_callv 14 ssa14 (some 135) (fun v Z => ∃ h2 : Sv, v = .tuple #[.agg (stC h2 T), .int .i64 0] ∧ At w (OB [(b1, cfC cfS, TCf), (b2, stN 1 0 z h 2 l.length 3 0, TSt), (b3, #[.int .i64 u0, .int .i64 u1], TIn), (p, stZ, TSt)] (STS [(h2, T), (h, snSt z u0 u1 l ad)] (SnR (some ⟨g, 0, none⟩) cp l))) Z) 13 #[.agg (cfC cfS), .agg (stN 1 0 z h 2 l.length 3 0), .agg (evA ⟨6, 0, ys, 0, b, 0, 0, (k : Int)⟩)] (by as_aux_lemma => kernel_rfl) rfl rfl (by rfl) (by go_simp <;> with_reducible rfl) ((P.oapplyA (e := ⟨6, 0, ys, 0, b, 0, 0, (k : Int)⟩) (snR_good _ _ _) q4 (i := 0) rfl HSM.out (stN 1 0 z h 2 l.length 3 0) HA.out HS.out.1 HS.out.2).mono fun _ _ ⟨h2, e1, z⟩ => ⟨_, e1, h2, rfl, z⟩) (fun v Z ⟨h2, _, z⟩ => And.intro (OB.at z (i := 0) rfl) (And.intro (OB.at z (i := 1) rfl) (And.intro (seEl (SnR.row z) hj HY.out).1 (HCELL.out _ (At.bel z))))) ?_
                rintro v V5 ⟨h2, rfl, q5⟩
                simp only [Act.put, List.setIfInBounds_toArray, List.set_cons_zero, List.set_cons_succ]
                have hSq5 := And.intro (OB.at q5 (i := 0) rfl) (And.intro (OB.at q5 (i := 1) rfl) (And.intro (seEl (SnR.row q5) hj HY.out).1 (HCELL.out _ (At.bel q5))))
                refine run_go [(15, ssa15, (some 120)), (16, ssa16, (some 136)), (17, ssa17, (some 137))] (by as_aux_lemma => kernel_rfl) ?_
                iterate 3 (refine run_take ?_ rfl rfl (fun _ _ _ h => h) (Or.inl ⟨by rfl, ?_⟩) hSq5 ?_; rotate_left; (· (intro w0' hy0; first | (go_simp <;> with_reducible rfl) | (have e0 := hy0.1.cell; (go_simp <;> with_reducible rfl)) | (have e1 := hy0.2.1.cell; (go_simp <;> with_reducible rfl)) | (have e2 := hy0.2.2.1; (go_simp <;> with_reducible rfl)) | (have e3 := hy0.2.2.2; (go_simp <;> with_reducible rfl)))); simp only [Act.put, List.setIfInBounds_toArray, List.set_cons_zero, List.set_cons_succ])
                refine run_end ?_
                have kp := OB.at q5 (i := 3) rfl
                have ep := kp.cell
                have gp := kp.froz
                obtain ⟨V6, hZ, q6⟩ : ∃ Z, (((((((V5.setCell ⟨p, 0, none⟩ (.int .i64 T.b)).setCell ⟨p, 1, none⟩ (.int .i64 T.e)).setCell ⟨p, 2, none⟩ (.int .i64 T.n)).setCell ⟨p, 3, none⟩ (.slice h2.u T.us.length h2.uc)).setCell ⟨p, 4, none⟩ (.slice h2.s T.ss.length h2.sc)).setCell ⟨p, 5, none⟩ (.slice h2.p T.ad.length h2.pc)).setCell ⟨p, 6, none⟩ (.slice h2.i T.sp.length h2.ic)) = Z ∧ At w (OB [(b1, cfC cfS, TCf), (b2, stN 1 0 z h 2 l.length 3 0, TSt), (b3, #[.int .i64 u0, .int .i64 u1], TIn), (p, stC h2 T, TSt)] (STS [(h2, T), (h, snSt z u0 u1 l ad)] (SnR (some ⟨g, 0, none⟩) cp l))) Z := ⟨_, rfl, OB.put7 (STS.good (snR_good _ _ _)) q5 (i := 3) rfl (.int .i64 T.b) (.int .i64 T.e) (.int .i64 T.n) (.slice h2.u T.us.length h2.uc) (.slice h2.s T.ss.length h2.sc) (.slice h2.p T.ad.length h2.pc) (.slice h2.i T.sp.length h2.ic)⟩
                refine held_void 19 ssa19 V6 (by as_aux_lemma => kernel_rfl) rfl (by rfl) (by go_simp <;> with_reducible rfl) (And.intro (OB.at q6 (i := 0) rfl) (And.intro (OB.at q6 (i := 1) rfl) (And.intro (seEl (SnR.row q6) hj HY.out).1 (HCELL.out _ (At.bel q6))))) ?_
                simp only [Act.put, List.setIfInBounds_toArray, List.set_cons_zero, List.set_cons_succ]
                clear ep gp kp hZ
                refine run_go [(20, ssa20, (some 19))] (by as_aux_lemma => kernel_rfl) ?_
                iterate 1 (refine run_take ?_ rfl rfl (fun _ _ _ h => h) (Or.inl ⟨by rfl, ?_⟩) (And.intro (OB.at q6 (i := 0) rfl) (And.intro (OB.at q6 (i := 1) rfl) (And.intro (seEl (SnR.row q6) hj HY.out).1 (HCELL.out _ (At.bel q6))))) ?_; rotate_left; (· (intro w0' hy0; first | (go_simp <;> with_reducible rfl) | (have e0 := hy0.1.cell; (go_simp <;> with_reducible rfl)) | (have e1 := hy0.2.1.cell; (go_simp <;> with_reducible rfl)) | (have e2 := hy0.2.2.1; (go_simp <;> with_reducible rfl)) | (have e3 := hy0.2.2.2; (go_simp <;> with_reducible rfl)))); simp only [Act.put, List.setIfInBounds_toArray, List.set_cons_zero, List.set_cons_succ])
                refine run_end ?_
                refine wpAnyH_done (by as_aux_lemma => kernel_rfl) ?_ _
                exact hK p h2 V6 q6
            case h2 =>
              intro p h2 Zn qn
              clear q
              go_wp2_with ((go_at_call 11; (with_reducible refine (lnum _ _).mono ?_); rintro r wn ⟨rfl, rfl⟩))
              refine region_held (S := fun Z => Z.cell? ⟨g, j * 4 + 1, none⟩ = some (.int .i64 (uN : Int)) ∧ Z.cell? ⟨ba, oa + k, none⟩ = some (.int .i64 x)) 22 [false, false, false, false, false, false, false, false, false, false, false, false, false, false, false, false, false, false, false, false, false, false] rfl rfl (by as_aux_lemma => kernel_rfl) fun Y3 hW => ?_
              have q4 := OB.lay (STS.good (snR_good _ _ _)) qn (us_drew Zn)
              rw [← hW] at q4
              clear hW qn
              have hS3 : (fun Z => Z.cell? ⟨g, j * 4 + 1, none⟩ = some (.int .i64 (uN : Int)) ∧ Z.cell? ⟨ba, oa + k, none⟩ = some (.int .i64 x)) Y3 := And.intro (seEl (SnR.row q4) hj HY.out).2.1 (HCELL.out _ (At.bel q4))
              refine run_go [(0, ssb0, (some 141)), (1, ssb1, (some 142)), (2, ssb2, (some 143)), (3, ssb3, (some 144)), (4, ssb4, (some 145)), (5, ssb5, (some 146)), (6, ssb6, (some 147)), (7, ssb7, (some 148)), (8, ssb8, (some 149)), (9, ssb9, (some 150)), (10, ssb10, (some 151)), (11, ssb11, (some 152)), (12, ssb12, (some 153)), (14, ssb14, (some 155)), (15, ssb15, (some 156)), (16, ssb16, (some 157)), (17, ssb17, (some 158)), (18, ssb18, (some 159))] (by as_aux_lemma => kernel_rfl) ?_
              iterate 18 (refine run_take ?_ rfl rfl (fun _ _ _ h => h) (Or.inl ⟨by rfl, ?_⟩) hS3 ?_; rotate_left; (· (intro w0' hy0; obtain ⟨r0, r1⟩ := hy0; (go_simp <;> with_reducible rfl))); simp only [Act.put, List.setIfInBounds_toArray, List.set_cons_zero, List.set_cons_succ])
              refine run_end ?_
              have ku := OB.at q4 (i := 2) rfl
              have eu := ku.cell
              have eu2 := (eu uN).trans HUC.out
              clear eu
              refine held_one 13 ssb13 (some 154) (.int .i64 v) (Y3) (by as_aux_lemma => kernel_rfl) rfl rfl (by rfl) (by go_simp <;> with_reducible rfl) (hS3) ?_
              simp only [Act.put, List.setIfInBounds_toArray, List.set_cons_zero, List.set_cons_succ]
              clear eu2 ku
              refine run_go [(19, ssb19, (some 160)), (20, ssb20, (some 161))] (by as_aux_lemma => kernel_rfl) ?_
              iterate 2 (refine run_take ?_ rfl rfl (fun _ _ _ h => h) (Or.inl ⟨by rfl, ?_⟩) hS3 ?_; rotate_left; (· (intro w0' hy0; obtain ⟨r0, r1⟩ := hy0; (go_simp <;> with_reducible rfl))); simp only [Act.put, List.setIfInBounds_toArray, List.set_cons_zero, List.set_cons_succ])
              refine run_end ?_
              have ku := OB.at q4 (i := 2) rfl
              have gu := ku.froz
              have eu := ku.cell
              have eu2 := (eu uN).trans HUC.out
              clear eu
              have q5 : At w (OB [(b1, cfC cfS, TCf), (b2, stN 1 0 z h 2 l.length 3 0, TSt), (b3, #[.int .i64 u0', .int .i64 u1'], TIn), (p, stC h2 T, TSt)] (STS [(h2, T), (h, snSt z u0 u1 l ad)] (SnR (some ⟨g, 0, none⟩) cp l))) (Y3.setCell ⟨b3, uN, none⟩ (.int .i64 (v + b))) := by
                have h5 := OB.poke (STS.good (snR_good _ _ _)) q4 2 rfl uN (.int .i64 (v + b))
                rw [HUS.out] at h5
                exact h5
              obtain ⟨Y4, hY4⟩ : ∃ Z, Y3.setCell ⟨b3, uN, none⟩ (.int .i64 (v + b)) = Z := ⟨_, rfl⟩
              rw [hY4] at q5
              refine held_void 21 ssb21 Y4 (by kernel_rfl) rfl (by rfl) (by rw [← hY4]; go_simp <;> with_reducible rfl) (And.intro (seEl (SnR.row q5) hj HY.out).2.1 (HCELL.out _ (At.bel q5))) ?_
              simp only [Act.put, List.setIfInBounds_toArray, List.set_cons_zero, List.set_cons_succ]
              clear eu2 ku gu hY4 q4
              refine wpAnyH_done (by as_aux_lemma => kernel_rfl) ?_ _
              have HQ5 := Lib.hid q5
              clear q5
              go_wp2_with (first
              | (at_builtin; refine se_dupC (OB.good (STS.good (snR_good _ _ _))) rfl _ _ rfl (some ⟨g, 0, none⟩) j cp (l.take j) rfl (by simp) rfl HQ5.out (seIn_take (SnR.in HQ5.out (by omega)) hj) (by simp) (by omega) ?_; intro a6 c6 w6 hS6; have HS6 := Lib.hid hS6; clear hS6)
              | (at_builtin; obtain ⟨a7, c7, w7, hr7, hS7⟩ := se_grow (c := cp - (j + 1)) (k := l.length - (j + 1)) (n := j) (OB.good (STS.good (snR_good _ _ _))) HS6.out (HAT.out _ (seAt_row (SnR.row HS6.out.drop)).1) (by rw [List.length_drop]) (by rw [List.length_take]; omega) 28; refine se_app rfl _ _ rfl rfl rfl hr7 ?_; rw [HL.out, ← HLEN.out] at hS7; have HS7 := Lib.hid (SnR.of (SnR.turn hS7)); clear hS7 hr7; have f1 := (OB.at HS7.out (i := 1) rfl).cell; have g1 := (OB.at HS7.out (i := 1) rfl).froz; have f3 := (OB.at HS7.out (i := 3) rfl).cell; have q8 := OB.put7 (STS.good (snR_good _ _ _)) HS7.out (i := 1) rfl (.int .i64 T.b) (.int .i64 T.e) (.int .i64 T.n) (.slice h2.u T.us.length h2.uc) (.slice h2.s T.ss.length h2.sc) (.slice h2.p T.ad.length h2.pc) (.slice h2.i T.sp.length h2.ic); have HQ8 := Lib.hid q8; clear q8))
              go_meet
              refine ⟨z, u0', u1', l', ad', a7, c7, h2, rfl, by rw [HLEN.out], HI'.out, ?_⟩
              have hst : stC h2 T = stN 1 0 z h2 2 l'.length 3 0 := by rw [← HT.out]; exact (stN_is HI'.out.al).symm
              rw [HT.out, ← hst]
              exact STS.drop 1 rfl (OB.drop 3 rfl HQ8.out)
        case rest => as_aux_lemma =>
          obtain ⟨z', u0', u1', l', ad', a', cp', h', rfl, rfl, hI', q'⟩ := hcut
          have HI2 := Lib.hid hI'
          have HSM2 := Lib.hid (hI'.sm (by omega))
          have HLL := Lib.hid (show l'.length ≤ 4398046511104 by have := hI'.len; omega)
          have HQ := Lib.hid q'
          have hsm := hI'.sm (show k + 1 ≤ 40 by omega)
          obtain ⟨tb, tof, etu, htc⟩ := STS.us q' (i := 0) rfl hsm (j := 0) (by show 0 < 2; decide) (a := ⟨0, 5, 6, 50, u0', 0, 0, 0, 0⟩) rfl
          obtain ⟨b6, o6, e6, htd⟩ := STS.us q' (i := 0) rfl hsm (j := 1) (by show 1 < 2; decide) (a := ⟨1, 7, 8, 60, u1', 0, 0, 0, 0⟩) rfl
          obtain ⟨rfl, rfl⟩ : tb = b6 ∧ tof = o6 := by rw [etu] at e6; simpa using e6
          have HT := Lib.hid (And.intro htc htd)
          clear htc htd e6 hI' q' hsm
          go_wp2
          have f1 := fun s : Wl wc => (OB.at (OB.lay (STS.good (snR_good _ _ _)) HQ.out s.h) (i := 1) rfl).cell
          have f2 := fun s : Wl wc => (OB.at (OB.lay (STS.good (snR_good _ _ _)) HQ.out s.h) (i := 2) rfl).cell
          have x4 := fun s : Wl wc => (HT.out.1 _ s.h).2.2.2.2.1
          have y4 := fun s : Wl wc => (HT.out.2 _ s.h).2.2.2.2.1
          simp only [Nat.zero_mul, Nat.add_zero] at x4
          simp only [Nat.one_mul] at y4
          refine wp_region_wl wc (Below.refl _ _) (by kernel_rfl) (by kernel_rfl) ?_
          repeat (go_big_quiet_step ((go_at_call 16; exact Calls.wl (se_yes (show SeIn [] _ h'.s l'.length l' from (STS.at (OB.lay (STS.good (snR_good _ _ _)) HQ.out (Wl.h _)) (i := 0) rfl HSM2.out).ss) (SnR.in (OB.lay (STS.good (snR_good _ _ _)) HQ.out (Wl.h _)) HLL.out)))))
          refine wpQuiet_nil ?_
          rintro _ ⟨⟨Z, hZ⟩, rfl⟩
          clear f1 f2 x4 y4
          have HQ9 := Lib.hid (OB.lay (STS.good (snR_good _ _ _)) HQ.out hZ)
          go_wp2
          go_roundw
          case rel => exact ⟨k + 1, z', u0', u1', l', ad', a', cp', h', by omega, by omega, by go_num, rfl, rfl, (show Aside _ from HI2.out), (show Aside _ from HQ9.out)⟩
          case measure => simp [intOf]; omega
    · have hcond : ¬ ((k : Int) < (n : Int) ∧ (k : Int) < 40) := by omega
      have HQ := Lib.hid q
      clear q
      by_cases h1 : (k : Int) < (n : Int)
      · have h2 : ¬ (k : Int) < 40 := fun c => hcond ⟨h1, c⟩
        clear hcond
        go_wp2
        go_ret
        exact ⟨rfl, HQ.out.bel⟩
      · clear hcond
        go_wp2
        go_ret
        exact ⟨rfl, HQ.out.bel⟩
end Go.Proofs.Ytopkcaflmpjhgaa
