/- The operations of SuperForms' region, written out. No condition. -/
import Derived.Test.YtiebpjkppjollaaDoorSuaw
import Derived.Test.YtiebpjkppjollaaDoorBdz
import Derived.Test.YtiebpjkppjollaaDoorReg
namespace Go.Proofs.YtiebpjkppjollaaDoor
open Go

abbrev sf0 : Oper := { dst := some 78, op := Op.move (Operand.tmp 8), type := 9, pos := "more.go:27", after := #[], guard := none }
abbrev sf1 : Oper := { dst := some 79, op := Op.slice 9 (Operand.tmp 78) (some (Operand.const (Value.int IntKind.i64 1))) none none, type := 9, pos := "more.go:27", after := #[{ on := 0, ground := Ground.data }], guard := none }
abbrev sf2 : Oper := { dst := some 80, op := Op.move (Operand.tmp 8), type := 9, pos := "more.go:27", after := #[], guard := none }
abbrev sf3 : Oper := { dst := some 81, op := Op.binOp BinOp.add 9 (Operand.tmp 80) (Operand.const (Value.string { data := #[0] })) 9, type := 9, pos := "more.go:27", after := #[{ on := 2, ground := Ground.data }], guard := none }
abbrev sf4 : Oper := { dst := some 82, op := Op.move (Operand.tmp 8), type := 9, pos := "more.go:27", after := #[], guard := none }
abbrev sf5 : Oper := { dst := some 83, op := Op.slice 9 (Operand.tmp 82) (some (Operand.const (Value.int IntKind.i64 1))) none none, type := 9, pos := "more.go:27", after := #[{ on := 4, ground := Ground.data }], guard := none }
abbrev sf6 : Oper := { dst := some 84, op := Op.binOp BinOp.add 9 (Operand.const (Value.string { data := #[1] })) (Operand.tmp 83) 9, type := 9, pos := "more.go:27", after := #[{ on := 5, ground := Ground.data }], guard := none }
abbrev sf7 : Oper := { dst := some 85, op := Op.move (Operand.tmp 8), type := 9, pos := "more.go:27", after := #[], guard := none }
abbrev sf8 : Oper := { dst := some 86, op := Op.slice 9 (Operand.tmp 85) none (some (Operand.const (Value.int IntKind.i64 2))) none, type := 9, pos := "more.go:27", after := #[{ on := 7, ground := Ground.data }], guard := none }
abbrev sf9 : Oper := { dst := some 87, op := Op.binOp BinOp.add 9 (Operand.tmp 86) (Operand.const (Value.string { data := #[1] })) 9, type := 9, pos := "more.go:27", after := #[{ on := 8, ground := Ground.data }], guard := none }
abbrev sf10 : Oper := { dst := some 88, op := Op.move (Operand.tmp 8), type := 9, pos := "more.go:27", after := #[], guard := none }
abbrev sf11 : Oper := { dst := some 89, op := Op.slice 9 (Operand.tmp 88) (some (Operand.const (Value.int IntKind.i64 3))) none none, type := 9, pos := "more.go:27", after := #[{ on := 10, ground := Ground.data }], guard := none }
abbrev sf12 : Oper := { dst := some 90, op := Op.binOp BinOp.add 9 (Operand.tmp 87) (Operand.tmp 89) 9, type := 9, pos := "more.go:27", after := #[{ on := 9, ground := Ground.data }, { on := 11, ground := Ground.data }], guard := none }
abbrev sf13 : Oper := { dst := some 91, op := Op.move (Operand.tmp 8), type := 9, pos := "more.go:27", after := #[], guard := none }
abbrev sf14 : Oper := { dst := some 92, op := Op.slice 9 (Operand.tmp 91) none (some (Operand.const (Value.int IntKind.i64 63))) none, type := 9, pos := "more.go:27", after := #[{ on := 13, ground := Ground.data }], guard := none }
abbrev sf15 : Oper := { dst := some 93, op := Op.binOp BinOp.add 9 (Operand.tmp 92) (Operand.const (Value.string { data := #[1] })) 9, type := 9, pos := "more.go:27", after := #[{ on := 14, ground := Ground.data }], guard := none }
abbrev sf16 : Oper := { dst := some 94, op := Op.makeSlice 45 (Operand.const (Value.int IntKind.i64 64)) (Operand.const (Value.int IntKind.i64 64)), type := 45, pos := "more.go:27", after := #[], guard := none }
abbrev sf17 : Oper := { dst := some 95, op := Op.convert 45 9 (Operand.tmp 94), type := 9, pos := "more.go:27", after := #[{ on := 16, ground := Ground.data }], guard := none }
abbrev sf18 : Oper := { dst := some 96, op := Op.buildSlice 53 7 #[(0, Operand.const (Value.string { data := #[] })), (1, Operand.tmp 79), (2, Operand.tmp 81), (3, Operand.tmp 84), (4, Operand.tmp 90), (5, Operand.tmp 93), (6, Operand.tmp 95)], type := 53, pos := "more.go:27", after := #[{ on := 1, ground := Ground.data }, { on := 3, ground := Ground.data }, { on := 6, ground := Ground.data }, { on := 12, ground := Ground.data }, { on := 15, ground := Ground.data }, { on := 17, ground := Ground.data }], guard := none }
abbrev sf19 : Oper := { dst := some 16, op := Op.assign (Operand.tmp 96), type := 53, pos := "more.go:27", after := #[{ on := 18, ground := Ground.data }, { on := 0, ground := Ground.phase }, { on := 1, ground := Ground.phase }, { on := 2, ground := Ground.phase }, { on := 3, ground := Ground.phase }, { on := 4, ground := Ground.phase }, { on := 5, ground := Ground.phase }, { on := 6, ground := Ground.phase }, { on := 7, ground := Ground.phase }, { on := 8, ground := Ground.phase }, { on := 9, ground := Ground.phase }, { on := 10, ground := Ground.phase }, { on := 11, ground := Ground.phase }, { on := 12, ground := Ground.phase }, { on := 13, ground := Ground.phase }, { on := 14, ground := Ground.phase }, { on := 15, ground := Ground.phase }, { on := 16, ground := Ground.phase }, { on := 17, ground := Ground.phase }, { on := 18, ground := Ground.phase }], guard := none }
end Go.Proofs.YtiebpjkppjollaaDoor
