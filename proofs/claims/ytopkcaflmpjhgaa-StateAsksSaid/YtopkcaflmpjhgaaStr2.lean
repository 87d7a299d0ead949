
/- The reference's ConfigMay: what it answers. No condition. -/
import Derived.Test.YtopkcaflmpjhgaaBpl
import Derived.Test.YtopkcaflmpjhgaaProg
import Derived.WalkSpells
import Derived.WalkLawsBesides
import Derived.Lib.Hide
import Derived.Great.Walk
import Derived.OwnWalk
import Derived.IntWalk
import Derived.Below
namespace Go.Proofs.Ytopkcaflmpjhgaa
open Go Go.RowKit

abbrev TCf : TypeId := 23
abbrev cfC (c : Cf) : Array Value := #[.int .i64 c.sec, .int .i64 c.hal, .int .i64 c.ses, .int .i64 c.adr, .int .i64 c.fai, .int .i64 c.loc, .int .i64 c.hlf, .int .i64 c.idl, .int .i64 c.abs, .int .i64 c.qua, .int .i64 c.tlf, .int .i64 c.kee]
end Go.Proofs.Ytopkcaflmpjhgaa
