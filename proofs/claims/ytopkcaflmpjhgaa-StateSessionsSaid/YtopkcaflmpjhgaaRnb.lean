
/- The reference's num: is it a number that may be? No condition. -/
import Derived.Test.YtopkcaflmpjhgaaBpl
import Derived.Test.YtopkcaflmpjhgaaProg
import Derived.WalkSpells
import Derived.WalkLawsBesides
import Derived.Great.Walk
namespace Go.Proofs.Ytopkcaflmpjhgaa
open Go Go.RowKit

end Go.Proofs.Ytopkcaflmpjhgaa
