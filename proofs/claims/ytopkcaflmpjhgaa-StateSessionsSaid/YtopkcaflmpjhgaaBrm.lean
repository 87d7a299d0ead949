
/- Put together: Remay0, Remay1, Remay2, Remay. Conditions: each theorem's own. -/
import Derived.Test.YtopkcaflmpjhgaaBpl
import Derived.Test.YtopkcaflmpjhgaaRnb
import Derived.Lib.Hide
import Derived.Great.Walk
import Derived.OwnWalk
import Derived.IntWalk
import Derived.Below
import Derived.Test.YtopkcaflmpjhgaaBsp
namespace Go.Proofs.Ytopkcaflmpjhgaa
open Go Go.RowKit

def Ev.pi (p : Ev) : Bool := p.part.isSome
def Ev.pv (p : Ev) : Ev := p.part.getD ⟨p.kind, 0, 0, 0, 0, 0, 0, 0⟩
end Go.Proofs.Ytopkcaflmpjhgaa

namespace Go.Proofs.Ytopkcaflmpjhgaa
open Go Go.RowKit

end Go.Proofs.Ytopkcaflmpjhgaa

namespace Go.Proofs.Ytopkcaflmpjhgaa
open Go Go.RowKit

end Go.Proofs.Ytopkcaflmpjhgaa

namespace Go.Proofs.Ytopkcaflmpjhgaa
open Go Go.RowKit

theorem remay_rng {p : Ev} (h : p.rng = false) : p.may = false := by unfold Ev.may; rw [h]; rfl
end Go.Proofs.Ytopkcaflmpjhgaa

