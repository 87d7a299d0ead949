/- What the frames of statements without a card share. No condition. -/
import Derived.Test.YtbfpfmidjdonjaaGreatDoorRows
import Derived.Test.YtbfpfmidjdonjaaGreatDoorProg
import Derived.ProofKit
import Derived.SizedLaws
import Derived.OpenShut
import Derived.Carry
namespace Go.Proofs.YtbfpfmidjdonjaaGreatDoor
open Go.ChangeShapes Go.WideShapes Go.ChangeAt Go.RowKit
theorem laidOut0 : laidOutB Tryz.prog = true := by kernel_rfl
end Go.Proofs.YtbfpfmidjdonjaaGreatDoor
