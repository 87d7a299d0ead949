/- Calls' contracts on assertions where errors.errorType holds the handle of the type error. No condition. -/
import Derived.Test.YtbfpfmidjdonjaaGreatDoorBme
import Derived.Test.YtbfpfmidjdonjaaGreatDoorGr
namespace Go.Proofs.YtbfpfmidjdonjaaGreatDoor
open Go Go.RowKit
def DoesG (P : Program) (A : Ass) (f : FuncId) (args : Array Value) (v : Ending) (A' : Ass) : Prop := ∀ w F, A w F → Gd w → Calls P f args w fun e w' => e = v ∧ Becomes F A' w w'
theorem DoesG.to {P : Program} {A A' A2 : Ass} {f : FuncId} {args : Array Value} {v v2 : Ending} (h : DoesG P A f args v A') (hv : v = v2) (hA : A' = A2) : DoesG P A f args v2 A2 := by subst hv; subst hA; exact h
theorem Does.g {P : Program} {A A' : Ass} {f : FuncId} {args : Array Value} {v : Ending} (h : Does P A f args v A') : DoesG P A f args v A' := fun w F hA _ => h w F hA
theorem At.gd {A : Ass} {w0 w : World} (hg : Gd w0) (h : At w0 A w) : Gd w := hg.below h.bel hg.pos
end Go.Proofs.YtbfpfmidjdonjaaGreatDoor
