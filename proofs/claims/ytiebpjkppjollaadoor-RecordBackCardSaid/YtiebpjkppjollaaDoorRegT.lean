/- A region that reads in some order and writes last, the world behind its draw by a name. No program is named. -/
import Derived.OwnWalk
import Derived.Outline
import Derived.StillTailTactics
namespace Go.Proofs.YtiebpjkppjollaaDoor
open Go

/-- A region that reads in some order and writes last, the world behind its draw by a name. -/
theorem region_tail {P : Program} {id : Nat} {Q : Exit → Act → World → Prop} {a : Act} {w : World} {l : List Oper} (n : Nat) (hm : P.follows .mixedOrders = true) (hB : Region.lexTailB .any l.toArray n = true)
    (h : ∀ W, W = w.drew → wpStill P l.toArray W (fun a' => wpList P l.toArray Q (l.drop n) a' W) (l.take n) a) : (Code.region id l.toArray true).wp P Q a w :=
  wp_region_still_tail n hm hB (h _ rfl)
end Go.Proofs.YtiebpjkppjollaaDoor
