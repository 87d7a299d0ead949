/- Several quiet operations of a region that draws, one behind the other: their places are checked at once. No program is named. -/
import Derived.Test.YtikdnmbbiipbjaaReg
namespace Go.Proofs.Ytikdnmbbiipbjaa
open Go

section
variable {P : Program} {ops : Array Oper} {Q : Exit → Act → World → Prop} {S : World → Prop} {fuel : Nat} {listed : Array Bool} {a : Act} {w : World}
/-- May they come up in this order? -/
def runOk (ops : Array Oper) : Array Bool → List Nat → Bool
  | _, [] => Region.noSelect ops
  | L, i :: is => Region.free .any ops L i && ((Region.ready .any ops L).contains i && runOk ops (L.setIfInBounds i true) is)
theorem runOk_sel {L : Array Bool} {is : List Nat} (h : runOk ops L is = true) : Region.noSelect ops = true := by
  induction is generalizing L with
  | nil => exact h
  | cons i is ih =>
    simp only [runOk, Bool.and_eq_true] at h
    exact ih h.2.2
/-- The rest of a run. -/
def wpRun (P : Program) (ops : Array Oper) (Q : Exit → Act → World → Prop) (S : World → Prop) (fuel : Nat) (L : Array Bool) (is : List (Nat × Oper × Option Tmp)) (a : Act) (w : World) : Prop :=
  runOk ops L (is.map (·.1)) = true → wpAnyH P .any ops Q S fuel L a w
theorem run_go (is : List (Nat × Oper × Option Tmp)) (hok : runOk ops listed (is.map (·.1)) = true) (h : wpRun P ops Q S fuel listed is a w) : wpAnyH P .any ops Q S fuel listed a w := h hok
theorem run_end (h : wpAnyH P .any ops Q S fuel listed a w) : wpRun P ops Q S fuel listed [] a w := fun _ => h
theorem run_take {i : Nat} {oi : Oper} {dst : Option Tmp} {is : List (Nat × Oper × Option Tmp)} (v : Value) (hi : ops[i]? = some oi) (hd : oi.dst = dst) (hQ : ∀ c a w, Q (.panic c) (a.put dst v) w → Q (.panic c) a w) (hy : YieldsIf P ops S oi v a) (hS : S w)
    (h : wpRun P ops Q S fuel (listed.setIfInBounds i true) is (a.put dst v) w) : wpRun P ops Q S (fuel + 1) listed ((i, oi, dst) :: is) a w := fun hok => by
  simp only [List.map_cons, runOk, Bool.and_eq_true] at hok
  exact held_take i oi dst v hi hd (runOk_sel hok.2.2) hok.1 hok.2.1 hQ hy hS (h hok.2.2)
end
end Go.Proofs.Ytikdnmbbiipbjaa
