/- The reference's num: is it a number that may be? No condition. -/
import Derived.Test.YtopkcaflmpjhgaaGreatBpl
import Derived.Test.YtopkcaflmpjhgaaGreatProg
import Derived.WalkSpells
import Derived.WalkLawsBesides
import Derived.Great.Walk
namespace Go.Proofs.YtopkcaflmpjhgaaGreat
open Go Go.RowKit

theorem rnumb (x : Int) (b : Bool) (h : okNum x = b) (w : World) : Calls Tryz.prog 45 #[.int .i64 x] w fun e w' => e = .returned (.bool b) ∧ w' = w := by
  subst h
  unfold okNum
  go_enter Tryz.func45, Tryz.ntmps45
  go_wp2
  all_goals (go_ret; refine ⟨?_, rfl⟩; congr 2; simp [*] <;> omega)
end Go.Proofs.YtopkcaflmpjhgaaGreat
