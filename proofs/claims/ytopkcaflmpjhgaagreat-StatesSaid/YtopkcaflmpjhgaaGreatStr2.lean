/- The reference's ConfigMay: what it answers. No condition. -/
import Derived.Test.YtopkcaflmpjhgaaGreatBpl
import Derived.Test.YtopkcaflmpjhgaaGreatProg
import Derived.WalkSpells
import Derived.WalkLawsBesides
import Derived.Lib.Hide
import Derived.Great.Walk
import Derived.OwnWalk
import Derived.IntWalk
import Derived.Below
namespace Go.Proofs.YtopkcaflmpjhgaaGreat
open Go Go.RowKit

abbrev TCf : TypeId := 23
abbrev cfC (c : Cf) : Array Value := #[.int .i64 c.sec, .int .i64 c.hal, .int .i64 c.ses, .int .i64 c.adr, .int .i64 c.fai, .int .i64 c.loc, .int .i64 c.hlf, .int .i64 c.idl, .int .i64 c.abs, .int .i64 c.qua, .int .i64 c.tlf, .int .i64 c.kee]
theorem rlife (x : Int) (r : Bool) (h : cfLife x = r) (w : World) : Calls Tryz.prog 43 #[.int .i64 x] w fun e w' => e = .returned (.bool r) ∧ w = w' := by
  subst h
  unfold cfLife
  go_enter Tryz.func43, Tryz.ntmps43
  go_wp2
  all_goals (go_ret; refine ⟨?_, rfl⟩; congr 2; simp [*] <;> omega)
set_option maxRecDepth 100000 in
set_option maxHeartbeats 32000000 in
theorem rcfmay (c : Cf) (w : World) : Calls Tryz.prog 30 #[.agg (cfC c)] w fun e w' => e = .returned (.bool c.may) ∧ Below w.heap.size w w' := by
  have HB := Lib.hid ((Below.refl w.heap.size w).alloc (Nat.le_refl _) (.cells (cfC c) TCf))
  obtain ⟨sec, hal, ses, adr, fai, loc, hlf, idl, abs, qua, tlf, kee⟩ := c
  unfold Cf.may
  dsimp only
  go_enter Tryz.func30, Tryz.ntmps30
  go_wp2_with (go_at_call 43; (with_reducible refine (rlife _ _ rfl _).mono ?_); rintro e w1 ⟨rfl, rfl⟩)
  all_goals (go_ret; exact ⟨by (simp [*] <;> omega), HB.out⟩)
end Go.Proofs.YtopkcaflmpjhgaaGreat
