/- Regions that draw, taken by hand, operation by operation: laws with the slot that is written as a parameter. No program is named. -/
import Derived.OwnWalk
import Derived.Outline
import Derived.StillTailTactics
import Derived.OrdersHeld
import Derived.Deep.RegionHeld
import Derived.RegionTactic
namespace Go.Proofs.Ytikdnmbbiipbjaa
open Go

section
variable {P : Program} {ops : Array Oper} {Q : Exit → Act → World → Prop} {S : World → Prop} {fuel : Nat} {listed : Array Bool} {a : Act} {w : World}
/-- The beginning; S is shown of the world behind the draw. -/
theorem region_held {id : Nat} {l : List Oper} (n : Nat) (L : List Bool) (hn : l.length = n) (hL : List.replicate n false = L) (hm : P.follows .mixedOrders = true)
    (h : ∀ W, W = w.drew → wpAnyH P .any l.toArray Q S n L.toArray a W) : (Code.region id l.toArray true).wp P Q a w := wp_region_held hm (by
  subst hn hL
  have := h _ rfl
  simpa using this)
/-- What yields in every world that meets S is taken first. -/
theorem held_take (i : Nat) (oi : Oper) (dst : Option Tmp) (v : Value) (hi : ops[i]? = some oi) (hd : oi.dst = dst)
    (hs : Region.noSelect ops = true) (hf : Region.free .any ops listed i = true) (hr : (Region.ready .any ops listed).contains i = true)
    (hQ : ∀ c a w, Q (.panic c) (a.put dst v) w → Q (.panic c) a w) (hy : YieldsIf P ops S oi v a) (hS : S w)
    (h : wpAnyH P .any ops Q S fuel (listed.setIfInBounds i true) (a.put dst v) w) : wpAnyH P .any ops Q S (fuel + 1) listed a w := by
  subst hd
  exact wpAnyH_take hi hs hf hr hQ hy hS h
/-- One that is not wanted. -/
theorem held_skip (i : Nat) (oi : Oper) (dst : Option Tmp) (hi : ops[i]? = some oi) (hd : oi.dst = dst)
    (hs : Region.noSelect ops = true) (hf : Region.free .any ops listed i = true) (hr : (Region.ready .any ops listed).contains i = true)
    (hQ : ∀ c a w, Q (.panic c) (a.put dst undef) w → Q (.panic c) a w) (hw : Region.wanted oi (yielded ops a.tmps) = false) (hS : S w)
    (h : wpAnyH P .any ops Q S fuel (listed.setIfInBounds i true) (a.put dst undef) w) : wpAnyH P .any ops Q S (fuel + 1) listed a w :=
  held_take i oi dst undef hi hd hs hf hr hQ (.inr ⟨hw, rfl⟩) hS h
/-- The only one that may come up yields a value, and the world may turn. -/
theorem held_one (i : Nat) (o : Oper) (dst : Option Tmp) (v : Value) (w' : World) (hr : Region.ready .any ops listed = [i]) (ho : ops[i]? = some o) (hd : o.dst = dst) (hw : Region.wanted o (yielded ops a.tmps) = true)
    (hrun : (execOp a.eval o).run P w = .ok (.value v) w') (hS : S w') (h : wpAnyH P .any ops Q S fuel (listed.setIfInBounds i true) (a.put dst v) w') : wpAnyH P .any ops Q S (fuel + 1) listed a w := by
  subst hd
  refine wpAnyH_all hr (by simp) (fun j hj => ?_)
  obtain rfl : j = i := by simpa using hj
  refine wpOp_step ho (fun K hK => ?_)
  rw [if_pos hw]
  unfold Oper.wp
  rw [hrun, Oper.upon_value]
  exact hK _ _ ⟨hS, h⟩
theorem held_void (i : Nat) (o : Oper) (w' : World) (hr : Region.ready .any ops listed = [i]) (ho : ops[i]? = some o) (hw : Region.wanted o (yielded ops a.tmps) = true)
    (hrun : (execOp a.eval o).run P w = .ok .skip w') (hS : S w') (h : wpAnyH P .any ops Q S fuel (listed.setIfInBounds i true) (a.put o.dst undef) w') : wpAnyH P .any ops Q S (fuel + 1) listed a w := by
  refine wpAnyH_all hr (by simp) (fun j hj => ?_)
  obtain rfl : j = i := by simpa using hj
  refine wpOp_step ho (fun K hK => ?_)
  rw [if_pos hw]
  unfold Oper.wp
  rw [hrun, Oper.upon_skip]
  exact hK _ _ ⟨hS, h⟩
/-- The only one that may come up calls a function. -/
theorem held_call (i : Nat) (o : Oper) (dst : Option Tmp) (v : Value) (R : World → Prop) (f : FuncId) (args : Array Value) (hr : Region.ready .any ops listed = [i]) (ho : ops[i]? = some o) (hd : o.dst = dst) (hw : Region.wanted o (yielded ops a.tmps) = true)
    (hrun : (execOp a.eval o).run P w = .ok (.enter f args) w) (hc : Calls P f args w fun e w' => e = .returned v ∧ R w') (hS : ∀ w', R w' → S w')
    (h : ∀ w', R w' → wpAnyH P .any ops Q S fuel (listed.setIfInBounds i true) (a.put dst v) w') : wpAnyH P .any ops Q S (fuel + 1) listed a w := by
  subst hd
  refine wpAnyH_all hr (by simp) (fun j hj => ?_)
  obtain rfl : j = i := by simpa using hj
  refine wpOp_step ho (fun K hK => ?_)
  rw [if_pos hw]
  unfold Oper.wp
  rw [hrun, Oper.upon_enter]
  refine hc.mono ?_
  rintro e w' ⟨rfl, hR⟩
  exact hK _ _ ⟨hS w' hR, h w' hR⟩
end
end Go.Proofs.Ytikdnmbbiipbjaa
