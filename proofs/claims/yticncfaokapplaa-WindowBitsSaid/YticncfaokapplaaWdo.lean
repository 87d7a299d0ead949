/- For WindowOnce: a window and a row of yes-or-noes of the law's own; which numbers were seen. No condition. -/
import Derived.Test.YticncfaokapplaaWdl
import Derived.Test.YticncfaokapplaaIArg
namespace Go.Proofs.Yticncfaokapplaa
open Go Go.RowKit

/-- A row of yes-or-noes. -/
def bools (ls : List Bool) : Array Value := (ls.map Value.bool).toArray
theorem bools_at {ls : List Bool} {i : Nat} (h : i < ls.length) : (bools ls)[i]? = some (.bool (ls.getD i false)) := by simp [bools, List.getD, h]
theorem bools_set (ls : List Bool) (i : Nat) (b : Bool) : (bools ls).setIfInBounds i (.bool b) = bools (ls.set i b) := by
  unfold bools
  rw [List.setIfInBounds_toArray, List.map_set]
/-- Which numbers were seen. -/
def seenC (ls : List Bool) (n : Int) : Bool := decide (0 ≤ n) && ls.getD n.toNat false
theorem seenC_nat (ls : List Bool) (i : Nat) : seenC ls (i : Int) = ls.getD i false := by simp [seenC]
theorem seenC_set {ls : List Bool} {i : Nat} (h : i < ls.length) (n : Int) : (seenC ls n || decide (n = (i : Int))) = seenC (ls.set i true) n := by
  unfold seenC
  by_cases h0 : 0 ≤ n
  · obtain ⟨m, rfl⟩ := Int.eq_ofNat_of_zero_le h0
    rw [decide_eq_true h0, Bool.true_and, Bool.true_and, Int.toNat_natCast]
    by_cases e : m = i
    · subst e
      simp [List.getD, h]
    · rw [decide_eq_false (show ¬ (m : Int) = (i : Int) by omega), Bool.or_false]
      simp only [List.getD]
      rw [List.getElem?_set_ne (fun c => e c.symm)]
  · rw [decide_eq_false h0, Bool.false_and, Bool.false_and, decide_eq_false (show ¬ n = (i : Int) by omega)]
    rfl
theorem seenC_none (k : Nat) (n : Int) : seenC (List.replicate k false) n = false := by
  unfold seenC
  have : (List.replicate k false).getD n.toNat false = false := by
    simp only [List.getD, List.getElem?_replicate]
    split <;> rfl
  rw [this, Bool.and_false]
/-- A window and a row of the law's own. -/
structure Wo (w : World) (p : Nat) (T : TypeId) (h b : Int) (ls : List Bool) (W : World) : Prop where
  below : Below w.heap.size w W
  from0 : w.heap.size ≤ p
  x : W.heap[p]? = some (.cells #[.int .i64 h, .int .i64 b] TWd (0, 0))
  s : W.heap[p + 1]? = some (.cells (bools ls) T (0, 0))
variable {w W W' : World} {p : Nat} {T : TypeId} {h b : Int} {ls : List Bool}
theorem Wo.lt (o : Wo w p T h b ls W) : p + 1 < W.heap.size := (Array.getElem?_eq_some_iff.1 o.s).1
theorem Wo.lay (o : Wo w p T h b ls W) (hb : Below W.heap.size W W') : Wo w p T h b ls W' :=
  ⟨wpab o.below hb, o.from0, (hb.block p (by have := o.lt; omega)).trans o.x, (hb.block (p + 1) o.lt).trans o.s⟩
theorem Wo.alloc (o : Wo w p T h b ls W) (ob : Obj) : Wo w p T h b ls (W.alloc ob) := o.lay ((Below.refl _ _).alloc (Nat.le_refl _) ob)
theorem Wo.blk (o : Wo w p T h b ls W) : Blk W p #[.int .i64 h, .int .i64 b] := ⟨fun i => cell_of_row W p i _ _ _ o.x, fun i => frozen_of_row W p i _ _ o.x, (Array.getElem?_eq_some_iff.1 o.x).1⟩
theorem Wo.row (o : Wo w p T h b ls W) : Blk W (p + 1) (bools ls) := ⟨fun i => cell_of_row W (p + 1) i _ _ _ o.s, fun i => frozen_of_row W (p + 1) i _ _ o.s, o.lt⟩
theorem wo_other (W : World) (g i j : Nat) (v : Value) (hj : j ≠ g) : (W.setCell ⟨g, i, none⟩ v).heap[j]? = W.heap[j]? := Below.heap_setCell W ⟨g, i, none⟩ v j (fun e => hj e)
theorem Wo.setH (o : Wo w p T h b ls W) (h' : Int) : Wo w p T h' b ls (W.setCell ⟨p, 0, none⟩ (.int .i64 h')) :=
  ⟨o.below.setCell (p := ⟨p, 0, none⟩) o.from0 _, o.from0, heap_setCell_same W p 0 _ _ _ o.x, (wo_other W p 0 _ _ (by omega)).trans o.s⟩
theorem Wo.setB (o : Wo w p T h b ls W) (b' : Int) : Wo w p T h b' ls (W.setCell ⟨p, 1, none⟩ (.int .i64 b')) :=
  ⟨o.below.setCell (p := ⟨p, 1, none⟩) o.from0 _, o.from0, heap_setCell_same W p 1 _ _ _ o.x, (wo_other W p 1 _ _ (by omega)).trans o.s⟩
theorem Wo.setS (o : Wo w p T h b ls W) (i : Nat) (v : Bool) : Wo w p T h b (ls.set i v) (W.setCell ⟨p + 1, i, none⟩ (.bool v)) :=
  ⟨o.below.setCell (p := ⟨p + 1, i, none⟩) (show w.heap.size ≤ p + 1 by have := o.from0; omega) _, o.from0, (wo_other W (p + 1) i _ _ (by omega)).trans o.x, by rw [← bools_set]; exact heap_setCell_same W (p + 1) i _ _ _ o.s⟩
theorem Wo.start {w W : World} (hb : Below w.heap.size w W) (h b : Int) (ls : List Bool) (T : TypeId) : Wo w W.heap.size T h b ls ((W.alloc (.cells #[.int .i64 h, .int .i64 b] TWd)).alloc (.cells (bools ls) T)) := by
  have e1 : (W.alloc (.cells #[.int .i64 h, .int .i64 b] TWd)).heap.size = W.heap.size + 1 := by simp
  refine ⟨(hb.alloc hb.size _).alloc (by rw [e1]; have := hb.size; omega) _, hb.size, ?_, ?_⟩
  · rw [Go.heap_alloc_old _ _ (by simp)]
    exact heap_alloc_new W _
  · exact heap_alloc2_new W _ _
theorem wmask (z : Int) (k : Nat) (hk : k ≤ 62) : ∃ u : Nat, bits .and .i64 z ((2 ^ k - 1 : Nat) : Int) = (u : Int) ∧ u < 2 ^ k := by
  have h := i64_mask z k hk
  have hp : 0 < 2 ^ k := Nat.two_pow_pos k
  refine ⟨(z % ((2 ^ k : Nat) : Int)).toNat, ?_, ?_⟩
  · rw [h]; omega
  · have h1 := Int.emod_lt_of_pos z (show (0 : Int) < ((2 ^ k : Nat) : Int) by omega)
    omega
theorem wmask255 (z : Int) : ∃ u : Nat, bits .and .i64 z 255 = (u : Int) ∧ u < 256 := wmask z 8 (by omega)
theorem wmask63 (z : Int) : ∃ u : Nat, bits .and .i64 z 63 = (u : Int) ∧ u < 64 := wmask z 6 (by omega)
theorem wmask31 (z : Int) : ∃ u : Nat, bits .and .i64 z 31 = (u : Int) ∧ u < 32 := wmask z 5 (by omega)
theorem wmask65535 (z : Int) : ∃ u : Nat, bits .and .i64 z 65535 = (u : Int) ∧ u < 65536 := wmask z 16 (by omega)
end Go.Proofs.Yticncfaokapplaa
