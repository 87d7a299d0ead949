/- For WindowBits: which numbers a row holds; a window beside a row of numbers. No condition. -/
import Derived.Test.YticncfaokapplaaWdo
import Derived.Test.YticncfaokapplaaOwnA
import Derived.Test.YticncfaokapplaaSep2
import Derived.Test.YticncfaokapplaaRowA
namespace Go.Proofs.Yticncfaokapplaa
open Go Go.RowKit

/-- Is it among them? -/
def memC (ns : List Int) (n : Int) : Bool := decide (n ∈ ns)
theorem memC_snoc (ns : List Int) (s n : Int) : (memC ns n || decide (n = s)) = memC (ns ++ [s]) n := by
  unfold memC
  rw [← Bool.decide_or]
  congr 1
  simp
theorem Win.odd {c : Int → Bool} {h : Int} {B : Nat} (w : Win c h B) (h0 : 0 ≤ h) : B % 2 = 1 := by
  rcases w with ⟨rfl, _⟩ | ⟨_, _, hc, _, _, hk⟩
  · omega
  · have := hk 0 (by decide)
    rw [show h - ((0 : Nat) : Int) = h by omega, hc, Nat.testBit_zero] at this
    simpa using this
section
variable {w0 w : World} {A C : Ass}
theorem At.poke1 (hA : A.Good) (hC : C.Good) {b : Nat} {c : Array Value} {T : TypeId} (h : At w0 (A.star ((ownA b c T).star C)) w) (i : Nat) (v : Value) : At w0 (A.star ((ownA b (c.setIfInBounds i v) T).star C)) (w.setCell ⟨b, i, Option.none⟩ v) :=
  ((h.imp (Ass.imp.swap _ _ _)).poke (hA.star hC) i v).imp (Ass.imp.swap _ _ _)
end
/-- The law's memory: a row of numbers, a window at p. -/
abbrev WR (v : Value) (ns : List Int) (p : Nat) (h b : Int) : Ass := (rowA 3 v (vals ns)).star ((ownA p #[.int .i64 h, .int .i64 b] TWd).star emp)
theorem WR_good (v : Value) (ns : List Int) (p : Nat) (h b : Int) : (WR v ns p h b).Good := (rowA_good _ _ _).star ((ownA_good _ _ _).star emp_good)
theorem At.wset {w0 w : World} {v : Value} {ns : List Int} {p : Nat} {h b : Int} (hS : At w0 (WR v ns p h b) w) (h' b' : Int) : At w0 (WR v ns p h' b') ((w.setCell ⟨p, 0, Option.none⟩ (.int .i64 h')).setCell ⟨p, 1, Option.none⟩ (.int .i64 b')) :=
  (hS.poke1 (rowA_good _ _ _) emp_good 0 (.int .i64 h')).poke1 (rowA_good _ _ _) emp_good 1 (.int .i64 b')
theorem At.wblk {w0 w : World} {v : Value} {ns : List Int} {p : Nat} {h b : Int} (hS : At w0 (WR v ns p h b) w) : Blk w p #[.int .i64 h, .int .i64 b] := by
  obtain ⟨a, b, c⟩ := hS.drop.own
  exact ⟨a, b, c⟩
theorem At.wlay {w0 w w' : World} {v : Value} {ns : List Int} {p : Nat} {h b : Int} (hS : At w0 (WR v ns p h b) w) (hb : Below w.heap.size w w') : At w0 (WR v ns p h b) w' := hS.lay (WR_good _ _ _ _ _) hb
theorem At.wlay1 {w0 w : World} {v : Value} {ns : List Int} {p : Nat} {h b : Int} (hS : At w0 (WR v ns p h b) w) (o : Obj) : At w0 (WR v ns p h b) (w.alloc o) := hS.wlay ((Below.refl _ _).alloc (Nat.le_refl _) o)
theorem At.wnum {w0 w : World} {ao : Option Addr} {k cap : Nat} {ns : List Int} {p : Nat} {h b : Int} (hS : At w0 (WR (.slice ao k cap) ns p h b) w) {j : Nat} (hj : j < ns.length) : ∃ g, ao = some ⟨g, 0, Option.none⟩ ∧ w.cell? ⟨g, j, Option.none⟩ = some (.int .i64 (ns.getD j 0)) := by
  obtain ⟨g, c, e, hc⟩ := At.num hS hj
  simp at e
  exact ⟨g, e.1, hc⟩
theorem At.wshape {w0 w : World} {v : Value} {ns : List Int} {p : Nat} {h b : Int} (hS : At w0 (WR v ns p h b) w) : ∃ ao cap, v = .slice ao ns.length cap := by
  obtain ⟨ao, cap, e⟩ := rowI_shape hS.row
  exact ⟨ao, cap, by rw [e]; simp⟩
end Go.Proofs.Yticncfaokapplaa
