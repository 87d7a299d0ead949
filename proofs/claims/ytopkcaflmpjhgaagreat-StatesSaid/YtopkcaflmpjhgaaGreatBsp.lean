/- Put together: Sep, Sep2, OwnA, OwnB, RowE, Reg, Run, Regj, Rege, Blk, Ob, RowCut, Wlq. Conditions: each theorem's own. -/
import Derived.WalkKit
import Derived.Laws.AppendOwn
import Derived.Maps.OwnSet
import Derived.Deep.Quiet
import Derived.OneCell
import Derived.OwnWalk
import Derived.Outline
import Derived.StillTailTactics
import Derived.OrdersHeld
import Derived.Deep.RegionHeld
import Derived.RegionTactic
import Derived.Laws.OwnMore
import Derived.Deep.RegionLaw
import Derived.Deep.RegionWith
import Derived.BigQuiet
namespace Go.Proofs.YtopkcaflmpjhgaaGreat
open Go Go.RowKit

/-- w' is w but for the blocks of F, and new ones. -/
structure Tn (F : List Nat) (w w' : World) : Prop where
  os : w'.os = w.os
  tape : w'.tape = w.tape
  output : w'.output = w.output
  size : w.heap.size ≤ w'.heap.size
  block : ∀ k, k < w.heap.size → k ∉ F → w'.heap[k]? = w.heap[k]?
theorem Tn.refl (F : List Nat) (w : World) : Tn F w w := ⟨rfl, rfl, rfl, Nat.le_refl _, fun _ _ _ => rfl⟩
theorem Tn.trans {F G : List Nat} {a b c : World} (h : Tn F a b) (k : Tn G b c) (hG : ∀ x ∈ G, x ∈ F ∨ a.heap.size ≤ x) : Tn F a c :=
  ⟨k.os.trans h.os, k.tape.trans h.tape, k.output.trans h.output, Nat.le_trans h.size k.size, fun i hi hn => (k.block i (Nat.lt_of_lt_of_le hi h.size) (fun hm => by
    rcases hG i hm with h1 | h1
    · exact hn h1
    · omega)).trans (h.block i hi hn)⟩
theorem Tn.mono {F G : List Nat} {a b : World} (h : Tn F a b) (hG : ∀ x ∈ F, x ∈ G) : Tn G a b := ⟨h.os, h.tape, h.output, h.size, fun i hi hn => h.block i hi (fun hm => hn (hG i hm))⟩
theorem Tn.ofBelow {w w' : World} (h : Below w.heap.size w w') (F : List Nat) : Tn F w w' := ⟨h.os, h.tape, h.output, h.size, fun i hi _ => h.block i hi⟩
theorem Tn.below {F : List Nat} {B : Nat} {w w' : World} (h : Tn F w w') (hF : ∀ k ∈ F, B ≤ k) (hB : B ≤ w.heap.size) : Below B w w' :=
  ⟨h.os, h.tape, h.output, h.size, fun i hi => h.block i (by omega) (fun hm => by have := hF i hm; omega)⟩
theorem Tn.grown {F : List Nat} {a w w' : World} {row : Option Nat} (h : Tn F a w) (hg : w.grownBy w' row) (hr : ∀ k, row = some k → k ∈ F ∨ a.heap.size ≤ k) : Tn F a w' :=
  ⟨hg.os.trans h.os, hg.tape.trans h.tape, hg.output.trans h.output, Nat.le_trans h.size hg.size, fun i hi hn => (hg.block i (Nat.lt_of_lt_of_le hi h.size) (fun e => by
    rcases hr i e.symm with h1 | h1
    · exact hn h1
    · omega)).trans (h.block i hi hn)⟩
theorem Tn.alloc {F : List Nat} {a w : World} (h : Tn F a w) (o : Obj) : Tn F a (w.alloc o) := h.grown (World.grownBy_alloc w o none) (fun _ e => by cases e)
theorem Tn.setCell {F : List Nat} {a w : World} (h : Tn F a w) {p : Addr} (hp : p.block ∈ F ∨ a.heap.size ≤ p.block) (u : Value) : Tn F a (w.setCell p u) :=
  ⟨h.os, h.tape, h.output, Nat.le_trans h.size (by simp [World.setCell]), fun i hi hn => (Below.heap_setCell w p u i (fun e => by
    subst e
    rcases hp with h1 | h1
    · exact hn h1
    · omega)).trans (h.block i hi hn)⟩
theorem Tn.drew {F : List Nat} {a w : World} (h : Tn F a w) : Tn F a w.drew := ⟨h.os, h.tape, h.output, h.size, h.block⟩
theorem Tn.drewN {F : List Nat} {a w : World} (h : Tn F a w) (n : Nat) : Tn F a (w.drewN n) := ⟨h.os, h.tape, h.output, h.size, h.block⟩

/-- An assertion, with the list of the blocks that it lives in. -/
abbrev Ass := World → List Nat → Prop
/-- It hangs on its own blocks alone, and they are there. -/
def Ass.Good (A : Ass) : Prop := ∀ w F, A w F → (∀ k ∈ F, k < w.heap.size) ∧ ∀ w', (∀ k ∈ F, w'.heap[k]? = w.heap[k]?) → A w' F
def Ass.star (A C : Ass) : Ass := fun w F => ∃ F1 F2, F = F1 ++ F2 ∧ A w F1 ∧ C w F2 ∧ ∀ k ∈ F1, k ∉ F2
theorem Ass.Good.star {A C : Ass} (hA : A.Good) (hC : C.Good) : (A.star C).Good := by
  rintro w F ⟨F1, F2, rfl, h1, h2, hd⟩
  obtain ⟨a1, a2⟩ := hA w F1 h1
  obtain ⟨c1, c2⟩ := hC w F2 h2
  refine ⟨fun k hk => ?_, fun w' hw' => ⟨F1, F2, rfl, a2 w' (fun k hk => hw' k (by simp [hk])), c2 w' (fun k hk => hw' k (by simp [hk])), hd⟩⟩
  rcases List.mem_append.1 hk with h | h
  · exact a1 k h
  · exact c1 k h

/-- From w, where the blocks F were an assertion's, to w', where it has become A. -/
def Becomes (F : List Nat) (A : Ass) (w w' : World) : Prop := ∃ F', A w' F' ∧ Tn F w w' ∧ ∀ k ∈ F', k ∈ F ∨ w.heap.size ≤ k

/-- Of the memory that is new since w0 (all that lies from B on) A holds. -/
def At (w0 : World) (A : Ass) (w : World) : Prop := ∃ F, A w F ∧ (∀ k ∈ F, w0.heap.size ≤ k) ∧ Below w0.heap.size w0 w

theorem Ass.Good.kept {A : Ass} (hA : A.Good) {w w' : World} {F G : List Nat} (h : A w F) (ht : Tn G w w') (hd : ∀ k ∈ F, k ∉ G) : A w' F :=
  (hA w F h).2 w' (fun k hk => ht.block k ((hA w F h).1 k hk) (hd k hk))
theorem Ass.Good.below {A : Ass} (hA : A.Good) {w w' : World} {F : List Nat} (h : A w F) (ht : Below w.heap.size w w') : A w' F :=
  (hA w F h).2 w' (fun k hk => ht.block k ((hA w F h).1 k hk))

theorem At.lay {w0 : World} {A : Ass} {w w' : World} (hA : A.Good) (h : At w0 A w) (hb : Below w.heap.size w w') : At w0 A w' := by
  obtain ⟨F, h1, h2, h3⟩ := h
  exact ⟨F, hA.below h1 hb, h2, h3.trans (hb.mono h3.size)⟩
theorem At.turn {w0 : World} {A A' : Ass} {w w' : World} (h : At w0 A w) (hb : ∀ F, A w F → Becomes F A' w w') : At w0 A' w' := by
  obtain ⟨F, h1, h2, h3⟩ := h
  obtain ⟨F', g1, g2, g3⟩ := hb F h1
  refine ⟨F', g1, fun k hk => ?_, h3.trans (g2.below h2 h3.size)⟩
  rcases g3 k hk with e | e
  · exact h2 k e
  · exact Nat.le_trans h3.size e

/-- The frame: beside what a step turns another assertion stays. -/
theorem Becomes.left {A A' C : Ass} {w w' : World} {F : List Nat} (hC : C.Good) (h : (A.star C) w F) (hb : ∀ F1, A w F1 → Becomes F1 A' w w') : Becomes F (A'.star C) w w' := by
  obtain ⟨F1, F2, rfl, h1, h2, hd⟩ := h
  obtain ⟨F', g1, g2, g3⟩ := hb F1 h1
  refine ⟨F' ++ F2, ⟨F', F2, rfl, g1, hC.kept h2 g2 (fun k hk hk' => hd k hk' hk), fun k hk hk' => ?_⟩, g2.mono (fun x hx => by simp [hx]), fun k hk => ?_⟩
  · rcases g3 k hk with e | e
    · exact hd k e hk'
    · have := (hC w F2 h2).1 k hk'; omega
  · rcases List.mem_append.1 hk with e | e
    · rcases g3 k e with e | e
      · exact .inl (by simp [e])
      · exact .inr e
    · exact .inl (by simp [e])
theorem Becomes.right {A A' C : Ass} {w w' : World} {F : List Nat} (hC : C.Good) (h : (C.star A) w F) (hb : ∀ F1, A w F1 → Becomes F1 A' w w') : Becomes F (C.star A') w w' := by
  obtain ⟨F2, F1, rfl, h2, h1, hd⟩ := h
  obtain ⟨F', g1, g2, g3⟩ := hb F1 h1
  refine ⟨F2 ++ F', ⟨F2, F', rfl, hC.kept h2 g2 hd, g1, fun k hk hk' => ?_⟩, g2.mono (fun x hx => by simp [hx]), fun k hk => ?_⟩
  · rcases g3 k hk' with e | e
    · exact hd k hk e
    · have := (hC w F2 h2).1 k hk; omega
  · rcases List.mem_append.1 hk with e | e
    · exact .inl (by simp [e])
    · rcases g3 k e with e | e
      · exact .inl (by simp [e])
      · exact .inr e
/-- What a step makes beside what there is. -/
theorem Becomes.beside {A C : Ass} {w w' : World} {F : List Nat} (hA : A.Good) (h : A w F) (hb : Becomes [] C w w') : Becomes F (A.star C) w w' := by
  obtain ⟨F', g1, g2, g3⟩ := hb
  refine ⟨F ++ F', ⟨F, F', rfl, hA.kept h g2 (fun k _ hk => by cases hk), g1, fun k hk hk' => ?_⟩, g2.mono (fun x hx => by cases hx), fun k hk => ?_⟩
  · rcases g3 k hk' with e | e
    · cases e
    · have := (hA w F h).1 k hk; omega
  · rcases List.mem_append.1 hk with e | e
    · exact .inl e
    · rcases g3 k e with e | e
      · cases e
      · exact .inr e
theorem Becomes.nil {A : Ass} {w w' : World} (h : Becomes [] A w w') : Below w.heap.size w w' := by
  obtain ⟨F', _, g2, _⟩ := h
  exact g2.below (fun k hk => by cases hk) (Nat.le_refl _)
theorem At.start {A : Ass} {w w' : World} (h : Becomes [] A w w') : At w A w' := by
  have hb := h.nil
  obtain ⟨F', g1, g2, g3⟩ := h
  refine ⟨F', g1, fun k hk => ?_, hb⟩
  rcases g3 k hk with e | e
  · cases e
  · exact e
theorem At.under {A : Ass} {w0 w1 w : World} (hb : Below w0.heap.size w0 w1) (h : At w1 A w) : At w0 A w := by
  obtain ⟨F, h1, h2, h3⟩ := h
  exact ⟨F, h1, fun k hk => Nat.le_trans hb.size (h2 k hk), hb.trans (h3.mono hb.size)⟩
theorem At.bel {A : Ass} {w0 w : World} (h : At w0 A w) : Below w0.heap.size w0 w := by obtain ⟨_, _, _, h3⟩ := h; exact h3
/-- An assertion of no memory at all. -/
def emp : Ass := fun _ F => F = []
theorem emp_good : Ass.Good emp := by rintro w F rfl; exact ⟨fun k hk => (by cases hk), fun _ _ => rfl⟩

theorem Becomes.frameL {A' C : Ass} {w w' : World} {F1 F2 : List Nat} (hC : C.Good) (h2 : C w F2) (hd : ∀ k ∈ F1, k ∉ F2) (hb : Becomes F1 A' w w') : Becomes (F1 ++ F2) (A'.star C) w w' := by
  obtain ⟨F', g1, g2, g3⟩ := hb
  refine ⟨F' ++ F2, ⟨F', F2, rfl, g1, hC.kept h2 g2 (fun k hk hk' => hd k hk' hk), fun k hk hk' => ?_⟩, g2.mono (fun x hx => by simp [hx]), fun k hk => ?_⟩
  · rcases g3 k hk with e | e
    · exact hd k e hk'
    · have := (hC w F2 h2).1 k hk'; omega
  · rcases List.mem_append.1 hk with e | e
    · rcases g3 k e with e | e
      · exact .inl (by simp [e])
      · exact .inr e
    · exact .inl (by simp [e])
theorem Becomes.frameR {A' C : Ass} {w w' : World} {F1 F2 : List Nat} (hC : C.Good) (h2 : C w F2) (hd : ∀ k ∈ F2, k ∉ F1) (hb : Becomes F1 A' w w') : Becomes (F2 ++ F1) (C.star A') w w' := by
  obtain ⟨F', g1, g2, g3⟩ := hb
  refine ⟨F2 ++ F', ⟨F2, F', rfl, hC.kept h2 g2 hd, g1, fun k hk hk' => ?_⟩, g2.mono (fun x hx => by simp [hx]), fun k hk => ?_⟩
  · rcases g3 k hk' with e | e
    · exact hd k hk e
    · have := (hC w F2 h2).1 k hk; omega
  · rcases List.mem_append.1 hk with e | e
    · exact .inl (by simp [e])
    · rcases g3 k e with e | e
      · exact .inl (by simp [e])
      · exact .inr e
theorem Becomes.same {A : Ass} (hA : A.Good) {w w' : World} {F : List Nat} (h : A w F) (hb : Below w.heap.size w w') : Becomes F A w w' :=
  ⟨F, hA.below h hb, Tn.ofBelow hb F, fun _ hk => .inl hk⟩

/-- A call's contract: called where A holds it answers v, and A has become A'. -/
def Does (P : Program) (A : Ass) (f : FuncId) (args : Array Value) (v : Ending) (A' : Ass) : Prop := ∀ w F, A w F → Calls P f args w fun e w' => e = v ∧ Becomes F A' w w'
theorem At.op0 {P : Program} {A A' C : Ass} {f : FuncId} {args : Array Value} {v : Ending} (hd : Does P A f args v A') (hC : C.Good) {w0 w : World} (h : At w0 (A.star C) w) : Calls P f args w fun e w' => e = v ∧ At w0 (A'.star C) w' := by
  obtain ⟨F, ⟨F1, F2, rfl, h1, h2, h3⟩, hB, hb⟩ := h
  refine (hd w F1 h1).mono ?_
  rintro e w' ⟨he, hk⟩
  obtain ⟨F', g1, g2, g3⟩ := hk.frameL hC h2 h3
  refine ⟨he, F', g1, fun k hk => ?_, hb.trans (g2.below hB hb.size)⟩
  rcases g3 k hk with e | e
  · exact hB k e
  · exact Nat.le_trans hb.size e
theorem At.op1 {P : Program} {A A' B C : Ass} {f : FuncId} {args : Array Value} {v : Ending} (hd : Does P A f args v A') (hN : B.Good) (hC : C.Good) {w0 w : World} (h : At w0 (B.star (A.star C)) w) : Calls P f args w fun e w' => e = v ∧ At w0 (B.star (A'.star C)) w' := by
  obtain ⟨F, ⟨G, _, rfl, hG, ⟨F1, F2, rfl, h1, h2, h3⟩, h4⟩, hB, hb⟩ := h
  refine (hd w F1 h1).mono ?_
  rintro e w' ⟨he, hk⟩
  obtain ⟨F', g1, g2, g3⟩ := (hk.frameL hC h2 h3).frameR hN hG h4
  refine ⟨he, F', g1, fun k hk => ?_, hb.trans (g2.below hB hb.size)⟩
  rcases g3 k hk with e | e
  · exact hB k e
  · exact Nat.le_trans hb.size e
/-- What a call makes. -/
theorem At.add {A C : Ass} {w0 w w' : World} (hC : C.Good) (h : At w0 C w) (hb : Becomes [] A w w') : At w0 (A.star C) w' := by
  obtain ⟨F2, h2, hB, hbl⟩ := h
  obtain ⟨F', g1, g2, g3⟩ := hb.frameL hC h2 (fun k hk => by cases hk)
  refine ⟨F', g1, fun k hk => ?_, hbl.trans (g2.below (fun k hk => hB k (by simpa using hk)) hbl.size)⟩
  rcases g3 k hk with e | e
  · exact hB k (by simpa using e)
  · exact Nat.le_trans hbl.size e
theorem At.none {w0 w : World} (h : Below w0.heap.size w0 w) : At w0 emp w := ⟨[], rfl, fun k hk => (by cases hk), h⟩
theorem At.mono {A A' : Ass} {w0 w : World} (h : At w0 A w) (hm : ∀ F, A w F → A' w F) : At w0 A' w := by
  obtain ⟨F, h1, h2, h3⟩ := h
  exact ⟨F, hm F h1, h2, h3⟩
end Go.Proofs.YtopkcaflmpjhgaaGreat

namespace Go.Proofs.YtopkcaflmpjhgaaGreat
open Go Go.RowKit

/-- One assertion for another, of the same blocks. -/
def Ass.imp (X Y : Ass) : Prop := ∀ w F, X w F → ∃ F', Y w F' ∧ ∀ k, k ∈ F' ↔ k ∈ F
theorem Ass.imp.refl (X : Ass) : X.imp X := fun _ F h => ⟨F, h, fun _ => Iff.rfl⟩
theorem Ass.imp.trans {X Y Z : Ass} (h : X.imp Y) (g : Y.imp Z) : X.imp Z := fun w F hx => by
  obtain ⟨F1, h1, e1⟩ := h w F hx
  obtain ⟨F2, h2, e2⟩ := g w F1 h1
  exact ⟨F2, h2, fun k => (e2 k).trans (e1 k)⟩
theorem Ass.imp.under {X Y : Ass} (h : X.imp Y) (A : Ass) : (A.star X).imp (A.star Y) := by
  rintro w F ⟨F1, F2, rfl, a, x, d⟩
  obtain ⟨G, y, e⟩ := h w F2 x
  exact ⟨F1 ++ G, ⟨F1, G, rfl, a, y, fun k hk hk' => d k hk ((e k).1 hk')⟩, fun k => by simp [e k]⟩
theorem Ass.imp.swap (A B C : Ass) : (A.star (B.star C)).imp (B.star (A.star C)) := by
  rintro w F ⟨F1, _, rfl, a, ⟨F2, F3, rfl, b, c, d2⟩, d1⟩
  refine ⟨F2 ++ (F1 ++ F3), ⟨F2, _, rfl, b, ⟨F1, F3, rfl, a, c, fun k hk hk' => d1 k hk (by simp [hk'])⟩, fun k hk hk' => ?_⟩, fun k => by simp; constructor <;> rintro (h | h | h) <;> simp [h]⟩
  rcases List.mem_append.1 hk' with h | h
  · exact d1 k h (by simp [hk])
  · exact d2 k hk h
/-- The second, third, fourth in front; and back again. -/
theorem Ass.imp.up1 (A B C : Ass) : (A.star (B.star C)).imp (B.star (A.star C)) := Ass.imp.swap A B C
theorem Ass.imp.up2 (A B C D : Ass) : (A.star (B.star (C.star D))).imp (C.star (A.star (B.star D))) := ((Ass.imp.swap B C D).under A).trans (Ass.imp.swap A C _)
theorem Ass.imp.up3 (A B C D E : Ass) : (A.star (B.star (C.star (D.star E)))).imp (D.star (A.star (B.star (C.star E)))) := ((Ass.imp.up2 B C D E).under A).trans (Ass.imp.swap A D _)
theorem Ass.imp.dn2 (A B C D : Ass) : (C.star (A.star (B.star D))).imp (A.star (B.star (C.star D))) := (Ass.imp.swap C A _).trans ((Ass.imp.swap C B D).under A)
theorem Ass.imp.dn3 (A B C D E : Ass) : (D.star (A.star (B.star (C.star E)))).imp (A.star (B.star (C.star (D.star E)))) := (Ass.imp.swap D A _).trans ((Ass.imp.dn2 B C D E).under A)
theorem At.imp {X Y : Ass} {w0 w : World} (h : At w0 X w) (hi : X.imp Y) : At w0 Y w := by
  obtain ⟨F, h1, h2, h3⟩ := h
  obtain ⟨F', g1, e⟩ := hi w F h1
  exact ⟨F', g1, fun k hk => h2 k ((e k).1 hk), h3⟩
theorem At.opN {P : Program} {A A' X X' R : Ass} {f : FuncId} {args : Array Value} {v : Ending} (hd : Does P A f args v A') (hi : X.imp (A.star R)) (hj : (A'.star R).imp X') (hR : R.Good) {w0 w : World} (h : At w0 X w) : Calls P f args w fun e w' => e = v ∧ At w0 X' w' :=
  (At.op0 hd hR (h.imp hi)).mono fun _ _ ⟨e, h'⟩ => ⟨e, h'.imp hj⟩

/-- Within a call: what has become of an assertion so far. -/
theorem Becomes.refl {F : List Nat} {A : Ass} {w : World} (h : A w F) : Becomes F A w w := ⟨F, h, Tn.refl _ _, fun _ hk => .inl hk⟩
theorem Becomes.lay {F : List Nat} {A : Ass} {w w1 w2 : World} (hA : A.Good) (h : Becomes F A w w1) (hb : Below w1.heap.size w1 w2) : Becomes F A w w2 := by
  obtain ⟨F', g1, g2, g3⟩ := h
  exact ⟨F', hA.below g1 hb, g2.trans (Tn.ofBelow hb []) (fun x hx => by cases hx), g3⟩
theorem Becomes.op {P : Program} {A A' : Ass} {f : FuncId} {args : Array Value} {v : Ending} (hd : Does P A f args v A') {F : List Nat} {w w1 : World} (h : Becomes F A w w1) : Calls P f args w1 fun e w' => e = v ∧ Becomes F A' w w' := by
  obtain ⟨F', g1, g2, g3⟩ := h
  refine (hd w1 F' g1).mono ?_
  rintro e w' ⟨he, F2, k1, k2, k3⟩
  refine ⟨he, F2, k1, g2.trans k2 g3, fun k hk => ?_⟩
  rcases k3 k hk with c | c
  · exact g3 k c
  · exact .inr (Nat.le_trans g2.size c)
theorem At.lay1 {w0 : World} {A : Ass} {w : World} (hA : A.Good) (h : At w0 A w) (o : Obj) : At w0 A (w.alloc o) := h.lay hA ((Below.refl _ _).alloc (Nat.le_refl _) o)
theorem Does.to {P : Program} {A A' A2 : Ass} {f : FuncId} {args : Array Value} {v v2 : Ending} (h : Does P A f args v A') (hv : v = v2) (hA : A' = A2) : Does P A f args v2 A2 := by subst hv; subst hA; exact h
end Go.Proofs.YtopkcaflmpjhgaaGreat

namespace Go.Proofs.YtopkcaflmpjhgaaGreat
open Go Go.RowKit

/-- A block of the call's own, known whole. -/
def ownA (b : Nat) (c : Array Value) (T : TypeId) : Ass := fun w F => w.heap[b]? = some (.cells c T (0, 0)) ∧ F = [b]
theorem ownA_good (b : Nat) (c : Array Value) (T : TypeId) : (ownA b c T).Good := by
  rintro w F ⟨h, rfl⟩
  exact ⟨fun k hk => by simp at hk; subst hk; exact (Array.getElem?_eq_some_iff.1 h).1, fun w' hw' => ⟨(hw' b (by simp)).trans h, rfl⟩⟩
theorem At.own {b : Nat} {c : Array Value} {T : TypeId} {C : Ass} {w0 w : World} (h : At w0 ((ownA b c T).star C) w) : (∀ i, w.cell? ⟨b, i, Option.none⟩ = c[i]?) ∧ (∀ i, w.frozen? ⟨b, i, Option.none⟩ = false) ∧ b < w.heap.size := by
  obtain ⟨_, ⟨_, _, _, ⟨h, _⟩, _⟩, _⟩ := h
  exact ⟨fun i => cell_of_row w b i c T (0, 0) h, fun i => frozen_of_row w b i c T h, (Array.getElem?_eq_some_iff.1 h).1⟩
theorem At.hold {C : Ass} {w0 w : World} (hC : C.Good) (h : At w0 C w) (c : Array Value) (T : TypeId) : At w0 ((ownA w.heap.size c T).star C) (w.alloc (.cells c T)) :=
  At.add hC h ⟨[w.heap.size], ⟨heap_alloc_new w _, rfl⟩, (Tn.refl _ _).alloc _, fun k hk => .inr (by simp at hk; omega)⟩
theorem At.drop {A C : Ass} {w0 w : World} (h : At w0 (A.star C) w) : At w0 C w := by
  obtain ⟨F, ⟨F1, F2, rfl, _, h2, _⟩, hB, hb⟩ := h
  exact ⟨F2, h2, fun k hk => hB k (by simp [hk]), hb⟩
theorem At.op2 {P : Program} {A A' B B2 C : Ass} {f : FuncId} {args : Array Value} {v : Ending} (hd : Does P A f args v A') (hN : B.Good) (hN2 : B2.Good) (hC : C.Good) {w0 w : World} (h : At w0 (B.star (B2.star (A.star C))) w) : Calls P f args w fun e w' => e = v ∧ At w0 (B.star (B2.star (A'.star C))) w' := by
  obtain ⟨F, ⟨G, _, rfl, hG, ⟨G2, _, rfl, hG2, ⟨F1, F2, rfl, h1, h2, h3⟩, h5⟩, h4⟩, hB, hb⟩ := h
  refine (hd w F1 h1).mono ?_
  rintro e w' ⟨he, hk⟩
  obtain ⟨F', g1, g2, g3⟩ := (((hk.frameL hC h2 h3).frameR hN2 hG2 h5).frameR hN hG h4)
  refine ⟨he, F', g1, fun k hk => ?_, hb.trans (g2.below hB hb.size)⟩
  rcases g3 k hk with e | e
  · exact hB k e
  · exact Nat.le_trans hb.size e
/-- One of its cells is set. -/
theorem At.poke {b : Nat} {c : Array Value} {T : TypeId} {C : Ass} {w0 w : World} (hC : C.Good) (h : At w0 ((ownA b c T).star C) w) (i : Nat) (v : Value) : At w0 ((ownA b (c.setIfInBounds i v) T).star C) (w.setCell ⟨b, i, Option.none⟩ v) := by
  refine h.turn fun F hF => Becomes.left hC hF ?_
  rintro F1 ⟨h1, rfl⟩
  exact ⟨[b], ⟨heap_setCell_same w b i c _ _ h1, rfl⟩, (Tn.refl _ _).setCell (.inl (by simp)) _, fun k hk => .inl hk⟩
/-- A row of texts in a block of the call's own. -/
def txs (ts : List ByteArray) : Array Value := (ts.map Value.string).toArray
theorem txs_at (ts : List ByteArray) (i : Nat) (h : i < ts.length) : (txs ts)[i]? = some (.string (ts.getD i ⟨#[]⟩)) := by simp [txs, List.getD, h]
theorem txs_set (ts : List ByteArray) (i : Nat) (s : ByteArray) : (txs ts).setIfInBounds i (.string s) = txs (ts.set i s) := by
  unfold txs
  rw [List.setIfInBounds_toArray, List.map_set]
theorem At.text {b : Nat} {ts : List ByteArray} {T : TypeId} {C : Ass} {w0 w : World} (h : At w0 ((ownA b (txs ts) T).star C) w) {i : Nat} (hi : i < ts.length) : w.cell? ⟨b, i, Option.none⟩ = some (.string (ts.getD i ⟨#[]⟩)) ∧ w.frozen? ⟨b, i, Option.none⟩ = false :=
  ⟨(h.own.1 i).trans (txs_at ts i hi), h.own.2.1 i⟩
theorem At.setText {b : Nat} {ts : List ByteArray} {T : TypeId} {C : Ass} {w0 w : World} (hC : C.Good) (h : At w0 ((ownA b (txs ts) T).star C) w) (i : Nat) (s : ByteArray) : At w0 ((ownA b (txs (ts.set i s)) T).star C) (w.setCell ⟨b, i, Option.none⟩ (.string s)) := by
  rw [← txs_set]; exact h.poke hC i _
end Go.Proofs.YtopkcaflmpjhgaaGreat

namespace Go.Proofs.YtopkcaflmpjhgaaGreat
open Go Go.RowKit

theorem Becomes.hold {F : List Nat} {A : Ass} {w w1 : World} (hA : A.Good) (h : Becomes F A w w1) (c : Array Value) (T : TypeId) : Becomes F ((ownA w1.heap.size c T).star A) w (w1.alloc (.cells c T)) := by
  obtain ⟨F', g1, g2, g3⟩ := h
  have hs := (hA w1 F' g1).1
  refine ⟨[w1.heap.size] ++ F', ⟨[w1.heap.size], F', rfl, ⟨heap_alloc_new w1 _, rfl⟩, hA.below g1 ((Below.refl _ _).alloc (Nat.le_refl _) _), fun k hk hk' => ?_⟩, g2.alloc _, fun k hk => ?_⟩
  · simp at hk; subst hk; have := hs _ hk'; omega
  · simp at hk
    rcases hk with rfl | hk
    · exact .inr g2.size
    · exact g3 k hk
theorem Becomes.own {F : List Nat} {b : Nat} {c : Array Value} {T : TypeId} {C : Ass} {w w1 : World} (h : Becomes F ((ownA b c T).star C) w w1) : (∀ i, w1.cell? ⟨b, i, Option.none⟩ = c[i]?) ∧ (∀ i, w1.frozen? ⟨b, i, Option.none⟩ = false) ∧ b < w1.heap.size := by
  obtain ⟨_, ⟨_, _, _, ⟨h, _⟩, _⟩, _⟩ := h
  exact ⟨fun i => cell_of_row w1 b i c T (0, 0) h, fun i => frozen_of_row w1 b i c T h, (Array.getElem?_eq_some_iff.1 h).1⟩
theorem Becomes.imp {F : List Nat} {X Y : Ass} {w w1 : World} (h : Becomes F X w w1) (hi : X.imp Y) : Becomes F Y w w1 := by
  obtain ⟨F', h1, h2, h3⟩ := h
  obtain ⟨F2, g1, e⟩ := hi w1 F' h1
  exact ⟨F2, g1, h2, fun k hk => h3 k ((e k).1 hk)⟩
theorem Becomes.drop {F : List Nat} {A C : Ass} {w w1 : World} (h : Becomes F (A.star C) w w1) : Becomes F C w w1 := by
  obtain ⟨_, ⟨F1, F2, rfl, _, h2, _⟩, h3, h4⟩ := h
  exact ⟨F2, h2, h3, fun k hk => h4 k (by simp [hk])⟩
theorem Becomes.turn {F : List Nat} {A A' : Ass} {w w1 w2 : World} (h : Becomes F A w w1) (hb : ∀ F', A w1 F' → Becomes F' A' w1 w2) : Becomes F A' w w2 := by
  obtain ⟨F', g1, g2, g3⟩ := h
  obtain ⟨F2, k1, k2, k3⟩ := hb F' g1
  refine ⟨F2, k1, g2.trans k2 g3, fun k hk => ?_⟩
  rcases k3 k hk with c | c
  · exact g3 k c
  · exact .inr (Nat.le_trans g2.size c)
theorem Becomes.poke {F : List Nat} {b : Nat} {c : Array Value} {T : TypeId} {C : Ass} {w w1 : World} (hC : C.Good) (h : Becomes F ((ownA b c T).star C) w w1) (i : Nat) (v : Value) : Becomes F ((ownA b (c.setIfInBounds i v) T).star C) w (w1.setCell ⟨b, i, Option.none⟩ v) := by
  refine h.turn fun F hF => Becomes.left hC hF ?_
  rintro F1 ⟨h1, rfl⟩
  exact ⟨[b], ⟨heap_setCell_same w1 b i c _ _ h1, rfl⟩, (Tn.refl _ _).setCell (.inl (by simp)) _, fun k hk => .inl hk⟩
theorem Becomes.opN {P : Program} {A A' X X' R : Ass} {f : FuncId} {args : Array Value} {v : Ending} (hd : Does P A f args v A') (hi : X.imp (A.star R)) (hj : (A'.star R).imp X') (hR : R.Good) {F : List Nat} {w w1 : World} (h : Becomes F X w w1) : Calls P f args w1 fun e w' => e = v ∧ Becomes F X' w w' := by
  obtain ⟨_, ⟨F1, F2, rfl, h1, h2, h3⟩, g2, g3⟩ := h.imp hi
  refine (hd w1 F1 h1).mono ?_
  rintro e w' ⟨he, hk⟩
  refine ⟨he, Becomes.imp ?_ hj⟩
  obtain ⟨F', k1, k2, k3⟩ := hk.frameL hR h2 h3
  refine ⟨F', k1, g2.trans k2 g3, fun k hk => ?_⟩
  rcases k3 k hk with c | c
  · exact g3 k c
  · exact .inr (Nat.le_trans g2.size c)
end Go.Proofs.YtopkcaflmpjhgaaGreat

namespace Go.Proofs.YtopkcaflmpjhgaaGreat
open Go Go.RowKit Go.Maps

/-- A row that the call itself makes, K cells an element. -/
def rowE (e : TypeId) (K : Nat) (v : Value) (n : Nat) (xs : List Value) : Ass := fun w F => w.ownsRow 0 e K v n xs ∧ F = v.ownBlock.toList
theorem rowE_good (e : TypeId) (K : Nat) (v : Value) (n : Nat) (xs : List Value) : (rowE e K v n xs).Good := by
  rintro w F ⟨h, rfl⟩
  refine ⟨fun k hk => (h.lt k (Option.mem_toList.1 hk)).2, fun w' hw' => ⟨⟨h.1, ?_⟩, rfl⟩⟩
  rcases h.2 with hn | ⟨g, cap, cur, rfl, hb, hgg, rest⟩
  · exact .inl hn
  · exact .inr ⟨g, cap, cur, rfl, hb, (hw' g (by simp [Value.ownBlock])).trans hgg, rest⟩
theorem At.erow {e : TypeId} {K : Nat} {v : Value} {n : Nat} {xs : List Value} {C : Ass} {w0 w : World} (h : At w0 ((rowE e K v n xs).star C) w) : w.ownsRow 0 e K v n xs := by
  obtain ⟨_, ⟨_, _, _, ⟨h, _⟩, _⟩, _⟩ := h
  exact h
theorem At.erow0 (e : TypeId) (K : Nat) {C : Ass} {w0 w : World} (h : At w0 C w) : At w0 ((rowE e K (.slice Option.none 0 0) 0 []).star C) w := by
  obtain ⟨F, h1, h2, h3⟩ := h
  exact ⟨F, ⟨[], F, rfl, ⟨World.ownsRow_nil _ _ _ _, rfl⟩, h1, fun k hk => by cases hk⟩, h2, h3⟩
theorem At.appendedE {e : TypeId} {K : Nat} {v v' : Value} {n m : Nat} {xs ys : List Value} {C : Ass} {w0 w w2 : World} (hC : C.Good) (h : At w0 ((rowE e K v n xs).star C) w) (hg : w.grownBy w2 v.ownBlock) (hr : w2.ownsRow 0 e K v' m ys)
    (hloc : v'.ownBlock = v.ownBlock ∨ ∃ k, w.heap.size ≤ k ∧ v'.ownBlock = some k) : At w0 ((rowE e K v' m ys).star C) w2 := by
  obtain ⟨F, ⟨F1, F2, rfl, ⟨h1, rfl⟩, h2, hd⟩, hB, hb⟩ := h
  have hbec : Becomes v.ownBlock.toList (rowE e K v' m ys) w w2 := by
    refine ⟨_, ⟨hr, rfl⟩, (Tn.refl _ _).grown hg (fun k hk => .inl (Option.mem_toList.2 hk)), fun k hk => ?_⟩
    have hk' := Option.mem_toList.1 hk
    rcases hloc with c | ⟨j, hj, c⟩
    · rw [c] at hk'; exact .inl (Option.mem_toList.2 hk')
    · rw [c] at hk'; cases hk'; exact .inr hj
  obtain ⟨F', g1, g2, g3⟩ := hbec.frameL hC h2 hd
  refine ⟨F', g1, fun k hk => ?_, hb.trans (g2.below hB hb.size)⟩
  rcases g3 k hk with c | c
  · exact hB k c
  · exact Nat.le_trans hb.size c
theorem rowE_shape {w : World} {e : TypeId} {K : Nat} {v : Value} {n : Nat} {xs : List Value} (h : w.ownsRow 0 e K v n xs) : ∃ ao cap, v = .slice ao n cap := by
  rcases h.2 with ⟨rfl, h0⟩ | ⟨g, cap, _, rfl, _⟩
  · exact ⟨Option.none, 0, by rw [h0]⟩
  · exact ⟨_, cap, rfl⟩
theorem Becomes.erow {e : TypeId} {K : Nat} {v : Value} {n : Nat} {xs : List Value} {C : Ass} {F : List Nat} {w0 w : World} (h : Becomes F ((rowE e K v n xs).star C) w0 w) : w.ownsRow 0 e K v n xs := by
  obtain ⟨_, ⟨_, _, _, ⟨h, _⟩, _⟩, _⟩ := h
  exact h
theorem Becomes.erow0 (e : TypeId) (K : Nat) {C : Ass} {F : List Nat} {w0 w : World} (h : Becomes F C w0 w) : Becomes F ((rowE e K (.slice Option.none 0 0) 0 []).star C) w0 w := by
  obtain ⟨F', h1, h2, h3⟩ := h
  exact ⟨F', ⟨[], F', rfl, ⟨World.ownsRow_nil _ _ _ _, rfl⟩, h1, fun k hk => by cases hk⟩, h2, h3⟩
theorem Becomes.appendedE {e : TypeId} {K : Nat} {v v' : Value} {n m : Nat} {xs ys : List Value} {C : Ass} {F : List Nat} {w0 w w2 : World} (hC : C.Good) (h : Becomes F ((rowE e K v n xs).star C) w0 w) (hg : w.grownBy w2 v.ownBlock) (hr : w2.ownsRow 0 e K v' m ys)
    (hloc : v'.ownBlock = v.ownBlock ∨ ∃ k, w.heap.size ≤ k ∧ v'.ownBlock = some k) : Becomes F ((rowE e K v' m ys).star C) w0 w2 := by
  refine h.turn fun F' hF => Becomes.left hC hF ?_
  rintro F1 ⟨h1, rfl⟩
  refine ⟨_, ⟨hr, rfl⟩, (Tn.refl _ _).grown hg (fun k hk => .inl (Option.mem_toList.2 hk)), fun k hk => ?_⟩
  have hk' := Option.mem_toList.1 hk
  rcases hloc with c | ⟨j, hj, c⟩
  · rw [c] at hk'; exact .inl (Option.mem_toList.2 hk')
  · rw [c] at hk'; cases hk'; exact .inr hj
end Go.Proofs.YtopkcaflmpjhgaaGreat

namespace Go.Proofs.YtopkcaflmpjhgaaGreat
open Go

section
variable {P : Program} {ops : Array Oper} {Q : Exit → Act → World → Prop} {S : World → Prop} {fuel : Nat} {listed : Array Bool} {a : Act} {w : World}
/-- The beginning; S is shown of the world behind the draw. -/
theorem region_held {id : Nat} {l : List Oper} (n : Nat) (L : List Bool) (hn : l.length = n) (hL : List.replicate n false = L) (hm : P.follows .mixedOrders = true)
    (h : ∀ W, W = w.drew → wpAnyH P .any l.toArray Q S n L.toArray a W) : (Code.region id l.toArray true).wp P Q a w := wp_region_held hm (by
  subst hn hL
  have := h _ rfl
  simpa using this)
/-- What yields in every world that meets S is taken first. -/
theorem held_take (i : Nat) (oi : Oper) (dst : Option Tmp) (v : Value) (hi : ops[i]? = some oi) (hd : oi.dst = dst)
    (hs : Region.noSelect ops = true) (hf : Region.free .any ops listed i = true) (hr : (Region.ready .any ops listed).contains i = true)
    (hQ : ∀ c a w, Q (.panic c) (a.put dst v) w → Q (.panic c) a w) (hy : YieldsIf P ops S oi v a) (hS : S w)
    (h : wpAnyH P .any ops Q S fuel (listed.setIfInBounds i true) (a.put dst v) w) : wpAnyH P .any ops Q S (fuel + 1) listed a w := by
  subst hd
  exact wpAnyH_take hi hs hf hr hQ hy hS h
/-- One that is not wanted. -/
theorem held_skip (i : Nat) (oi : Oper) (dst : Option Tmp) (hi : ops[i]? = some oi) (hd : oi.dst = dst)
    (hs : Region.noSelect ops = true) (hf : Region.free .any ops listed i = true) (hr : (Region.ready .any ops listed).contains i = true)
    (hQ : ∀ c a w, Q (.panic c) (a.put dst undef) w → Q (.panic c) a w) (hw : Region.wanted oi (yielded ops a.tmps) = false) (hS : S w)
    (h : wpAnyH P .any ops Q S fuel (listed.setIfInBounds i true) (a.put dst undef) w) : wpAnyH P .any ops Q S (fuel + 1) listed a w :=
  held_take i oi dst undef hi hd hs hf hr hQ (.inr ⟨hw, rfl⟩) hS h
/-- The only one that may come up yields a value, and the world may turn. -/
theorem held_one (i : Nat) (o : Oper) (dst : Option Tmp) (v : Value) (w' : World) (hr : Region.ready .any ops listed = [i]) (ho : ops[i]? = some o) (hd : o.dst = dst) (hw : Region.wanted o (yielded ops a.tmps) = true)
    (hrun : (execOp a.eval o).run P w = .ok (.value v) w') (hS : S w') (h : wpAnyH P .any ops Q S fuel (listed.setIfInBounds i true) (a.put dst v) w') : wpAnyH P .any ops Q S (fuel + 1) listed a w := by
  subst hd
  refine wpAnyH_all hr (by simp) (fun j hj => ?_)
  obtain rfl : j = i := by simpa using hj
  refine wpOp_step ho (fun K hK => ?_)
  rw [if_pos hw]
  unfold Oper.wp
  rw [hrun, Oper.upon_value]
  exact hK _ _ ⟨hS, h⟩
theorem held_void (i : Nat) (o : Oper) (w' : World) (hr : Region.ready .any ops listed = [i]) (ho : ops[i]? = some o) (hw : Region.wanted o (yielded ops a.tmps) = true)
    (hrun : (execOp a.eval o).run P w = .ok .skip w') (hS : S w') (h : wpAnyH P .any ops Q S fuel (listed.setIfInBounds i true) (a.put o.dst undef) w') : wpAnyH P .any ops Q S (fuel + 1) listed a w := by
  refine wpAnyH_all hr (by simp) (fun j hj => ?_)
  obtain rfl : j = i := by simpa using hj
  refine wpOp_step ho (fun K hK => ?_)
  rw [if_pos hw]
  unfold Oper.wp
  rw [hrun, Oper.upon_skip]
  exact hK _ _ ⟨hS, h⟩
/-- The only one that may come up calls a function. -/
theorem held_call (i : Nat) (o : Oper) (dst : Option Tmp) (v : Value) (R : World → Prop) (f : FuncId) (args : Array Value) (hr : Region.ready .any ops listed = [i]) (ho : ops[i]? = some o) (hd : o.dst = dst) (hw : Region.wanted o (yielded ops a.tmps) = true)
    (hrun : (execOp a.eval o).run P w = .ok (.enter f args) w) (hc : Calls P f args w fun e w' => e = .returned v ∧ R w') (hS : ∀ w', R w' → S w')
    (h : ∀ w', R w' → wpAnyH P .any ops Q S fuel (listed.setIfInBounds i true) (a.put dst v) w') : wpAnyH P .any ops Q S (fuel + 1) listed a w := by
  subst hd
  refine wpAnyH_all hr (by simp) (fun j hj => ?_)
  obtain rfl : j = i := by simpa using hj
  refine wpOp_step ho (fun K hK => ?_)
  rw [if_pos hw]
  unfold Oper.wp
  rw [hrun, Oper.upon_enter]
  refine hc.mono ?_
  rintro e w' ⟨rfl, hR⟩
  exact hK _ _ ⟨hS w' hR, h w' hR⟩
end
end Go.Proofs.YtopkcaflmpjhgaaGreat

namespace Go.Proofs.YtopkcaflmpjhgaaGreat
open Go

section
variable {P : Program} {ops : Array Oper} {Q : Exit → Act → World → Prop} {S : World → Prop} {fuel : Nat} {listed : Array Bool} {a : Act} {w : World}
/-- May they come up in this order? -/
def runOk (ops : Array Oper) : Array Bool → List Nat → Bool
  | _, [] => Region.noSelect ops
  | L, i :: is => Region.free .any ops L i && ((Region.ready .any ops L).contains i && runOk ops (L.setIfInBounds i true) is)
theorem runOk_sel {L : Array Bool} {is : List Nat} (h : runOk ops L is = true) : Region.noSelect ops = true := by
  induction is generalizing L with
  | nil => exact h
  | cons i is ih =>
    simp only [runOk, Bool.and_eq_true] at h
    exact ih h.2.2
/-- The rest of a run. -/
def wpRun (P : Program) (ops : Array Oper) (Q : Exit → Act → World → Prop) (S : World → Prop) (fuel : Nat) (L : Array Bool) (is : List (Nat × Oper × Option Tmp)) (a : Act) (w : World) : Prop :=
  runOk ops L (is.map (·.1)) = true → wpAnyH P .any ops Q S fuel L a w
theorem run_go (is : List (Nat × Oper × Option Tmp)) (hok : runOk ops listed (is.map (·.1)) = true) (h : wpRun P ops Q S fuel listed is a w) : wpAnyH P .any ops Q S fuel listed a w := h hok
theorem run_end (h : wpAnyH P .any ops Q S fuel listed a w) : wpRun P ops Q S fuel listed [] a w := fun _ => h
theorem run_take {i : Nat} {oi : Oper} {dst : Option Tmp} {is : List (Nat × Oper × Option Tmp)} (v : Value) (hi : ops[i]? = some oi) (hd : oi.dst = dst) (hQ : ∀ c a w, Q (.panic c) (a.put dst v) w → Q (.panic c) a w) (hy : YieldsIf P ops S oi v a) (hS : S w)
    (h : wpRun P ops Q S fuel (listed.setIfInBounds i true) is (a.put dst v) w) : wpRun P ops Q S (fuel + 1) listed ((i, oi, dst) :: is) a w := fun hok => by
  simp only [List.map_cons, runOk, Bool.and_eq_true] at hok
  exact held_take i oi dst v hi hd (runOk_sel hok.2.2) hok.1 hok.2.1 hQ hy hS (h hok.2.2)
end
end Go.Proofs.YtopkcaflmpjhgaaGreat

namespace Go.Proofs.YtopkcaflmpjhgaaGreat
open Go

section
variable {P : Program} {ops : Array Oper} {Q : Exit → Act → World → Prop} {S : World → Prop} {fuel : Nat} {listed : Array Bool} {a : Act} {w : World}
/-- Two may come up. -/
theorem jtwo (i j : Nat) (hr : Region.ready .any ops listed = [i, j]) (h1 : wpOp P ops Q i (fun a' w' => S w' ∧ wpAnyH P .any ops Q S fuel (listed.setIfInBounds i true) a' w') a w)
    (h2 : wpOp P ops Q j (fun a' w' => S w' ∧ wpAnyH P .any ops Q S fuel (listed.setIfInBounds j true) a' w') a w) : wpAnyH P .any ops Q S (fuel + 1) listed a w := by
  refine wpAnyH_all hr (by simp) (fun k hk => ?_)
  have hk : k = i ∨ k = j := by simpa using hk
  rcases hk with rfl | rfl
  · exact h1
  · exact h2
theorem jop_one (i : Nat) (o : Oper) (dst : Option Tmp) (v : Value) (w' : World) (ho : ops[i]? = some o) (hd : o.dst = dst) (hw : Region.wanted o (yielded ops a.tmps) = true)
    (hrun : (execOp a.eval o).run P w = .ok (.value v) w') (hS : S w') (h : wpAnyH P .any ops Q S fuel (listed.setIfInBounds i true) (a.put dst v) w') : wpOp P ops Q i (fun a' w' => S w' ∧ wpAnyH P .any ops Q S fuel (listed.setIfInBounds i true) a' w') a w := by
  subst hd
  refine wpOp_step ho (fun K hK => ?_)
  rw [if_pos hw]
  unfold Oper.wp
  rw [hrun, Oper.upon_value]
  exact hK _ _ ⟨hS, h⟩
theorem jop_call (i : Nat) (o : Oper) (dst : Option Tmp) (v : Value) (R : World → Prop) (f : FuncId) (args : Array Value) (ho : ops[i]? = some o) (hd : o.dst = dst) (hw : Region.wanted o (yielded ops a.tmps) = true)
    (hrun : (execOp a.eval o).run P w = .ok (.enter f args) w) (hc : Calls P f args w fun e w' => e = .returned v ∧ R w') (hS : ∀ w', R w' → S w')
    (h : ∀ w', R w' → wpAnyH P .any ops Q S fuel (listed.setIfInBounds i true) (a.put dst v) w') : wpOp P ops Q i (fun a' w' => S w' ∧ wpAnyH P .any ops Q S fuel (listed.setIfInBounds i true) a' w') a w := by
  subst hd
  refine wpOp_step ho (fun K hK => ?_)
  rw [if_pos hw]
  unfold Oper.wp
  rw [hrun, Oper.upon_enter]
  refine hc.mono ?_
  rintro e w' ⟨rfl, hR⟩
  exact hK _ _ ⟨hS w' hR, h w' hR⟩
/-- Three, four may come up. -/
theorem jthree (i j k : Nat) (hr : Region.ready .any ops listed = [i, j, k]) (h1 : wpOp P ops Q i (fun a' w' => S w' ∧ wpAnyH P .any ops Q S fuel (listed.setIfInBounds i true) a' w') a w)
    (h2 : wpOp P ops Q j (fun a' w' => S w' ∧ wpAnyH P .any ops Q S fuel (listed.setIfInBounds j true) a' w') a w) (h3 : wpOp P ops Q k (fun a' w' => S w' ∧ wpAnyH P .any ops Q S fuel (listed.setIfInBounds k true) a' w') a w) : wpAnyH P .any ops Q S (fuel + 1) listed a w := by
  refine wpAnyH_all hr (by simp) (fun m hk => ?_)
  have hk : m = i ∨ m = j ∨ m = k := by simpa using hk
  rcases hk with rfl | rfl | rfl
  · exact h1
  · exact h2
  · exact h3
theorem jfour (i j k l : Nat) (hr : Region.ready .any ops listed = [i, j, k, l]) (h1 : wpOp P ops Q i (fun a' w' => S w' ∧ wpAnyH P .any ops Q S fuel (listed.setIfInBounds i true) a' w') a w)
    (h2 : wpOp P ops Q j (fun a' w' => S w' ∧ wpAnyH P .any ops Q S fuel (listed.setIfInBounds j true) a' w') a w) (h3 : wpOp P ops Q k (fun a' w' => S w' ∧ wpAnyH P .any ops Q S fuel (listed.setIfInBounds k true) a' w') a w)
    (h4 : wpOp P ops Q l (fun a' w' => S w' ∧ wpAnyH P .any ops Q S fuel (listed.setIfInBounds l true) a' w') a w) : wpAnyH P .any ops Q S (fuel + 1) listed a w := by
  refine wpAnyH_all hr (by simp) (fun m hk => ?_)
  have hk : m = i ∨ m = j ∨ m = k ∨ m = l := by simpa using hk
  rcases hk with rfl | rfl | rfl | rfl
  · exact h1
  · exact h2
  · exact h3
  · exact h4
end
end Go.Proofs.YtopkcaflmpjhgaaGreat

namespace Go.Proofs.YtopkcaflmpjhgaaGreat
open Go

section
variable {P : Program} {ops : Array Oper} {Q : Exit → Act → World → Prop} {S : World → Prop} {fuel : Nat} {listed : Array Bool} {a : Act} {w : World}
/-- A call of several that may come up; what it answers is known behind it only. -/
theorem jop_callv (i : Nat) (o : Oper) (dst : Option Tmp) (R : Value → World → Prop) (f : FuncId) (args : Array Value) (ho : ops[i]? = some o) (hd : o.dst = dst) (hw : Region.wanted o (yielded ops a.tmps) = true)
    (hrun : (execOp a.eval o).run P w = .ok (.enter f args) w) (hc : Calls P f args w fun e w' => ∃ v, e = .returned v ∧ R v w') (hS : ∀ v w', R v w' → S w')
    (h : ∀ v w', R v w' → wpAnyH P .any ops Q S fuel (listed.setIfInBounds i true) (a.put dst v) w') : wpOp P ops Q i (fun a' w' => S w' ∧ wpAnyH P .any ops Q S fuel (listed.setIfInBounds i true) a' w') a w := by
  subst hd
  refine wpOp_step ho (fun K hK => ?_)
  rw [if_pos hw]
  unfold Oper.wp
  rw [hrun, Oper.upon_enter]
  refine hc.mono ?_
  rintro e w' ⟨v, rfl, hR⟩
  exact hK _ _ ⟨hS v w' hR, h v w' hR⟩
/-- The only one that may come up calls a function. -/
theorem held_callv (i : Nat) (o : Oper) (dst : Option Tmp) (R : Value → World → Prop) (f : FuncId) (args : Array Value) (hr : Region.ready .any ops listed = [i]) (ho : ops[i]? = some o) (hd : o.dst = dst) (hw : Region.wanted o (yielded ops a.tmps) = true)
    (hrun : (execOp a.eval o).run P w = .ok (.enter f args) w) (hc : Calls P f args w fun e w' => ∃ v, e = .returned v ∧ R v w') (hS : ∀ v w', R v w' → S w')
    (h : ∀ v w', R v w' → wpAnyH P .any ops Q S fuel (listed.setIfInBounds i true) (a.put dst v) w') : wpAnyH P .any ops Q S (fuel + 1) listed a w := by
  refine wpAnyH_all hr (by simp) (fun j hj => ?_)
  obtain rfl : j = i := by simpa using hj
  exact jop_callv j o dst R f args ho hd hw hrun hc hS h
end
end Go.Proofs.YtopkcaflmpjhgaaGreat

namespace Go.Proofs.YtopkcaflmpjhgaaGreat
open Go Go.RowKit

/-- The block b of W holds the cells c, and nothing of it is marked. -/
structure Blk (W : World) (b : Nat) (c : Array Value) : Prop where
  cell : ∀ i, W.cell? ⟨b, i, none⟩ = c[i]?
  froz : ∀ i, W.frozen? ⟨b, i, none⟩ = false
  lt : b < W.heap.size
theorem Blk.new (w : World) (c : Array Value) (t : TypeId) : Blk (w.alloc (.cells c t)) w.heap.size c :=
  ⟨fun _ => World.cell?_alloc_at _ _ _ _ rfl, fun _ => World.frozen?_alloc_at _ _ _ _ rfl, by simp⟩
theorem Blk.new' (w : World) (b : Nat) (hb : w.heap.size = b) (c : Array Value) (t : TypeId) : Blk (w.alloc (.cells c t)) b c := by subst hb; exact Blk.new w c t
theorem Blk.step {W W' : World} {b : Nat} {c : Array Value} (h : Blk W b c) (hb : Below W.heap.size W W') : Blk W' b c :=
  ⟨fun i => (hb.cell (p := ⟨b, i, none⟩) h.lt).trans (h.cell i), fun i => (hb.frozen (p := ⟨b, i, none⟩) h.lt).trans (h.froz i), Nat.lt_of_lt_of_le h.lt hb.size⟩
theorem Blk.alloc {W : World} {b : Nat} {c : Array Value} (h : Blk W b c) (o : Obj) : Blk (W.alloc o) b c := h.step ((Below.refl _ _).alloc (Nat.le_refl _) o)
theorem Blk.drewN {W : World} {b : Nat} {c : Array Value} (h : Blk W b c) (n : Nat) : Blk (W.drewN n) b c := h.step ⟨rfl, rfl, rfl, Nat.le_refl _, fun _ _ => rfl⟩
theorem Blk.drew {W : World} {b : Nat} {c : Array Value} (h : Blk W b c) : Blk W.drew b c := h.step ⟨rfl, rfl, rfl, Nat.le_refl _, fun _ _ => rfl⟩
end Go.Proofs.YtopkcaflmpjhgaaGreat

namespace Go.Proofs.YtopkcaflmpjhgaaGreat
open Go Go.RowKit

abbrev Ob := Nat × Array Value × TypeId
/-- The blocks, then the rest. -/
def OB : List Ob → Ass → Ass
  | [], R => R
  | x :: l, R => (ownA x.1 x.2.1 x.2.2).star (OB l R)
theorem OB.good {l : List Ob} {R : Ass} (hR : R.Good) : (OB l R).Good := by
  induction l with
  | nil => exact hR
  | cons x l ih => exact (ownA_good _ _ _).star ih
theorem OB.under {l : List Ob} {R R' : Ass} (h : R.imp R') : (OB l R).imp (OB l R') := by
  induction l with
  | nil => exact h
  | cons x l ih => exact ih.under _
/-- A row behind the blocks comes to the front, and back. -/
theorem OB.up (l : List Ob) (A R : Ass) : (OB l (A.star R)).imp (A.star (OB l R)) := by
  induction l with
  | nil => exact Ass.imp.refl _
  | cons x l ih => exact (ih.under _).trans (Ass.imp.swap _ _ _)
theorem OB.dn (l : List Ob) (A R : Ass) : (A.star (OB l R)).imp (OB l (A.star R)) := by
  induction l with
  | nil => exact Ass.imp.refl _
  | cons x l ih => exact (Ass.imp.swap _ _ _).trans (ih.under _)
theorem OB.rest {l : List Ob} {R : Ass} {w0 w : World} (h : At w0 (OB l R) w) : At w0 R w := by
  induction l with
  | nil => exact h
  | cons x l ih => exact ih h.drop
theorem OB.at {l : List Ob} {R : Ass} {w0 w : World} (h : At w0 (OB l R) w) {i b : Nat} {c : Array Value} {T : TypeId} (hi : l[i]? = some (b, c, T)) : Blk w b c := by
  induction l generalizing i with
  | nil => cases hi
  | cons x l ih =>
    cases i with
    | zero =>
      obtain rfl : x = (b, c, T) := by simpa using hi
      obtain ⟨h1, h2, h3⟩ := h.own
      exact ⟨h1, h2, h3⟩
    | succ i => exact ih h.drop (by simpa using hi)
/-- One that stands in the midst, to the front. -/
theorem OB.pick {l : List Ob} (R : Ass) {i : Nat} {x : Ob} (hi : l[i]? = some x) : (OB l R).imp ((ownA x.1 x.2.1 x.2.2).star (OB (l.eraseIdx i) R)) := by
  induction l generalizing i with
  | nil => cases hi
  | cons y l ih =>
    cases i with
    | zero =>
      obtain rfl : y = x := by simpa using hi
      exact Ass.imp.refl _
    | succ i => exact ((ih (i := i) (by simpa using hi)).under _).trans (Ass.imp.swap _ _ _)
theorem OB.put {l : List Ob} (R : Ass) {i : Nat} {x : Ob} (y : Ob) (hi : l[i]? = some x) : ((ownA y.1 y.2.1 y.2.2).star (OB (l.eraseIdx i) R)).imp (OB (l.set i y) R) := by
  induction l generalizing i with
  | nil => cases hi
  | cons z l ih =>
    cases i with
    | zero => exact Ass.imp.refl _
    | succ i => exact (Ass.imp.swap _ _ _).trans ((ih (i := i) (by simpa using hi)).under _)
theorem OB.poke {l : List Ob} {R : Ass} {w0 w : World} (hR : R.Good) (h : At w0 (OB l R) w) (i : Nat) {b : Nat} {c : Array Value} {T : TypeId} (hi : l[i]? = some (b, c, T)) (j : Nat) (v : Value) :
    At w0 (OB (l.set i (b, c.setIfInBounds j v, T)) R) (w.setCell ⟨b, j, Option.none⟩ v) :=
  (((h.imp (OB.pick R hi)).poke (OB.good hR) j v).imp (OB.put R (b, c.setIfInBounds j v, T) hi))
/-- A new one, behind the others. -/
theorem OB.snoc (l : List Ob) (x : Ob) (R : Ass) : ((ownA x.1 x.2.1 x.2.2).star (OB l R)).imp (OB (l ++ [x]) R) := by
  induction l with
  | nil => exact Ass.imp.refl _
  | cons y l ih => exact (Ass.imp.swap _ _ _).trans (ih.under _)
theorem OB.hold {l : List Ob} {R : Ass} {w0 w : World} (hR : R.Good) (h : At w0 (OB l R) w) (c : Array Value) (T : TypeId) {p : Nat} (hp : p = w.heap.size) : At w0 (OB (l ++ [(p, c, T)]) R) (w.alloc (.cells c T)) := by
  subst hp
  exact (At.hold (OB.good hR) h c T).imp (OB.snoc l (w.heap.size, c, T) R)
theorem OB.start {w0 w : World} (hb : Below w0.heap.size w0 w) : At w0 (OB [] emp) w := At.none hb
theorem OB.lay {l : List Ob} {R : Ass} {w0 w w' : World} (hR : R.Good) (h : At w0 (OB l R) w) (hb : Below w.heap.size w w') : At w0 (OB l R) w' := h.lay (OB.good hR) hb
/-- A block of seven cells is written whole; what lies behind the blocks stays. -/
theorem OB.wr7 {l : List Ob} {R : Ass} {w0 w : World} (hR : R.Good) (h : At w0 (OB l R) w) {i b : Nat} {c : Array Value} {T : TypeId} (hi : l[i]? = some (b, c, T)) (v0 v1 v2 v3 v4 v5 v6 : Value) : At w0 R (((((((w.setCell ⟨b, 0, Option.none⟩ v0).setCell ⟨b, 1, Option.none⟩ v1).setCell ⟨b, 2, Option.none⟩ v2).setCell ⟨b, 3, Option.none⟩ v3).setCell ⟨b, 4, Option.none⟩ v4).setCell ⟨b, 5, Option.none⟩ v5).setCell ⟨b, 6, Option.none⟩ v6) := by
  have h0 := (h.imp (OB.pick R hi))
  have g := OB.good (l := l.eraseIdx i) hR
  exact OB.rest (((((((h0.poke g 0 v0).poke g 1 v1).poke g 2 v2).poke g 3 v3).poke g 4 v4).poke g 5 v5).poke g 6 v6).drop
end Go.Proofs.YtopkcaflmpjhgaaGreat

namespace Go.Proofs.YtopkcaflmpjhgaaGreat
open Go Go.RowKit Go.Maps

section
variable {P : Program} {e : TypeId} {K g n c : Nat} {xs : List Value} {C : Ass} {w0 w : World}
theorem At.rowCut (h : At w0 ((rowE e K (.slice (some ⟨g, 0, Option.none⟩) n c) n xs).star C) w) {i : Nat} (hi : i ≤ n) : At w0 ((rowE e K (.slice (some ⟨g, 0, Option.none⟩) i c) i (xs.take (i * K))).star C) w := by
  obtain ⟨F, ⟨F1, F2, rfl, ⟨h1, rfl⟩, g2, g3⟩, hB, hb⟩ := h
  refine ⟨_, ⟨_, F2, rfl, ⟨?_, rfl⟩, g2, fun k hk => g3 k (by simpa [Value.ownBlock] using hk)⟩, fun k hk => hB k (by simpa [Value.ownBlock] using hk), hb⟩
  obtain ⟨l1, r1⟩ := h1
  have hik : i * K ≤ n * K := Nat.mul_le_mul_right _ hi
  refine ⟨by rw [List.length_take]; omega, ?_⟩
  rcases r1 with ⟨c1, _⟩ | ⟨g', c', cur, c1, hbg, hg, hnc, hcm, hcs, htk⟩
  · simp at c1
  · simp only [Value.slice.injEq, Option.some.injEq, Addr.mk.injEq, and_true, true_and] at c1
    obtain ⟨rfl, rfl⟩ := c1
    refine .inr ⟨g, c, cur, rfl, hbg, hg, by omega, hcm, hcs, ?_⟩
    rw [← htk, List.take_take, Nat.min_eq_left hik]
theorem At.fits {i : TypeInfo} {t ty : TypeId} (ht : P.underlying t = some (.slice e)) (hi : P.info? e = some i) (hsize : i.size = K) (hC : C.Good) (h : At w0 ((rowE e K (.slice (some ⟨g, 0, Option.none⟩) n c) n xs).star C) w)
    {a : Addr} {m c2 : Nat} {news : List Value} (hl : news.length = m * K) (hnews : ∀ j u, news[j]? = some u → w.cell? (a.add j) = some u) (h1 : ∀ u ∈ news, u.oneCell' = true) (hroom : n + m ≤ c) :
    ∃ w', (Builtin.append_ #[t, t] ty #[.slice (some ⟨g, 0, Option.none⟩) n c, .slice (some a) m c2]).run P w = .ok (.slice (some ⟨g, 0, Option.none⟩) (n + m) c) w' ∧ At w0 ((rowE e K (.slice (some ⟨g, 0, Option.none⟩) (n + m) c) (n + m) (xs ++ news)).star C) w' := by
  obtain ⟨w', hr, hrow, hgr⟩ := run_append_fits (P := P) w 0 t ty e i K ht hi hsize g n c xs h.erow a m c2 news hl hnews h1 hroom
  exact ⟨w', hr, h.appendedE hC hgr hrow (.inl rfl)⟩
theorem At.cleared {t ty : TypeId} {z : Value} {vs : List Value} (ht : P.underlying t = some (.slice e)) (hv : ∀ w, (zeroValue e).run P w = .ok z w) (hC : C.Good) (h : At w0 ((rowE e K (.slice (some ⟨g, 0, Option.none⟩) n c) n xs).star C) w)
    {m c2 : Nat} (hz : (Builtin.zeroCells z.cells (m + 1)).toList = vs) (hvs : vs.length = (m + 1) * K) (h1 : ∀ u ∈ vs, u.oneCell' = true) (hroom : n + (m + 1) ≤ c) :
    ∃ w', (Builtin.clear_ #[t] ty #[.slice (some ⟨g, n * K, Option.none⟩) (m + 1) c2]).run P w = .ok (.tuple #[]) w' ∧ At w0 ((rowE e K (.slice (some ⟨g, 0, Option.none⟩) n c) n xs).star C) w' := by
  obtain ⟨l1, r1⟩ := h.erow
  rcases r1 with ⟨c1, _⟩ | ⟨g', c', cur, c1, hbg, hg, hnc, hcm, hcs, htk⟩
  · simp at c1
  · simp only [Value.slice.injEq, Option.some.injEq, Addr.mk.injEq, and_true, true_and] at c1
    obtain ⟨rfl, rfl⟩ := c1
    have hfit : n * K + vs.length ≤ cur.size := by rw [hvs, hcs, ← Nat.add_mul]; exact Nat.mul_le_mul_right _ hroom
    have hst := run_storeCells_at P g (n * K) e vs 0 cur w hg (by simpa using hfit) h1
    simp only [Nat.add_zero] at hst
    refine ⟨_, by simp [Builtin.clear_, run_underlying ht, hv, hz, hst]; rfl, ?_⟩
    refine h.appendedE hC ⟨rfl, rfl, rfl, by simp, fun k _ hk => setRow_other w g k _ (fun e => hk (by simp [Value.ownBlock, e]))⟩ ⟨l1, .inr ⟨g, c, _, rfl, hbg, setRow_heap w g cur _ e _ hg, hnc, hcm, ?_, ?_⟩⟩ (.inl rfl)
    · simp only [List.size_toArray, List.length_append, List.length_take, List.length_drop, Array.length_toList]
      omega
    · show List.take (n * K) (List.take (n * K) cur.toList ++ (vs ++ List.drop (n * K + vs.length) cur.toList)) = xs
      rw [List.take_append_of_le_length (by rw [List.length_take, Array.length_toList]; omega), List.take_take, Nat.min_self]
      exact htk
/-- At a step of a region that draws: an append whose run is known. -/
theorem step_app_run {ops : Array Oper} {o : Oper} {a : Act} {w' : World} {T : Act → World → Prop} {Q : Exit → Act → World → Prop} {E : Prop} (hgd : o.guard = Option.none) (s x : Operand) (t : TypeId)
    (ho : o.op = .call { callee := .builtin .append, args := #[s, x], argTypes := #[t, t] }) {v u v' : Value} (hs : a.eval s = v) (hx : a.eval x = u) (hr : (Builtin.append_ #[t, t] o.type #[v, u]).run P w = .ok v' w') (h : T (a.put o.dst v') w') :
    if Region.wanted o (yielded ops a.tmps) = true then Oper.wp P o a w T Q else E := by
  have hw : Region.wanted o (yielded ops a.tmps) = true := by simp [Region.wanted, hgd]
  rw [if_pos hw]
  unfold Oper.wp execOp
  simp only [ho, resolve, invoke, builtin, Sem.run_bind, Sem.run_pure, Result.andThen_ok, List.map_toArray, List.map_cons, List.map_nil, hs, hx, hr]
  exact h
end
end Go.Proofs.YtopkcaflmpjhgaaGreat

namespace Go.Proofs.YtopkcaflmpjhgaaGreat
open Go Go.RowKit

/-- A world that keeps the old memory of W. -/
structure Wl (W : World) where
  z : World
  h : Below W.heap.size W z
instance wl_nonempty (W : World) : Nonempty (Wl W) := ⟨⟨W, Below.refl _ _⟩⟩
theorem wp_region_wl {P : Program} {id : Nat} {Q : Exit → Act → World → Prop} {a : Act} {w : World} {l : List Oper} (W : World) (hw : Below W.heap.size W w) (hm : P.follows .mixedOrders = true) (hB : Region.lexB .any l.toArray = true)
    (h : wpQuiet P l.toArray (fun w' => ∃ s : Wl W, w' = s.z) (fun a' => ∀ w', (∃ s : Wl W, w' = s.z) → Q .normal a' w') l a) : (Code.region id l.toArray true).wp P Q a w :=
  wp_region_quiet (C := fun w' => ∃ s : Wl W, w' = s.z) hm hB ⟨(⟨{ w with drawn := w.drawn + 1 }, ⟨hw.os, hw.tape, hw.output, hw.size, hw.block⟩⟩ : Wl W), rfl⟩ (by simpa using h)
/-- A call that leaves old memory alone. -/
theorem Calls.wl {P : Program} {f : FuncId} {args : Array Value} {W : World} {s : Wl W} {v : Value} (h : Calls P f args s.z fun e w' => e = .returned v ∧ Below s.z.heap.size s.z w') : Calls P f args s.z fun e w'' => e = .returned v ∧ ∃ t : Wl W, w'' = t.z :=
  h.mono fun _ w' ⟨e1, b⟩ => ⟨e1, ⟨w', s.h.trans (b.mono s.h.size)⟩, rfl⟩
end Go.Proofs.YtopkcaflmpjhgaaGreat

