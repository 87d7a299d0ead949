/- Put together: Sep, Sep2, OwnA, OwnB. Conditions: each theorem's own. -/
import Derived.WalkKit
import Derived.Laws.AppendOwn
import Derived.Maps.OwnSet
import Derived.Deep.Quiet
import Derived.OneCell
namespace Go.Proofs.YtcakipojmkehgaaDoor
open Go Go.RowKit

/-- w' is w but for the blocks of F, and new ones. -/
structure Tn (F : List Nat) (w w' : World) : Prop where
  os : w'.os = w.os
  tape : w'.tape = w.tape
  output : w'.output = w.output
  size : w.heap.size ≤ w'.heap.size
  block : ∀ k, k < w.heap.size → k ∉ F → w'.heap[k]? = w.heap[k]?
theorem Tn.refl (F : List Nat) (w : World) : Tn F w w := ⟨rfl, rfl, rfl, Nat.le_refl _, fun _ _ _ => rfl⟩
theorem Tn.trans {F G : List Nat} {a b c : World} (h : Tn F a b) (k : Tn G b c) (hG : ∀ x ∈ G, x ∈ F ∨ a.heap.size ≤ x) : Tn F a c :=
  ⟨k.os.trans h.os, k.tape.trans h.tape, k.output.trans h.output, Nat.le_trans h.size k.size, fun i hi hn => (k.block i (Nat.lt_of_lt_of_le hi h.size) (fun hm => by
    rcases hG i hm with h1 | h1
    · exact hn h1
    · omega)).trans (h.block i hi hn)⟩
theorem Tn.mono {F G : List Nat} {a b : World} (h : Tn F a b) (hG : ∀ x ∈ F, x ∈ G) : Tn G a b := ⟨h.os, h.tape, h.output, h.size, fun i hi hn => h.block i hi (fun hm => hn (hG i hm))⟩
theorem Tn.ofBelow {w w' : World} (h : Below w.heap.size w w') (F : List Nat) : Tn F w w' := ⟨h.os, h.tape, h.output, h.size, fun i hi _ => h.block i hi⟩
theorem Tn.below {F : List Nat} {B : Nat} {w w' : World} (h : Tn F w w') (hF : ∀ k ∈ F, B ≤ k) (hB : B ≤ w.heap.size) : Below B w w' :=
  ⟨h.os, h.tape, h.output, h.size, fun i hi => h.block i (by omega) (fun hm => by have := hF i hm; omega)⟩
theorem Tn.grown {F : List Nat} {a w w' : World} {row : Option Nat} (h : Tn F a w) (hg : w.grownBy w' row) (hr : ∀ k, row = some k → k ∈ F ∨ a.heap.size ≤ k) : Tn F a w' :=
  ⟨hg.os.trans h.os, hg.tape.trans h.tape, hg.output.trans h.output, Nat.le_trans h.size hg.size, fun i hi hn => (hg.block i (Nat.lt_of_lt_of_le hi h.size) (fun e => by
    rcases hr i e.symm with h1 | h1
    · exact hn h1
    · omega)).trans (h.block i hi hn)⟩
theorem Tn.alloc {F : List Nat} {a w : World} (h : Tn F a w) (o : Obj) : Tn F a (w.alloc o) := h.grown (World.grownBy_alloc w o none) (fun _ e => by cases e)
theorem Tn.setCell {F : List Nat} {a w : World} (h : Tn F a w) {p : Addr} (hp : p.block ∈ F ∨ a.heap.size ≤ p.block) (u : Value) : Tn F a (w.setCell p u) :=
  ⟨h.os, h.tape, h.output, Nat.le_trans h.size (by simp [World.setCell]), fun i hi hn => (Below.heap_setCell w p u i (fun e => by
    subst e
    rcases hp with h1 | h1
    · exact hn h1
    · omega)).trans (h.block i hi hn)⟩
theorem Tn.drew {F : List Nat} {a w : World} (h : Tn F a w) : Tn F a w.drew := ⟨h.os, h.tape, h.output, h.size, h.block⟩
theorem Tn.drewN {F : List Nat} {a w : World} (h : Tn F a w) (n : Nat) : Tn F a (w.drewN n) := ⟨h.os, h.tape, h.output, h.size, h.block⟩

/-- An assertion, with the list of the blocks that it lives in. -/
abbrev Ass := World → List Nat → Prop
/-- It hangs on its own blocks alone, and they are there. -/
def Ass.Good (A : Ass) : Prop := ∀ w F, A w F → (∀ k ∈ F, k < w.heap.size) ∧ ∀ w', (∀ k ∈ F, w'.heap[k]? = w.heap[k]?) → A w' F
def Ass.star (A C : Ass) : Ass := fun w F => ∃ F1 F2, F = F1 ++ F2 ∧ A w F1 ∧ C w F2 ∧ ∀ k ∈ F1, k ∉ F2
theorem Ass.Good.star {A C : Ass} (hA : A.Good) (hC : C.Good) : (A.star C).Good := by
  rintro w F ⟨F1, F2, rfl, h1, h2, hd⟩
  obtain ⟨a1, a2⟩ := hA w F1 h1
  obtain ⟨c1, c2⟩ := hC w F2 h2
  refine ⟨fun k hk => ?_, fun w' hw' => ⟨F1, F2, rfl, a2 w' (fun k hk => hw' k (by simp [hk])), c2 w' (fun k hk => hw' k (by simp [hk])), hd⟩⟩
  rcases List.mem_append.1 hk with h | h
  · exact a1 k h
  · exact c1 k h

/-- From w, where the blocks F were an assertion's, to w', where it has become A. -/
def Becomes (F : List Nat) (A : Ass) (w w' : World) : Prop := ∃ F', A w' F' ∧ Tn F w w' ∧ ∀ k ∈ F', k ∈ F ∨ w.heap.size ≤ k

/-- Of the memory that is new since w0 (all that lies from B on) A holds. -/
def At (w0 : World) (A : Ass) (w : World) : Prop := ∃ F, A w F ∧ (∀ k ∈ F, w0.heap.size ≤ k) ∧ Below w0.heap.size w0 w

theorem Ass.Good.kept {A : Ass} (hA : A.Good) {w w' : World} {F G : List Nat} (h : A w F) (ht : Tn G w w') (hd : ∀ k ∈ F, k ∉ G) : A w' F :=
  (hA w F h).2 w' (fun k hk => ht.block k ((hA w F h).1 k hk) (hd k hk))
theorem Ass.Good.below {A : Ass} (hA : A.Good) {w w' : World} {F : List Nat} (h : A w F) (ht : Below w.heap.size w w') : A w' F :=
  (hA w F h).2 w' (fun k hk => ht.block k ((hA w F h).1 k hk))

theorem At.lay {w0 : World} {A : Ass} {w w' : World} (hA : A.Good) (h : At w0 A w) (hb : Below w.heap.size w w') : At w0 A w' := by
  obtain ⟨F, h1, h2, h3⟩ := h
  exact ⟨F, hA.below h1 hb, h2, h3.trans (hb.mono h3.size)⟩
theorem At.turn {w0 : World} {A A' : Ass} {w w' : World} (h : At w0 A w) (hb : ∀ F, A w F → Becomes F A' w w') : At w0 A' w' := by
  obtain ⟨F, h1, h2, h3⟩ := h
  obtain ⟨F', g1, g2, g3⟩ := hb F h1
  refine ⟨F', g1, fun k hk => ?_, h3.trans (g2.below h2 h3.size)⟩
  rcases g3 k hk with e | e
  · exact h2 k e
  · exact Nat.le_trans h3.size e

/-- The frame: beside what a step turns another assertion stays. -/
theorem Becomes.left {A A' C : Ass} {w w' : World} {F : List Nat} (hC : C.Good) (h : (A.star C) w F) (hb : ∀ F1, A w F1 → Becomes F1 A' w w') : Becomes F (A'.star C) w w' := by
  obtain ⟨F1, F2, rfl, h1, h2, hd⟩ := h
  obtain ⟨F', g1, g2, g3⟩ := hb F1 h1
  refine ⟨F' ++ F2, ⟨F', F2, rfl, g1, hC.kept h2 g2 (fun k hk hk' => hd k hk' hk), fun k hk hk' => ?_⟩, g2.mono (fun x hx => by simp [hx]), fun k hk => ?_⟩
  · rcases g3 k hk with e | e
    · exact hd k e hk'
    · have := (hC w F2 h2).1 k hk'; omega
  · rcases List.mem_append.1 hk with e | e
    · rcases g3 k e with e | e
      · exact .inl (by simp [e])
      · exact .inr e
    · exact .inl (by simp [e])
theorem Becomes.right {A A' C : Ass} {w w' : World} {F : List Nat} (hC : C.Good) (h : (C.star A) w F) (hb : ∀ F1, A w F1 → Becomes F1 A' w w') : Becomes F (C.star A') w w' := by
  obtain ⟨F2, F1, rfl, h2, h1, hd⟩ := h
  obtain ⟨F', g1, g2, g3⟩ := hb F1 h1
  refine ⟨F2 ++ F', ⟨F2, F', rfl, hC.kept h2 g2 hd, g1, fun k hk hk' => ?_⟩, g2.mono (fun x hx => by simp [hx]), fun k hk => ?_⟩
  · rcases g3 k hk' with e | e
    · exact hd k hk e
    · have := (hC w F2 h2).1 k hk; omega
  · rcases List.mem_append.1 hk with e | e
    · exact .inl (by simp [e])
    · rcases g3 k e with e | e
      · exact .inl (by simp [e])
      · exact .inr e
/-- What a step makes beside what there is. -/
theorem Becomes.beside {A C : Ass} {w w' : World} {F : List Nat} (hA : A.Good) (h : A w F) (hb : Becomes [] C w w') : Becomes F (A.star C) w w' := by
  obtain ⟨F', g1, g2, g3⟩ := hb
  refine ⟨F ++ F', ⟨F, F', rfl, hA.kept h g2 (fun k _ hk => by cases hk), g1, fun k hk hk' => ?_⟩, g2.mono (fun x hx => by cases hx), fun k hk => ?_⟩
  · rcases g3 k hk' with e | e
    · cases e
    · have := (hA w F h).1 k hk; omega
  · rcases List.mem_append.1 hk with e | e
    · exact .inl e
    · rcases g3 k e with e | e
      · cases e
      · exact .inr e
theorem Becomes.nil {A : Ass} {w w' : World} (h : Becomes [] A w w') : Below w.heap.size w w' := by
  obtain ⟨F', _, g2, _⟩ := h
  exact g2.below (fun k hk => by cases hk) (Nat.le_refl _)
theorem At.start {A : Ass} {w w' : World} (h : Becomes [] A w w') : At w A w' := by
  have hb := h.nil
  obtain ⟨F', g1, g2, g3⟩ := h
  refine ⟨F', g1, fun k hk => ?_, hb⟩
  rcases g3 k hk with e | e
  · cases e
  · exact e
theorem At.under {A : Ass} {w0 w1 w : World} (hb : Below w0.heap.size w0 w1) (h : At w1 A w) : At w0 A w := by
  obtain ⟨F, h1, h2, h3⟩ := h
  exact ⟨F, h1, fun k hk => Nat.le_trans hb.size (h2 k hk), hb.trans (h3.mono hb.size)⟩
theorem At.bel {A : Ass} {w0 w : World} (h : At w0 A w) : Below w0.heap.size w0 w := by obtain ⟨_, _, _, h3⟩ := h; exact h3
/-- An assertion of no memory at all. -/
def emp : Ass := fun _ F => F = []
theorem emp_good : Ass.Good emp := by rintro w F rfl; exact ⟨fun k hk => (by cases hk), fun _ _ => rfl⟩

theorem Becomes.frameL {A' C : Ass} {w w' : World} {F1 F2 : List Nat} (hC : C.Good) (h2 : C w F2) (hd : ∀ k ∈ F1, k ∉ F2) (hb : Becomes F1 A' w w') : Becomes (F1 ++ F2) (A'.star C) w w' := by
  obtain ⟨F', g1, g2, g3⟩ := hb
  refine ⟨F' ++ F2, ⟨F', F2, rfl, g1, hC.kept h2 g2 (fun k hk hk' => hd k hk' hk), fun k hk hk' => ?_⟩, g2.mono (fun x hx => by simp [hx]), fun k hk => ?_⟩
  · rcases g3 k hk with e | e
    · exact hd k e hk'
    · have := (hC w F2 h2).1 k hk'; omega
  · rcases List.mem_append.1 hk with e | e
    · rcases g3 k e with e | e
      · exact .inl (by simp [e])
      · exact .inr e
    · exact .inl (by simp [e])
theorem Becomes.frameR {A' C : Ass} {w w' : World} {F1 F2 : List Nat} (hC : C.Good) (h2 : C w F2) (hd : ∀ k ∈ F2, k ∉ F1) (hb : Becomes F1 A' w w') : Becomes (F2 ++ F1) (C.star A') w w' := by
  obtain ⟨F', g1, g2, g3⟩ := hb
  refine ⟨F2 ++ F', ⟨F2, F', rfl, hC.kept h2 g2 hd, g1, fun k hk hk' => ?_⟩, g2.mono (fun x hx => by simp [hx]), fun k hk => ?_⟩
  · rcases g3 k hk' with e | e
    · exact hd k hk e
    · have := (hC w F2 h2).1 k hk; omega
  · rcases List.mem_append.1 hk with e | e
    · exact .inl (by simp [e])
    · rcases g3 k e with e | e
      · exact .inl (by simp [e])
      · exact .inr e
theorem Becomes.same {A : Ass} (hA : A.Good) {w w' : World} {F : List Nat} (h : A w F) (hb : Below w.heap.size w w') : Becomes F A w w' :=
  ⟨F, hA.below h hb, Tn.ofBelow hb F, fun _ hk => .inl hk⟩

/-- A call's contract: called where A holds it answers v, and A has become A'. -/
def Does (P : Program) (A : Ass) (f : FuncId) (args : Array Value) (v : Ending) (A' : Ass) : Prop := ∀ w F, A w F → Calls P f args w fun e w' => e = v ∧ Becomes F A' w w'
theorem At.op0 {P : Program} {A A' C : Ass} {f : FuncId} {args : Array Value} {v : Ending} (hd : Does P A f args v A') (hC : C.Good) {w0 w : World} (h : At w0 (A.star C) w) : Calls P f args w fun e w' => e = v ∧ At w0 (A'.star C) w' := by
  obtain ⟨F, ⟨F1, F2, rfl, h1, h2, h3⟩, hB, hb⟩ := h
  refine (hd w F1 h1).mono ?_
  rintro e w' ⟨he, hk⟩
  obtain ⟨F', g1, g2, g3⟩ := hk.frameL hC h2 h3
  refine ⟨he, F', g1, fun k hk => ?_, hb.trans (g2.below hB hb.size)⟩
  rcases g3 k hk with e | e
  · exact hB k e
  · exact Nat.le_trans hb.size e
theorem At.op1 {P : Program} {A A' B C : Ass} {f : FuncId} {args : Array Value} {v : Ending} (hd : Does P A f args v A') (hN : B.Good) (hC : C.Good) {w0 w : World} (h : At w0 (B.star (A.star C)) w) : Calls P f args w fun e w' => e = v ∧ At w0 (B.star (A'.star C)) w' := by
  obtain ⟨F, ⟨G, _, rfl, hG, ⟨F1, F2, rfl, h1, h2, h3⟩, h4⟩, hB, hb⟩ := h
  refine (hd w F1 h1).mono ?_
  rintro e w' ⟨he, hk⟩
  obtain ⟨F', g1, g2, g3⟩ := (hk.frameL hC h2 h3).frameR hN hG h4
  refine ⟨he, F', g1, fun k hk => ?_, hb.trans (g2.below hB hb.size)⟩
  rcases g3 k hk with e | e
  · exact hB k e
  · exact Nat.le_trans hb.size e
/-- What a call makes. -/
theorem At.add {A C : Ass} {w0 w w' : World} (hC : C.Good) (h : At w0 C w) (hb : Becomes [] A w w') : At w0 (A.star C) w' := by
  obtain ⟨F2, h2, hB, hbl⟩ := h
  obtain ⟨F', g1, g2, g3⟩ := hb.frameL hC h2 (fun k hk => by cases hk)
  refine ⟨F', g1, fun k hk => ?_, hbl.trans (g2.below (fun k hk => hB k (by simpa using hk)) hbl.size)⟩
  rcases g3 k hk with e | e
  · exact hB k (by simpa using e)
  · exact Nat.le_trans hbl.size e
theorem At.none {w0 w : World} (h : Below w0.heap.size w0 w) : At w0 emp w := ⟨[], rfl, fun k hk => (by cases hk), h⟩
theorem At.mono {A A' : Ass} {w0 w : World} (h : At w0 A w) (hm : ∀ F, A w F → A' w F) : At w0 A' w := by
  obtain ⟨F, h1, h2, h3⟩ := h
  exact ⟨F, hm F h1, h2, h3⟩
end Go.Proofs.YtcakipojmkehgaaDoor

namespace Go.Proofs.YtcakipojmkehgaaDoor
open Go Go.RowKit

/-- One assertion for another, of the same blocks. -/
def Ass.imp (X Y : Ass) : Prop := ∀ w F, X w F → ∃ F', Y w F' ∧ ∀ k, k ∈ F' ↔ k ∈ F
theorem Ass.imp.refl (X : Ass) : X.imp X := fun _ F h => ⟨F, h, fun _ => Iff.rfl⟩
theorem Ass.imp.trans {X Y Z : Ass} (h : X.imp Y) (g : Y.imp Z) : X.imp Z := fun w F hx => by
  obtain ⟨F1, h1, e1⟩ := h w F hx
  obtain ⟨F2, h2, e2⟩ := g w F1 h1
  exact ⟨F2, h2, fun k => (e2 k).trans (e1 k)⟩
theorem Ass.imp.under {X Y : Ass} (h : X.imp Y) (A : Ass) : (A.star X).imp (A.star Y) := by
  rintro w F ⟨F1, F2, rfl, a, x, d⟩
  obtain ⟨G, y, e⟩ := h w F2 x
  exact ⟨F1 ++ G, ⟨F1, G, rfl, a, y, fun k hk hk' => d k hk ((e k).1 hk')⟩, fun k => by simp [e k]⟩
theorem Ass.imp.swap (A B C : Ass) : (A.star (B.star C)).imp (B.star (A.star C)) := by
  rintro w F ⟨F1, _, rfl, a, ⟨F2, F3, rfl, b, c, d2⟩, d1⟩
  refine ⟨F2 ++ (F1 ++ F3), ⟨F2, _, rfl, b, ⟨F1, F3, rfl, a, c, fun k hk hk' => d1 k hk (by simp [hk'])⟩, fun k hk hk' => ?_⟩, fun k => by simp; constructor <;> rintro (h | h | h) <;> simp [h]⟩
  rcases List.mem_append.1 hk' with h | h
  · exact d1 k h (by simp [hk])
  · exact d2 k hk h
/-- The second, third, fourth in front; and back again. -/
theorem Ass.imp.up1 (A B C : Ass) : (A.star (B.star C)).imp (B.star (A.star C)) := Ass.imp.swap A B C
theorem Ass.imp.up2 (A B C D : Ass) : (A.star (B.star (C.star D))).imp (C.star (A.star (B.star D))) := ((Ass.imp.swap B C D).under A).trans (Ass.imp.swap A C _)
theorem Ass.imp.up3 (A B C D E : Ass) : (A.star (B.star (C.star (D.star E)))).imp (D.star (A.star (B.star (C.star E)))) := ((Ass.imp.up2 B C D E).under A).trans (Ass.imp.swap A D _)
theorem Ass.imp.dn2 (A B C D : Ass) : (C.star (A.star (B.star D))).imp (A.star (B.star (C.star D))) := (Ass.imp.swap C A _).trans ((Ass.imp.swap C B D).under A)
theorem Ass.imp.dn3 (A B C D E : Ass) : (D.star (A.star (B.star (C.star E)))).imp (A.star (B.star (C.star (D.star E)))) := (Ass.imp.swap D A _).trans ((Ass.imp.dn2 B C D E).under A)
theorem At.imp {X Y : Ass} {w0 w : World} (h : At w0 X w) (hi : X.imp Y) : At w0 Y w := by
  obtain ⟨F, h1, h2, h3⟩ := h
  obtain ⟨F', g1, e⟩ := hi w F h1
  exact ⟨F', g1, fun k hk => h2 k ((e k).1 hk), h3⟩
theorem At.opN {P : Program} {A A' X X' R : Ass} {f : FuncId} {args : Array Value} {v : Ending} (hd : Does P A f args v A') (hi : X.imp (A.star R)) (hj : (A'.star R).imp X') (hR : R.Good) {w0 w : World} (h : At w0 X w) : Calls P f args w fun e w' => e = v ∧ At w0 X' w' :=
  (At.op0 hd hR (h.imp hi)).mono fun _ _ ⟨e, h'⟩ => ⟨e, h'.imp hj⟩

/-- Within a call: what has become of an assertion so far. -/
theorem Becomes.refl {F : List Nat} {A : Ass} {w : World} (h : A w F) : Becomes F A w w := ⟨F, h, Tn.refl _ _, fun _ hk => .inl hk⟩
theorem Becomes.lay {F : List Nat} {A : Ass} {w w1 w2 : World} (hA : A.Good) (h : Becomes F A w w1) (hb : Below w1.heap.size w1 w2) : Becomes F A w w2 := by
  obtain ⟨F', g1, g2, g3⟩ := h
  exact ⟨F', hA.below g1 hb, g2.trans (Tn.ofBelow hb []) (fun x hx => by cases hx), g3⟩
theorem Becomes.op {P : Program} {A A' : Ass} {f : FuncId} {args : Array Value} {v : Ending} (hd : Does P A f args v A') {F : List Nat} {w w1 : World} (h : Becomes F A w w1) : Calls P f args w1 fun e w' => e = v ∧ Becomes F A' w w' := by
  obtain ⟨F', g1, g2, g3⟩ := h
  refine (hd w1 F' g1).mono ?_
  rintro e w' ⟨he, F2, k1, k2, k3⟩
  refine ⟨he, F2, k1, g2.trans k2 g3, fun k hk => ?_⟩
  rcases k3 k hk with c | c
  · exact g3 k c
  · exact .inr (Nat.le_trans g2.size c)
theorem At.lay1 {w0 : World} {A : Ass} {w : World} (hA : A.Good) (h : At w0 A w) (o : Obj) : At w0 A (w.alloc o) := h.lay hA ((Below.refl _ _).alloc (Nat.le_refl _) o)
theorem Does.to {P : Program} {A A' A2 : Ass} {f : FuncId} {args : Array Value} {v v2 : Ending} (h : Does P A f args v A') (hv : v = v2) (hA : A' = A2) : Does P A f args v2 A2 := by subst hv; subst hA; exact h
end Go.Proofs.YtcakipojmkehgaaDoor

namespace Go.Proofs.YtcakipojmkehgaaDoor
open Go Go.RowKit

/-- A block of the call's own, known whole. -/
def ownA (b : Nat) (c : Array Value) (T : TypeId) : Ass := fun w F => w.heap[b]? = some (.cells c T (0, 0)) ∧ F = [b]
theorem ownA_good (b : Nat) (c : Array Value) (T : TypeId) : (ownA b c T).Good := by
  rintro w F ⟨h, rfl⟩
  exact ⟨fun k hk => by simp at hk; subst hk; exact (Array.getElem?_eq_some_iff.1 h).1, fun w' hw' => ⟨(hw' b (by simp)).trans h, rfl⟩⟩
theorem At.own {b : Nat} {c : Array Value} {T : TypeId} {C : Ass} {w0 w : World} (h : At w0 ((ownA b c T).star C) w) : (∀ i, w.cell? ⟨b, i, Option.none⟩ = c[i]?) ∧ (∀ i, w.frozen? ⟨b, i, Option.none⟩ = false) ∧ b < w.heap.size := by
  obtain ⟨_, ⟨_, _, _, ⟨h, _⟩, _⟩, _⟩ := h
  exact ⟨fun i => cell_of_row w b i c T (0, 0) h, fun i => frozen_of_row w b i c T h, (Array.getElem?_eq_some_iff.1 h).1⟩
theorem At.hold {C : Ass} {w0 w : World} (hC : C.Good) (h : At w0 C w) (c : Array Value) (T : TypeId) : At w0 ((ownA w.heap.size c T).star C) (w.alloc (.cells c T)) :=
  At.add hC h ⟨[w.heap.size], ⟨heap_alloc_new w _, rfl⟩, (Tn.refl _ _).alloc _, fun k hk => .inr (by simp at hk; omega)⟩
theorem At.drop {A C : Ass} {w0 w : World} (h : At w0 (A.star C) w) : At w0 C w := by
  obtain ⟨F, ⟨F1, F2, rfl, _, h2, _⟩, hB, hb⟩ := h
  exact ⟨F2, h2, fun k hk => hB k (by simp [hk]), hb⟩
theorem At.op2 {P : Program} {A A' B B2 C : Ass} {f : FuncId} {args : Array Value} {v : Ending} (hd : Does P A f args v A') (hN : B.Good) (hN2 : B2.Good) (hC : C.Good) {w0 w : World} (h : At w0 (B.star (B2.star (A.star C))) w) : Calls P f args w fun e w' => e = v ∧ At w0 (B.star (B2.star (A'.star C))) w' := by
  obtain ⟨F, ⟨G, _, rfl, hG, ⟨G2, _, rfl, hG2, ⟨F1, F2, rfl, h1, h2, h3⟩, h5⟩, h4⟩, hB, hb⟩ := h
  refine (hd w F1 h1).mono ?_
  rintro e w' ⟨he, hk⟩
  obtain ⟨F', g1, g2, g3⟩ := (((hk.frameL hC h2 h3).frameR hN2 hG2 h5).frameR hN hG h4)
  refine ⟨he, F', g1, fun k hk => ?_, hb.trans (g2.below hB hb.size)⟩
  rcases g3 k hk with e | e
  · exact hB k e
  · exact Nat.le_trans hb.size e
/-- One of its cells is set. -/
theorem At.poke {b : Nat} {c : Array Value} {T : TypeId} {C : Ass} {w0 w : World} (hC : C.Good) (h : At w0 ((ownA b c T).star C) w) (i : Nat) (v : Value) : At w0 ((ownA b (c.setIfInBounds i v) T).star C) (w.setCell ⟨b, i, Option.none⟩ v) := by
  refine h.turn fun F hF => Becomes.left hC hF ?_
  rintro F1 ⟨h1, rfl⟩
  exact ⟨[b], ⟨heap_setCell_same w b i c _ _ h1, rfl⟩, (Tn.refl _ _).setCell (.inl (by simp)) _, fun k hk => .inl hk⟩
/-- A row of texts in a block of the call's own. -/
def txs (ts : List ByteArray) : Array Value := (ts.map Value.string).toArray
theorem txs_at (ts : List ByteArray) (i : Nat) (h : i < ts.length) : (txs ts)[i]? = some (.string (ts.getD i ⟨#[]⟩)) := by simp [txs, List.getD, h]
theorem txs_set (ts : List ByteArray) (i : Nat) (s : ByteArray) : (txs ts).setIfInBounds i (.string s) = txs (ts.set i s) := by
  unfold txs
  rw [List.setIfInBounds_toArray, List.map_set]
theorem At.text {b : Nat} {ts : List ByteArray} {T : TypeId} {C : Ass} {w0 w : World} (h : At w0 ((ownA b (txs ts) T).star C) w) {i : Nat} (hi : i < ts.length) : w.cell? ⟨b, i, Option.none⟩ = some (.string (ts.getD i ⟨#[]⟩)) ∧ w.frozen? ⟨b, i, Option.none⟩ = false :=
  ⟨(h.own.1 i).trans (txs_at ts i hi), h.own.2.1 i⟩
theorem At.setText {b : Nat} {ts : List ByteArray} {T : TypeId} {C : Ass} {w0 w : World} (hC : C.Good) (h : At w0 ((ownA b (txs ts) T).star C) w) (i : Nat) (s : ByteArray) : At w0 ((ownA b (txs (ts.set i s)) T).star C) (w.setCell ⟨b, i, Option.none⟩ (.string s)) := by
  rw [← txs_set]; exact h.poke hC i _
end Go.Proofs.YtcakipojmkehgaaDoor

namespace Go.Proofs.YtcakipojmkehgaaDoor
open Go Go.RowKit

theorem Becomes.hold {F : List Nat} {A : Ass} {w w1 : World} (hA : A.Good) (h : Becomes F A w w1) (c : Array Value) (T : TypeId) : Becomes F ((ownA w1.heap.size c T).star A) w (w1.alloc (.cells c T)) := by
  obtain ⟨F', g1, g2, g3⟩ := h
  have hs := (hA w1 F' g1).1
  refine ⟨[w1.heap.size] ++ F', ⟨[w1.heap.size], F', rfl, ⟨heap_alloc_new w1 _, rfl⟩, hA.below g1 ((Below.refl _ _).alloc (Nat.le_refl _) _), fun k hk hk' => ?_⟩, g2.alloc _, fun k hk => ?_⟩
  · simp at hk; subst hk; have := hs _ hk'; omega
  · simp at hk
    rcases hk with rfl | hk
    · exact .inr g2.size
    · exact g3 k hk
theorem Becomes.own {F : List Nat} {b : Nat} {c : Array Value} {T : TypeId} {C : Ass} {w w1 : World} (h : Becomes F ((ownA b c T).star C) w w1) : (∀ i, w1.cell? ⟨b, i, Option.none⟩ = c[i]?) ∧ (∀ i, w1.frozen? ⟨b, i, Option.none⟩ = false) ∧ b < w1.heap.size := by
  obtain ⟨_, ⟨_, _, _, ⟨h, _⟩, _⟩, _⟩ := h
  exact ⟨fun i => cell_of_row w1 b i c T (0, 0) h, fun i => frozen_of_row w1 b i c T h, (Array.getElem?_eq_some_iff.1 h).1⟩
theorem Becomes.imp {F : List Nat} {X Y : Ass} {w w1 : World} (h : Becomes F X w w1) (hi : X.imp Y) : Becomes F Y w w1 := by
  obtain ⟨F', h1, h2, h3⟩ := h
  obtain ⟨F2, g1, e⟩ := hi w1 F' h1
  exact ⟨F2, g1, h2, fun k hk => h3 k ((e k).1 hk)⟩
theorem Becomes.drop {F : List Nat} {A C : Ass} {w w1 : World} (h : Becomes F (A.star C) w w1) : Becomes F C w w1 := by
  obtain ⟨_, ⟨F1, F2, rfl, _, h2, _⟩, h3, h4⟩ := h
  exact ⟨F2, h2, h3, fun k hk => h4 k (by simp [hk])⟩
theorem Becomes.turn {F : List Nat} {A A' : Ass} {w w1 w2 : World} (h : Becomes F A w w1) (hb : ∀ F', A w1 F' → Becomes F' A' w1 w2) : Becomes F A' w w2 := by
  obtain ⟨F', g1, g2, g3⟩ := h
  obtain ⟨F2, k1, k2, k3⟩ := hb F' g1
  refine ⟨F2, k1, g2.trans k2 g3, fun k hk => ?_⟩
  rcases k3 k hk with c | c
  · exact g3 k c
  · exact .inr (Nat.le_trans g2.size c)
theorem Becomes.poke {F : List Nat} {b : Nat} {c : Array Value} {T : TypeId} {C : Ass} {w w1 : World} (hC : C.Good) (h : Becomes F ((ownA b c T).star C) w w1) (i : Nat) (v : Value) : Becomes F ((ownA b (c.setIfInBounds i v) T).star C) w (w1.setCell ⟨b, i, Option.none⟩ v) := by
  refine h.turn fun F hF => Becomes.left hC hF ?_
  rintro F1 ⟨h1, rfl⟩
  exact ⟨[b], ⟨heap_setCell_same w1 b i c _ _ h1, rfl⟩, (Tn.refl _ _).setCell (.inl (by simp)) _, fun k hk => .inl hk⟩
theorem Becomes.opN {P : Program} {A A' X X' R : Ass} {f : FuncId} {args : Array Value} {v : Ending} (hd : Does P A f args v A') (hi : X.imp (A.star R)) (hj : (A'.star R).imp X') (hR : R.Good) {F : List Nat} {w w1 : World} (h : Becomes F X w w1) : Calls P f args w1 fun e w' => e = v ∧ Becomes F X' w w' := by
  obtain ⟨_, ⟨F1, F2, rfl, h1, h2, h3⟩, g2, g3⟩ := h.imp hi
  refine (hd w1 F1 h1).mono ?_
  rintro e w' ⟨he, hk⟩
  refine ⟨he, Becomes.imp ?_ hj⟩
  obtain ⟨F', k1, k2, k3⟩ := hk.frameL hR h2 h3
  refine ⟨F', k1, g2.trans k2 g3, fun k hk => ?_⟩
  rcases k3 k hk with c | c
  · exact g3 k c
  · exact .inr (Nat.le_trans g2.size c)
end Go.Proofs.YtcakipojmkehgaaDoor

