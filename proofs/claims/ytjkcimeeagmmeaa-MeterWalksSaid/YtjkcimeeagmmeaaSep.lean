/- Plain words on memory: an assertion holds of a world and of the list of blocks that it lives in; a step turns those blocks alone. No program is named. -/
import Derived.WalkKit
import Derived.Laws.AppendOwn
import Derived.Maps.OwnSet
import Derived.Deep.Quiet
namespace Go.Proofs.Ytjkcimeeagmmeaa
open Go Go.RowKit

/-- w' is w but for the blocks of F, and new ones. -/
structure Tn (F : List Nat) (w w' : World) : Prop where
  os : w'.os = w.os
  tape : w'.tape = w.tape
  output : w'.output = w.output
  size : w.heap.size ≤ w'.heap.size
  block : ∀ k, k < w.heap.size → k ∉ F → w'.heap[k]? = w.heap[k]?
theorem Tn.refl (F : List Nat) (w : World) : Tn F w w := ⟨rfl, rfl, rfl, Nat.le_refl _, fun _ _ _ => rfl⟩
theorem Tn.trans {F G : List Nat} {a b c : World} (h : Tn F a b) (k : Tn G b c) (hG : ∀ x ∈ G, x ∈ F ∨ a.heap.size ≤ x) : Tn F a c :=
  ⟨k.os.trans h.os, k.tape.trans h.tape, k.output.trans h.output, Nat.le_trans h.size k.size, fun i hi hn => (k.block i (Nat.lt_of_lt_of_le hi h.size) (fun hm => by
    rcases hG i hm with h1 | h1
    · exact hn h1
    · omega)).trans (h.block i hi hn)⟩
theorem Tn.mono {F G : List Nat} {a b : World} (h : Tn F a b) (hG : ∀ x ∈ F, x ∈ G) : Tn G a b := ⟨h.os, h.tape, h.output, h.size, fun i hi hn => h.block i hi (fun hm => hn (hG i hm))⟩
theorem Tn.ofBelow {w w' : World} (h : Below w.heap.size w w') (F : List Nat) : Tn F w w' := ⟨h.os, h.tape, h.output, h.size, fun i hi _ => h.block i hi⟩
theorem Tn.below {F : List Nat} {B : Nat} {w w' : World} (h : Tn F w w') (hF : ∀ k ∈ F, B ≤ k) (hB : B ≤ w.heap.size) : Below B w w' :=
  ⟨h.os, h.tape, h.output, h.size, fun i hi => h.block i (by omega) (fun hm => by have := hF i hm; omega)⟩
theorem Tn.grown {F : List Nat} {a w w' : World} {row : Option Nat} (h : Tn F a w) (hg : w.grownBy w' row) (hr : ∀ k, row = some k → k ∈ F ∨ a.heap.size ≤ k) : Tn F a w' :=
  ⟨hg.os.trans h.os, hg.tape.trans h.tape, hg.output.trans h.output, Nat.le_trans h.size hg.size, fun i hi hn => (hg.block i (Nat.lt_of_lt_of_le hi h.size) (fun e => by
    rcases hr i e.symm with h1 | h1
    · exact hn h1
    · omega)).trans (h.block i hi hn)⟩
theorem Tn.alloc {F : List Nat} {a w : World} (h : Tn F a w) (o : Obj) : Tn F a (w.alloc o) := h.grown (World.grownBy_alloc w o none) (fun _ e => by cases e)
theorem Tn.setCell {F : List Nat} {a w : World} (h : Tn F a w) {p : Addr} (hp : p.block ∈ F ∨ a.heap.size ≤ p.block) (u : Value) : Tn F a (w.setCell p u) :=
  ⟨h.os, h.tape, h.output, Nat.le_trans h.size (by simp [World.setCell]), fun i hi hn => (Below.heap_setCell w p u i (fun e => by
    subst e
    rcases hp with h1 | h1
    · exact hn h1
    · omega)).trans (h.block i hi hn)⟩
theorem Tn.drew {F : List Nat} {a w : World} (h : Tn F a w) : Tn F a w.drew := ⟨h.os, h.tape, h.output, h.size, h.block⟩
theorem Tn.drewN {F : List Nat} {a w : World} (h : Tn F a w) (n : Nat) : Tn F a (w.drewN n) := ⟨h.os, h.tape, h.output, h.size, h.block⟩

/-- An assertion, with the list of the blocks that it lives in. -/
abbrev Ass := World → List Nat → Prop
/-- It hangs on its own blocks alone, and they are there. -/
def Ass.Good (A : Ass) : Prop := ∀ w F, A w F → (∀ k ∈ F, k < w.heap.size) ∧ ∀ w', (∀ k ∈ F, w'.heap[k]? = w.heap[k]?) → A w' F
def Ass.star (A C : Ass) : Ass := fun w F => ∃ F1 F2, F = F1 ++ F2 ∧ A w F1 ∧ C w F2 ∧ ∀ k ∈ F1, k ∉ F2
theorem Ass.Good.star {A C : Ass} (hA : A.Good) (hC : C.Good) : (A.star C).Good := by
  rintro w F ⟨F1, F2, rfl, h1, h2, hd⟩
  obtain ⟨a1, a2⟩ := hA w F1 h1
  obtain ⟨c1, c2⟩ := hC w F2 h2
  refine ⟨fun k hk => ?_, fun w' hw' => ⟨F1, F2, rfl, a2 w' (fun k hk => hw' k (by simp [hk])), c2 w' (fun k hk => hw' k (by simp [hk])), hd⟩⟩
  rcases List.mem_append.1 hk with h | h
  · exact a1 k h
  · exact c1 k h

/-- From w, where the blocks F were an assertion's, to w', where it has become A. -/
def Becomes (F : List Nat) (A : Ass) (w w' : World) : Prop := ∃ F', A w' F' ∧ Tn F w w' ∧ ∀ k ∈ F', k ∈ F ∨ w.heap.size ≤ k

/-- Of the memory that is new since w0 (all that lies from B on) A holds. -/
def At (w0 : World) (A : Ass) (w : World) : Prop := ∃ F, A w F ∧ (∀ k ∈ F, w0.heap.size ≤ k) ∧ Below w0.heap.size w0 w

theorem Ass.Good.kept {A : Ass} (hA : A.Good) {w w' : World} {F G : List Nat} (h : A w F) (ht : Tn G w w') (hd : ∀ k ∈ F, k ∉ G) : A w' F :=
  (hA w F h).2 w' (fun k hk => ht.block k ((hA w F h).1 k hk) (hd k hk))
theorem Ass.Good.below {A : Ass} (hA : A.Good) {w w' : World} {F : List Nat} (h : A w F) (ht : Below w.heap.size w w') : A w' F :=
  (hA w F h).2 w' (fun k hk => ht.block k ((hA w F h).1 k hk))

theorem At.lay {w0 : World} {A : Ass} {w w' : World} (hA : A.Good) (h : At w0 A w) (hb : Below w.heap.size w w') : At w0 A w' := by
  obtain ⟨F, h1, h2, h3⟩ := h
  exact ⟨F, hA.below h1 hb, h2, h3.trans (hb.mono h3.size)⟩
theorem At.turn {w0 : World} {A A' : Ass} {w w' : World} (h : At w0 A w) (hb : ∀ F, A w F → Becomes F A' w w') : At w0 A' w' := by
  obtain ⟨F, h1, h2, h3⟩ := h
  obtain ⟨F', g1, g2, g3⟩ := hb F h1
  refine ⟨F', g1, fun k hk => ?_, h3.trans (g2.below h2 h3.size)⟩
  rcases g3 k hk with e | e
  · exact h2 k e
  · exact Nat.le_trans h3.size e

/-- The frame: beside what a step turns another assertion stays. -/
theorem Becomes.left {A A' C : Ass} {w w' : World} {F : List Nat} (hC : C.Good) (h : (A.star C) w F) (hb : ∀ F1, A w F1 → Becomes F1 A' w w') : Becomes F (A'.star C) w w' := by
  obtain ⟨F1, F2, rfl, h1, h2, hd⟩ := h
  obtain ⟨F', g1, g2, g3⟩ := hb F1 h1
  refine ⟨F' ++ F2, ⟨F', F2, rfl, g1, hC.kept h2 g2 (fun k hk hk' => hd k hk' hk), fun k hk hk' => ?_⟩, g2.mono (fun x hx => by simp [hx]), fun k hk => ?_⟩
  · rcases g3 k hk with e | e
    · exact hd k e hk'
    · have := (hC w F2 h2).1 k hk'; omega
  · rcases List.mem_append.1 hk with e | e
    · rcases g3 k e with e | e
      · exact .inl (by simp [e])
      · exact .inr e
    · exact .inl (by simp [e])
theorem Becomes.right {A A' C : Ass} {w w' : World} {F : List Nat} (hC : C.Good) (h : (C.star A) w F) (hb : ∀ F1, A w F1 → Becomes F1 A' w w') : Becomes F (C.star A') w w' := by
  obtain ⟨F2, F1, rfl, h2, h1, hd⟩ := h
  obtain ⟨F', g1, g2, g3⟩ := hb F1 h1
  refine ⟨F2 ++ F', ⟨F2, F', rfl, hC.kept h2 g2 hd, g1, fun k hk hk' => ?_⟩, g2.mono (fun x hx => by simp [hx]), fun k hk => ?_⟩
  · rcases g3 k hk' with e | e
    · exact hd k hk e
    · have := (hC w F2 h2).1 k hk; omega
  · rcases List.mem_append.1 hk with e | e
    · exact .inl (by simp [e])
    · rcases g3 k e with e | e
      · exact .inl (by simp [e])
      · exact .inr e
/-- What a step makes beside what there is. -/
theorem Becomes.beside {A C : Ass} {w w' : World} {F : List Nat} (hA : A.Good) (h : A w F) (hb : Becomes [] C w w') : Becomes F (A.star C) w w' := by
  obtain ⟨F', g1, g2, g3⟩ := hb
  refine ⟨F ++ F', ⟨F, F', rfl, hA.kept h g2 (fun k _ hk => by cases hk), g1, fun k hk hk' => ?_⟩, g2.mono (fun x hx => by cases hx), fun k hk => ?_⟩
  · rcases g3 k hk' with e | e
    · cases e
    · have := (hA w F h).1 k hk; omega
  · rcases List.mem_append.1 hk with e | e
    · exact .inl e
    · rcases g3 k e with e | e
      · cases e
      · exact .inr e
theorem Becomes.nil {A : Ass} {w w' : World} (h : Becomes [] A w w') : Below w.heap.size w w' := by
  obtain ⟨F', _, g2, _⟩ := h
  exact g2.below (fun k hk => by cases hk) (Nat.le_refl _)
theorem At.start {A : Ass} {w w' : World} (h : Becomes [] A w w') : At w A w' := by
  have hb := h.nil
  obtain ⟨F', g1, g2, g3⟩ := h
  refine ⟨F', g1, fun k hk => ?_, hb⟩
  rcases g3 k hk with e | e
  · cases e
  · exact e
theorem At.under {A : Ass} {w0 w1 w : World} (hb : Below w0.heap.size w0 w1) (h : At w1 A w) : At w0 A w := by
  obtain ⟨F, h1, h2, h3⟩ := h
  exact ⟨F, h1, fun k hk => Nat.le_trans hb.size (h2 k hk), hb.trans (h3.mono hb.size)⟩
theorem At.bel {A : Ass} {w0 w : World} (h : At w0 A w) : Below w0.heap.size w0 w := by obtain ⟨_, _, _, h3⟩ := h; exact h3
/-- An assertion of no memory at all. -/
def emp : Ass := fun _ F => F = []
theorem emp_good : Ass.Good emp := by rintro w F rfl; exact ⟨fun k hk => (by cases hk), fun _ _ => rfl⟩

theorem Becomes.frameL {A' C : Ass} {w w' : World} {F1 F2 : List Nat} (hC : C.Good) (h2 : C w F2) (hd : ∀ k ∈ F1, k ∉ F2) (hb : Becomes F1 A' w w') : Becomes (F1 ++ F2) (A'.star C) w w' := by
  obtain ⟨F', g1, g2, g3⟩ := hb
  refine ⟨F' ++ F2, ⟨F', F2, rfl, g1, hC.kept h2 g2 (fun k hk hk' => hd k hk' hk), fun k hk hk' => ?_⟩, g2.mono (fun x hx => by simp [hx]), fun k hk => ?_⟩
  · rcases g3 k hk with e | e
    · exact hd k e hk'
    · have := (hC w F2 h2).1 k hk'; omega
  · rcases List.mem_append.1 hk with e | e
    · rcases g3 k e with e | e
      · exact .inl (by simp [e])
      · exact .inr e
    · exact .inl (by simp [e])
theorem Becomes.frameR {A' C : Ass} {w w' : World} {F1 F2 : List Nat} (hC : C.Good) (h2 : C w F2) (hd : ∀ k ∈ F2, k ∉ F1) (hb : Becomes F1 A' w w') : Becomes (F2 ++ F1) (C.star A') w w' := by
  obtain ⟨F', g1, g2, g3⟩ := hb
  refine ⟨F2 ++ F', ⟨F2, F', rfl, hC.kept h2 g2 hd, g1, fun k hk hk' => ?_⟩, g2.mono (fun x hx => by simp [hx]), fun k hk => ?_⟩
  · rcases g3 k hk' with e | e
    · exact hd k hk e
    · have := (hC w F2 h2).1 k hk; omega
  · rcases List.mem_append.1 hk with e | e
    · exact .inl (by simp [e])
    · rcases g3 k e with e | e
      · exact .inl (by simp [e])
      · exact .inr e
theorem Becomes.same {A : Ass} (hA : A.Good) {w w' : World} {F : List Nat} (h : A w F) (hb : Below w.heap.size w w') : Becomes F A w w' :=
  ⟨F, hA.below h hb, Tn.ofBelow hb F, fun _ hk => .inl hk⟩

/-- A call's contract: called where A holds it answers v, and A has become A'. -/
def Does (P : Program) (A : Ass) (f : FuncId) (args : Array Value) (v : Ending) (A' : Ass) : Prop := ∀ w F, A w F → Calls P f args w fun e w' => e = v ∧ Becomes F A' w w'
theorem At.op0 {P : Program} {A A' C : Ass} {f : FuncId} {args : Array Value} {v : Ending} (hd : Does P A f args v A') (hC : C.Good) {w0 w : World} (h : At w0 (A.star C) w) : Calls P f args w fun e w' => e = v ∧ At w0 (A'.star C) w' := by
  obtain ⟨F, ⟨F1, F2, rfl, h1, h2, h3⟩, hB, hb⟩ := h
  refine (hd w F1 h1).mono ?_
  rintro e w' ⟨he, hk⟩
  obtain ⟨F', g1, g2, g3⟩ := hk.frameL hC h2 h3
  refine ⟨he, F', g1, fun k hk => ?_, hb.trans (g2.below hB hb.size)⟩
  rcases g3 k hk with e | e
  · exact hB k e
  · exact Nat.le_trans hb.size e
theorem At.op1 {P : Program} {A A' B C : Ass} {f : FuncId} {args : Array Value} {v : Ending} (hd : Does P A f args v A') (hN : B.Good) (hC : C.Good) {w0 w : World} (h : At w0 (B.star (A.star C)) w) : Calls P f args w fun e w' => e = v ∧ At w0 (B.star (A'.star C)) w' := by
  obtain ⟨F, ⟨G, _, rfl, hG, ⟨F1, F2, rfl, h1, h2, h3⟩, h4⟩, hB, hb⟩ := h
  refine (hd w F1 h1).mono ?_
  rintro e w' ⟨he, hk⟩
  obtain ⟨F', g1, g2, g3⟩ := (hk.frameL hC h2 h3).frameR hN hG h4
  refine ⟨he, F', g1, fun k hk => ?_, hb.trans (g2.below hB hb.size)⟩
  rcases g3 k hk with e | e
  · exact hB k e
  · exact Nat.le_trans hb.size e
/-- What a call makes. -/
theorem At.add {A C : Ass} {w0 w w' : World} (hC : C.Good) (h : At w0 C w) (hb : Becomes [] A w w') : At w0 (A.star C) w' := by
  obtain ⟨F2, h2, hB, hbl⟩ := h
  obtain ⟨F', g1, g2, g3⟩ := hb.frameL hC h2 (fun k hk => by cases hk)
  refine ⟨F', g1, fun k hk => ?_, hbl.trans (g2.below (fun k hk => hB k (by simpa using hk)) hbl.size)⟩
  rcases g3 k hk with e | e
  · exact hB k (by simpa using e)
  · exact Nat.le_trans hbl.size e
theorem At.none {w0 w : World} (h : Below w0.heap.size w0 w) : At w0 emp w := ⟨[], rfl, fun k hk => (by cases hk), h⟩
theorem At.mono {A A' : Ass} {w0 w : World} (h : At w0 A w) (hm : ∀ F, A w F → A' w F) : At w0 A' w := by
  obtain ⟨F, h1, h2, h3⟩ := h
  exact ⟨F, hm F h1, h2, h3⟩
end Go.Proofs.Ytjkcimeeagmmeaa
