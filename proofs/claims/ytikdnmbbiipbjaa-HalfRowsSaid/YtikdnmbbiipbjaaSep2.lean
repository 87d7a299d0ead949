/- Plain words on memory, further: assertions of the same blocks in another order. No program is named. -/
import Derived.Test.YtikdnmbbiipbjaaSep
namespace Go.Proofs.Ytikdnmbbiipbjaa
open Go Go.RowKit

/-- One assertion for another, of the same blocks. -/
def Ass.imp (X Y : Ass) : Prop := ∀ w F, X w F → ∃ F', Y w F' ∧ ∀ k, k ∈ F' ↔ k ∈ F
theorem Ass.imp.refl (X : Ass) : X.imp X := fun _ F h => ⟨F, h, fun _ => Iff.rfl⟩
theorem Ass.imp.trans {X Y Z : Ass} (h : X.imp Y) (g : Y.imp Z) : X.imp Z := fun w F hx => by
  obtain ⟨F1, h1, e1⟩ := h w F hx
  obtain ⟨F2, h2, e2⟩ := g w F1 h1
  exact ⟨F2, h2, fun k => (e2 k).trans (e1 k)⟩
theorem Ass.imp.under {X Y : Ass} (h : X.imp Y) (A : Ass) : (A.star X).imp (A.star Y) := by
  rintro w F ⟨F1, F2, rfl, a, x, d⟩
  obtain ⟨G, y, e⟩ := h w F2 x
  exact ⟨F1 ++ G, ⟨F1, G, rfl, a, y, fun k hk hk' => d k hk ((e k).1 hk')⟩, fun k => by simp [e k]⟩
theorem Ass.imp.swap (A B C : Ass) : (A.star (B.star C)).imp (B.star (A.star C)) := by
  rintro w F ⟨F1, _, rfl, a, ⟨F2, F3, rfl, b, c, d2⟩, d1⟩
  refine ⟨F2 ++ (F1 ++ F3), ⟨F2, _, rfl, b, ⟨F1, F3, rfl, a, c, fun k hk hk' => d1 k hk (by simp [hk'])⟩, fun k hk hk' => ?_⟩, fun k => by simp; constructor <;> rintro (h | h | h) <;> simp [h]⟩
  rcases List.mem_append.1 hk' with h | h
  · exact d1 k h (by simp [hk])
  · exact d2 k hk h
/-- The second, third, fourth in front; and back again. -/
theorem Ass.imp.up1 (A B C : Ass) : (A.star (B.star C)).imp (B.star (A.star C)) := Ass.imp.swap A B C
theorem Ass.imp.up2 (A B C D : Ass) : (A.star (B.star (C.star D))).imp (C.star (A.star (B.star D))) := ((Ass.imp.swap B C D).under A).trans (Ass.imp.swap A C _)
theorem Ass.imp.up3 (A B C D E : Ass) : (A.star (B.star (C.star (D.star E)))).imp (D.star (A.star (B.star (C.star E)))) := ((Ass.imp.up2 B C D E).under A).trans (Ass.imp.swap A D _)
theorem Ass.imp.dn2 (A B C D : Ass) : (C.star (A.star (B.star D))).imp (A.star (B.star (C.star D))) := (Ass.imp.swap C A _).trans ((Ass.imp.swap C B D).under A)
theorem Ass.imp.dn3 (A B C D E : Ass) : (D.star (A.star (B.star (C.star E)))).imp (A.star (B.star (C.star (D.star E)))) := (Ass.imp.swap D A _).trans ((Ass.imp.dn2 B C D E).under A)
theorem At.imp {X Y : Ass} {w0 w : World} (h : At w0 X w) (hi : X.imp Y) : At w0 Y w := by
  obtain ⟨F, h1, h2, h3⟩ := h
  obtain ⟨F', g1, e⟩ := hi w F h1
  exact ⟨F', g1, fun k hk => h2 k ((e k).1 hk), h3⟩
theorem At.opN {P : Program} {A A' X X' R : Ass} {f : FuncId} {args : Array Value} {v : Ending} (hd : Does P A f args v A') (hi : X.imp (A.star R)) (hj : (A'.star R).imp X') (hR : R.Good) {w0 w : World} (h : At w0 X w) : Calls P f args w fun e w' => e = v ∧ At w0 X' w' :=
  (At.op0 hd hR (h.imp hi)).mono fun _ _ ⟨e, h'⟩ => ⟨e, h'.imp hj⟩

/-- Within a call: what has become of an assertion so far. -/
theorem Becomes.refl {F : List Nat} {A : Ass} {w : World} (h : A w F) : Becomes F A w w := ⟨F, h, Tn.refl _ _, fun _ hk => .inl hk⟩
theorem Becomes.lay {F : List Nat} {A : Ass} {w w1 w2 : World} (hA : A.Good) (h : Becomes F A w w1) (hb : Below w1.heap.size w1 w2) : Becomes F A w w2 := by
  obtain ⟨F', g1, g2, g3⟩ := h
  exact ⟨F', hA.below g1 hb, g2.trans (Tn.ofBelow hb []) (fun x hx => by cases hx), g3⟩
theorem Becomes.op {P : Program} {A A' : Ass} {f : FuncId} {args : Array Value} {v : Ending} (hd : Does P A f args v A') {F : List Nat} {w w1 : World} (h : Becomes F A w w1) : Calls P f args w1 fun e w' => e = v ∧ Becomes F A' w w' := by
  obtain ⟨F', g1, g2, g3⟩ := h
  refine (hd w1 F' g1).mono ?_
  rintro e w' ⟨he, F2, k1, k2, k3⟩
  refine ⟨he, F2, k1, g2.trans k2 g3, fun k hk => ?_⟩
  rcases k3 k hk with c | c
  · exact g3 k c
  · exact .inr (Nat.le_trans g2.size c)
theorem At.lay1 {w0 : World} {A : Ass} {w : World} (hA : A.Good) (h : At w0 A w) (o : Obj) : At w0 A (w.alloc o) := h.lay hA ((Below.refl _ _).alloc (Nat.le_refl _) o)
theorem Does.to {P : Program} {A A' A2 : Ass} {f : FuncId} {args : Array Value} {v v2 : Ending} (h : Does P A f args v A') (hv : v = v2) (hA : A' = A2) : Does P A f args v2 A2 := by subst hv; subst hA; exact h
end Go.Proofs.Ytikdnmbbiipbjaa
