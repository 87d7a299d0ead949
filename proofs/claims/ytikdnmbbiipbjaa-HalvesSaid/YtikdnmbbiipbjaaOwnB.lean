/- Blocks of the call's own, within a call: what has become of an assertion beside them. No program is named. -/
import Derived.Test.YtikdnmbbiipbjaaSep2
import Derived.Test.YtikdnmbbiipbjaaOwnA
namespace Go.Proofs.Ytikdnmbbiipbjaa
open Go Go.RowKit

theorem Becomes.hold {F : List Nat} {A : Ass} {w w1 : World} (hA : A.Good) (h : Becomes F A w w1) (c : Array Value) (T : TypeId) : Becomes F ((ownA w1.heap.size c T).star A) w (w1.alloc (.cells c T)) := by
  obtain ⟨F', g1, g2, g3⟩ := h
  have hs := (hA w1 F' g1).1
  refine ⟨[w1.heap.size] ++ F', ⟨[w1.heap.size], F', rfl, ⟨heap_alloc_new w1 _, rfl⟩, hA.below g1 ((Below.refl _ _).alloc (Nat.le_refl _) _), fun k hk hk' => ?_⟩, g2.alloc _, fun k hk => ?_⟩
  · simp at hk; subst hk; have := hs _ hk'; omega
  · simp at hk
    rcases hk with rfl | hk
    · exact .inr g2.size
    · exact g3 k hk
theorem Becomes.own {F : List Nat} {b : Nat} {c : Array Value} {T : TypeId} {C : Ass} {w w1 : World} (h : Becomes F ((ownA b c T).star C) w w1) : (∀ i, w1.cell? ⟨b, i, Option.none⟩ = c[i]?) ∧ (∀ i, w1.frozen? ⟨b, i, Option.none⟩ = false) ∧ b < w1.heap.size := by
  obtain ⟨_, ⟨_, _, _, ⟨h, _⟩, _⟩, _⟩ := h
  exact ⟨fun i => cell_of_row w1 b i c T (0, 0) h, fun i => frozen_of_row w1 b i c T h, (Array.getElem?_eq_some_iff.1 h).1⟩
theorem Becomes.imp {F : List Nat} {X Y : Ass} {w w1 : World} (h : Becomes F X w w1) (hi : X.imp Y) : Becomes F Y w w1 := by
  obtain ⟨F', h1, h2, h3⟩ := h
  obtain ⟨F2, g1, e⟩ := hi w1 F' h1
  exact ⟨F2, g1, h2, fun k hk => h3 k ((e k).1 hk)⟩
theorem Becomes.drop {F : List Nat} {A C : Ass} {w w1 : World} (h : Becomes F (A.star C) w w1) : Becomes F C w w1 := by
  obtain ⟨_, ⟨F1, F2, rfl, _, h2, _⟩, h3, h4⟩ := h
  exact ⟨F2, h2, h3, fun k hk => h4 k (by simp [hk])⟩
theorem Becomes.turn {F : List Nat} {A A' : Ass} {w w1 w2 : World} (h : Becomes F A w w1) (hb : ∀ F', A w1 F' → Becomes F' A' w1 w2) : Becomes F A' w w2 := by
  obtain ⟨F', g1, g2, g3⟩ := h
  obtain ⟨F2, k1, k2, k3⟩ := hb F' g1
  refine ⟨F2, k1, g2.trans k2 g3, fun k hk => ?_⟩
  rcases k3 k hk with c | c
  · exact g3 k c
  · exact .inr (Nat.le_trans g2.size c)
theorem Becomes.poke {F : List Nat} {b : Nat} {c : Array Value} {T : TypeId} {C : Ass} {w w1 : World} (hC : C.Good) (h : Becomes F ((ownA b c T).star C) w w1) (i : Nat) (v : Value) : Becomes F ((ownA b (c.setIfInBounds i v) T).star C) w (w1.setCell ⟨b, i, Option.none⟩ v) := by
  refine h.turn fun F hF => Becomes.left hC hF ?_
  rintro F1 ⟨h1, rfl⟩
  exact ⟨[b], ⟨heap_setCell_same w1 b i c _ _ h1, rfl⟩, (Tn.refl _ _).setCell (.inl (by simp)) _, fun k hk => .inl hk⟩
theorem Becomes.opN {P : Program} {A A' X X' R : Ass} {f : FuncId} {args : Array Value} {v : Ending} (hd : Does P A f args v A') (hi : X.imp (A.star R)) (hj : (A'.star R).imp X') (hR : R.Good) {F : List Nat} {w w1 : World} (h : Becomes F X w w1) : Calls P f args w1 fun e w' => e = v ∧ Becomes F X' w w' := by
  obtain ⟨_, ⟨F1, F2, rfl, h1, h2, h3⟩, g2, g3⟩ := h.imp hi
  refine (hd w1 F1 h1).mono ?_
  rintro e w' ⟨he, hk⟩
  refine ⟨he, Becomes.imp ?_ hj⟩
  obtain ⟨F', k1, k2, k3⟩ := hk.frameL hR h2 h3
  refine ⟨F', k1, g2.trans k2 g3, fun k hk => ?_⟩
  rcases k3 k hk with c | c
  · exact g3 k c
  · exact .inr (Nat.le_trans g2.size c)
end Go.Proofs.Ytikdnmbbiipbjaa
