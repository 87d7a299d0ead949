/- Within a law: what its books are, beside blocks of its own that are known whole. No program is named. -/
import Derived.Test.YtcakipojmkehgaaDoorBme
import Derived.Test.YtcakipojmkehgaaDoorDoesG
import Derived.Test.YtcakipojmkehgaaDoorBlks
namespace Go.Proofs.YtcakipojmkehgaaDoor
open Go Go.RowKit

/-- A holds of new memory alone, and beside it lie the blocks of L. -/
def LA (w0 : World) (A : Ass) (L : List (Nat × Array Value)) (W : World) : Prop :=
  ∃ F, A W F ∧ (∀ k ∈ F, w0.heap.size ≤ k) ∧ Below w0.heap.size w0 W ∧ ∀ x ∈ L, Blk W x.1 x.2 ∧ x.1 ∉ F
theorem LA.start {w0 W : World} {A : Ass} (h : At w0 A W) : LA w0 A [] W := by
  obtain ⟨F, h1, h2, h3⟩ := h
  exact ⟨F, h1, h2, h3, fun x hx => by cases hx⟩
theorem LA.at {w0 W : World} {A : Ass} {L : List (Nat × Array Value)} (h : LA w0 A L W) : At w0 A W := by
  obtain ⟨F, h1, h2, h3, _⟩ := h
  exact ⟨F, h1, h2, h3⟩
theorem LA.drop {w0 W : World} {A : Ass} {L : List (Nat × Array Value)} (h : LA w0 A L W) : LA w0 A [] W := LA.start h.at
theorem LA.bel {w0 W : World} {A : Ass} {L : List (Nat × Array Value)} (h : LA w0 A L W) : Below w0.heap.size w0 W := by
  obtain ⟨_, _, _, h3, _⟩ := h
  exact h3
theorem LA.gd {w0 W : World} {A : Ass} {L : List (Nat × Array Value)} (h : LA w0 A L W) (hg : Gd w0) : Gd W := hg.below h.bel hg.pos
theorem LA.step {w0 W W' : World} {A : Ass} {L : List (Nat × Array Value)} (hA : A.Good) (h : LA w0 A L W) (hb : Below W.heap.size W W') : LA w0 A L W' := by
  obtain ⟨F, h1, h2, h3, h4⟩ := h
  exact ⟨F, hA.below h1 hb, h2, h3.trans (hb.mono h3.size), fun x hx => ⟨(h4 x hx).1.step hb, (h4 x hx).2⟩⟩
theorem LA.hold {w0 W : World} {A : Ass} {L : List (Nat × Array Value)} (hA : A.Good) (h : LA w0 A L W) (c : Array Value) (T : TypeId) : LA w0 A ((W.heap.size, c) :: L) (W.alloc (.cells c T)) := by
  have hb : Below W.heap.size W (W.alloc (.cells c T)) := (Below.refl _ _).alloc (Nat.le_refl _) _
  obtain ⟨F, h1, h2, h3, h4⟩ := h
  refine ⟨F, hA.below h1 hb, h2, h3.trans (hb.mono h3.size), fun x hx => ?_⟩
  rcases List.mem_cons.1 hx with rfl | hx
  · exact ⟨Blk.new _ _ _, fun hm => absurd ((hA W F h1).1 _ hm) (Nat.lt_irrefl _)⟩
  · exact ⟨(h4 x hx).1.step hb, (h4 x hx).2⟩
theorem LA.becomes {w0 W W' : World} {A A' : Ass} {L : List (Nat × Array Value)} (h : LA w0 A L W) (hb : ∀ F, A W F → Becomes F A' W W') : LA w0 A' L W' := by
  obtain ⟨F, h1, h2, h3, h4⟩ := h
  obtain ⟨F2, g1, g2, g3⟩ := hb F h1
  refine ⟨F2, g1, fun k hk => ?_, h3.trans (g2.below h2 h3.size), fun x hx => ?_⟩
  · rcases g3 k hk with e | e
    · exact h2 k e
    · exact Nat.le_trans h3.size e
  · obtain ⟨k1, k2⟩ := h4 x hx
    have hlt := k1.lt
    refine ⟨⟨fun i => ?_, fun i => ?_, Nat.lt_of_lt_of_le hlt g2.size⟩, fun hm => ?_⟩
    · exact (World.cell?_of_block (w := W) (a := ⟨x.1, i, none⟩) (g2.block _ hlt k2)).trans (k1.cell i)
    · exact (World.frozen?_of_block (w := W) (a := ⟨x.1, i, none⟩) (g2.block _ hlt k2)).trans (k1.froz i)
    · rcases g3 _ hm with e | e
      · exact k2 e
      · omega
theorem LA.blk {w0 W : World} {A : Ass} {L : List (Nat × Array Value)} (h : LA w0 A L W) {x : Nat × Array Value} (hx : x ∈ L) : Blk W x.1 x.2 := by
  obtain ⟨_, _, _, _, h4⟩ := h
  exact (h4 x hx).1
theorem LA.b0 {w0 W : World} {A : Ass} {b : Nat} {c : Array Value} {L : List (Nat × Array Value)} (h : LA w0 A ((b, c) :: L) W) : Blk W b c := h.blk (x := (b, c)) (by simp)
theorem LA.b1 {w0 W : World} {A : Ass} {b d : Nat} {c e : Array Value} {L : List (Nat × Array Value)} (h : LA w0 A ((b, c) :: (d, e) :: L) W) : Blk W d e := h.blk (x := (d, e)) (by simp)
theorem LA.b2 {w0 W : World} {A : Ass} {b d f : Nat} {c e g : Array Value} {L : List (Nat × Array Value)} (h : LA w0 A ((b, c) :: (d, e) :: (f, g) :: L) W) : Blk W f g := h.blk (x := (f, g)) (by simp)
theorem LA.pop {w0 W : World} {A : Ass} {x : Nat × Array Value} {L : List (Nat × Array Value)} (h : LA w0 A (x :: L) W) : LA w0 A L W := by
  obtain ⟨F, h1, h2, h3, h4⟩ := h
  exact ⟨F, h1, h2, h3, fun y hy => h4 y (by simp [hy])⟩
theorem LA.opN {P : Program} {A A' X X' R : Ass} {f : FuncId} {args : Array Value} {v : Ending} (hd : Does P A f args v A') (hi : X.imp (A.star R)) (hj : (A'.star R).imp X') (hR : R.Good) {w0 W : World} {L : List (Nat × Array Value)} (h : LA w0 X L W) : Calls P f args W fun e w' => e = v ∧ LA w0 X' L w' := by
  obtain ⟨F, h1, h2, h3, h4⟩ := h
  refine (Becomes.opN hd hi hj hR (Becomes.refl h1)).mono ?_
  rintro e w' ⟨he, hb⟩
  exact ⟨he, LA.becomes (A := fun V G => X V F ∧ G = F) ⟨F, ⟨h1, rfl⟩, h2, h3, h4⟩ (by rintro G ⟨_, rfl⟩; exact hb)⟩
/-- A call on the second. -/
theorem LA.op1 {P : Program} {A A' B C : Ass} {f : FuncId} {args : Array Value} {v : Ending} (hd : Does P A f args v A') (hN : B.Good) (hC : C.Good) {w0 W : World} {L : List (Nat × Array Value)} (h : LA w0 (B.star (A.star C)) L W) : Calls P f args W fun e w' => e = v ∧ LA w0 (B.star (A'.star C)) L w' :=
  LA.opN hd (Ass.imp.swap _ _ _) (Ass.imp.swap _ _ _) (hN.star hC) h
/-- On the first. -/
theorem LA.op0 {P : Program} {A A' C : Ass} {f : FuncId} {args : Array Value} {v : Ending} (hd : Does P A f args v A') (hC : C.Good) {w0 W : World} {L : List (Nat × Array Value)} (h : LA w0 (A.star C) L W) : Calls P f args W fun e w' => e = v ∧ LA w0 (A'.star C) L w' :=
  LA.opN hd (Ass.imp.refl _) (Ass.imp.refl _) hC h
/-- The same, where the handle's variable holds its handle. -/
theorem LA.op1G {P : Program} {A A' B C : Ass} {f : FuncId} {args : Array Value} {v : Ending} (hd : DoesG P A f args v A') (hN : B.Good) (hC : C.Good) {w0 W : World} (hg : Gd w0) {L : List (Nat × Array Value)} (h : LA w0 (B.star (A.star C)) L W) : Calls P f args W fun e w' => e = v ∧ LA w0 (B.star (A'.star C)) L w' := by
  have hgw := h.gd hg
  obtain ⟨F, h1, h2, h3, h4⟩ := h
  obtain ⟨G, F2, e, g1, g2, g3⟩ := (Ass.imp.swap B A C) W F h1 |>.elim fun F' hF' => (⟨F', hF'.1, hF'.2⟩ : ∃ F', (A.star (B.star C)) W F' ∧ ∀ k, k ∈ F' ↔ k ∈ F) |>.elim fun F' hF' => (by
    obtain ⟨⟨Ga, Gb, e, ga, gb, gd⟩, hm⟩ := hF'
    exact (⟨Ga, Gb, trivial, ga, gb, ⟨gd, by rw [← e]; exact hm⟩⟩ : ∃ (Ga Gb : List Nat), True ∧ A W Ga ∧ (B.star C) W Gb ∧ ((∀ k ∈ Ga, k ∉ Gb) ∧ ∀ k, k ∈ Ga ++ Gb ↔ k ∈ F)))
  refine (hd W G g1 hgw).mono ?_
  rintro e w' ⟨he, hk⟩
  refine ⟨he, ?_⟩
  have hb : Becomes F (B.star (A'.star C)) W w' := by
    have h5 := hk.frameL (hN.star hC) g2 g3.1
    have h6 := Becomes.imp h5 (Ass.imp.swap A' B C)
    obtain ⟨F3, k1, k2, k3⟩ := h6
    exact ⟨F3, k1, k2.mono (fun x hx => (g3.2 x).1 (by simp [hx])), fun k hk => by
      rcases k3 k hk with c | c
      · exact .inl ((g3.2 k).1 c)
      · exact .inr c⟩
  exact LA.becomes (A := fun V G => (B.star (A.star C)) V F ∧ G = F) ⟨F, ⟨h1, rfl⟩, h2, h3, h4⟩ (by rintro G ⟨_, rfl⟩; exact hb)
end Go.Proofs.YtcakipojmkehgaaDoor
