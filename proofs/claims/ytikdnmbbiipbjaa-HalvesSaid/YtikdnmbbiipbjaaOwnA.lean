/- Blocks of the call's own, each known whole, beside what else there is; rows of texts among them. No program is named. -/
import Derived.Test.YtikdnmbbiipbjaaSep
import Derived.OneCell
namespace Go.Proofs.Ytikdnmbbiipbjaa
open Go Go.RowKit

/-- A block of the call's own, known whole. -/
def ownA (b : Nat) (c : Array Value) (T : TypeId) : Ass := fun w F => w.heap[b]? = some (.cells c T (0, 0)) ∧ F = [b]
theorem ownA_good (b : Nat) (c : Array Value) (T : TypeId) : (ownA b c T).Good := by
  rintro w F ⟨h, rfl⟩
  exact ⟨fun k hk => by simp at hk; subst hk; exact (Array.getElem?_eq_some_iff.1 h).1, fun w' hw' => ⟨(hw' b (by simp)).trans h, rfl⟩⟩
theorem At.own {b : Nat} {c : Array Value} {T : TypeId} {C : Ass} {w0 w : World} (h : At w0 ((ownA b c T).star C) w) : (∀ i, w.cell? ⟨b, i, Option.none⟩ = c[i]?) ∧ (∀ i, w.frozen? ⟨b, i, Option.none⟩ = false) ∧ b < w.heap.size := by
  obtain ⟨_, ⟨_, _, _, ⟨h, _⟩, _⟩, _⟩ := h
  exact ⟨fun i => cell_of_row w b i c T (0, 0) h, fun i => frozen_of_row w b i c T h, (Array.getElem?_eq_some_iff.1 h).1⟩
theorem At.hold {C : Ass} {w0 w : World} (hC : C.Good) (h : At w0 C w) (c : Array Value) (T : TypeId) : At w0 ((ownA w.heap.size c T).star C) (w.alloc (.cells c T)) :=
  At.add hC h ⟨[w.heap.size], ⟨heap_alloc_new w _, rfl⟩, (Tn.refl _ _).alloc _, fun k hk => .inr (by simp at hk; omega)⟩
theorem At.drop {A C : Ass} {w0 w : World} (h : At w0 (A.star C) w) : At w0 C w := by
  obtain ⟨F, ⟨F1, F2, rfl, _, h2, _⟩, hB, hb⟩ := h
  exact ⟨F2, h2, fun k hk => hB k (by simp [hk]), hb⟩
theorem At.op2 {P : Program} {A A' B B2 C : Ass} {f : FuncId} {args : Array Value} {v : Ending} (hd : Does P A f args v A') (hN : B.Good) (hN2 : B2.Good) (hC : C.Good) {w0 w : World} (h : At w0 (B.star (B2.star (A.star C))) w) : Calls P f args w fun e w' => e = v ∧ At w0 (B.star (B2.star (A'.star C))) w' := by
  obtain ⟨F, ⟨G, _, rfl, hG, ⟨G2, _, rfl, hG2, ⟨F1, F2, rfl, h1, h2, h3⟩, h5⟩, h4⟩, hB, hb⟩ := h
  refine (hd w F1 h1).mono ?_
  rintro e w' ⟨he, hk⟩
  obtain ⟨F', g1, g2, g3⟩ := (((hk.frameL hC h2 h3).frameR hN2 hG2 h5).frameR hN hG h4)
  refine ⟨he, F', g1, fun k hk => ?_, hb.trans (g2.below hB hb.size)⟩
  rcases g3 k hk with e | e
  · exact hB k e
  · exact Nat.le_trans hb.size e
/-- One of its cells is set. -/
theorem At.poke {b : Nat} {c : Array Value} {T : TypeId} {C : Ass} {w0 w : World} (hC : C.Good) (h : At w0 ((ownA b c T).star C) w) (i : Nat) (v : Value) : At w0 ((ownA b (c.setIfInBounds i v) T).star C) (w.setCell ⟨b, i, Option.none⟩ v) := by
  refine h.turn fun F hF => Becomes.left hC hF ?_
  rintro F1 ⟨h1, rfl⟩
  exact ⟨[b], ⟨heap_setCell_same w b i c _ _ h1, rfl⟩, (Tn.refl _ _).setCell (.inl (by simp)) _, fun k hk => .inl hk⟩
/-- A row of texts in a block of the call's own. -/
def txs (ts : List ByteArray) : Array Value := (ts.map Value.string).toArray
theorem txs_at (ts : List ByteArray) (i : Nat) (h : i < ts.length) : (txs ts)[i]? = some (.string (ts.getD i ⟨#[]⟩)) := by simp [txs, List.getD, h]
theorem txs_set (ts : List ByteArray) (i : Nat) (s : ByteArray) : (txs ts).setIfInBounds i (.string s) = txs (ts.set i s) := by
  unfold txs
  rw [List.setIfInBounds_toArray, List.map_set]
theorem At.text {b : Nat} {ts : List ByteArray} {T : TypeId} {C : Ass} {w0 w : World} (h : At w0 ((ownA b (txs ts) T).star C) w) {i : Nat} (hi : i < ts.length) : w.cell? ⟨b, i, Option.none⟩ = some (.string (ts.getD i ⟨#[]⟩)) ∧ w.frozen? ⟨b, i, Option.none⟩ = false :=
  ⟨(h.own.1 i).trans (txs_at ts i hi), h.own.2.1 i⟩
theorem At.setText {b : Nat} {ts : List ByteArray} {T : TypeId} {C : Ass} {w0 w : World} (hC : C.Good) (h : At w0 ((ownA b (txs ts) T).star C) w) (i : Nat) (s : ByteArray) : At w0 ((ownA b (txs (ts.set i s)) T).star C) (w.setCell ⟨b, i, Option.none⟩ (.string s)) := by
  rw [← txs_set]; exact h.poke hC i _
end Go.Proofs.Ytikdnmbbiipbjaa
