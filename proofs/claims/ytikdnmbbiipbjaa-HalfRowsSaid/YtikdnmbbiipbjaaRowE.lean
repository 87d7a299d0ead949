/- Rows that the call itself makes, several cells an element. No program is named. -/
import Derived.Test.YtikdnmbbiipbjaaOwnB
import Derived.WalkKit
import Derived.Laws.AppendOwn
namespace Go.Proofs.Ytikdnmbbiipbjaa
open Go Go.RowKit Go.Maps

/-- A row that the call itself makes, K cells an element. -/
def rowE (e : TypeId) (K : Nat) (v : Value) (n : Nat) (xs : List Value) : Ass := fun w F => w.ownsRow 0 e K v n xs ∧ F = v.ownBlock.toList
theorem rowE_good (e : TypeId) (K : Nat) (v : Value) (n : Nat) (xs : List Value) : (rowE e K v n xs).Good := by
  rintro w F ⟨h, rfl⟩
  refine ⟨fun k hk => (h.lt k (Option.mem_toList.1 hk)).2, fun w' hw' => ⟨⟨h.1, ?_⟩, rfl⟩⟩
  rcases h.2 with hn | ⟨g, cap, cur, rfl, hb, hgg, rest⟩
  · exact .inl hn
  · exact .inr ⟨g, cap, cur, rfl, hb, (hw' g (by simp [Value.ownBlock])).trans hgg, rest⟩
theorem At.erow {e : TypeId} {K : Nat} {v : Value} {n : Nat} {xs : List Value} {C : Ass} {w0 w : World} (h : At w0 ((rowE e K v n xs).star C) w) : w.ownsRow 0 e K v n xs := by
  obtain ⟨_, ⟨_, _, _, ⟨h, _⟩, _⟩, _⟩ := h
  exact h
theorem At.erow0 (e : TypeId) (K : Nat) {C : Ass} {w0 w : World} (h : At w0 C w) : At w0 ((rowE e K (.slice Option.none 0 0) 0 []).star C) w := by
  obtain ⟨F, h1, h2, h3⟩ := h
  exact ⟨F, ⟨[], F, rfl, ⟨World.ownsRow_nil _ _ _ _, rfl⟩, h1, fun k hk => by cases hk⟩, h2, h3⟩
theorem At.appendedE {e : TypeId} {K : Nat} {v v' : Value} {n m : Nat} {xs ys : List Value} {C : Ass} {w0 w w2 : World} (hC : C.Good) (h : At w0 ((rowE e K v n xs).star C) w) (hg : w.grownBy w2 v.ownBlock) (hr : w2.ownsRow 0 e K v' m ys)
    (hloc : v'.ownBlock = v.ownBlock ∨ ∃ k, w.heap.size ≤ k ∧ v'.ownBlock = some k) : At w0 ((rowE e K v' m ys).star C) w2 := by
  obtain ⟨F, ⟨F1, F2, rfl, ⟨h1, rfl⟩, h2, hd⟩, hB, hb⟩ := h
  have hbec : Becomes v.ownBlock.toList (rowE e K v' m ys) w w2 := by
    refine ⟨_, ⟨hr, rfl⟩, (Tn.refl _ _).grown hg (fun k hk => .inl (Option.mem_toList.2 hk)), fun k hk => ?_⟩
    have hk' := Option.mem_toList.1 hk
    rcases hloc with c | ⟨j, hj, c⟩
    · rw [c] at hk'; exact .inl (Option.mem_toList.2 hk')
    · rw [c] at hk'; cases hk'; exact .inr hj
  obtain ⟨F', g1, g2, g3⟩ := hbec.frameL hC h2 hd
  refine ⟨F', g1, fun k hk => ?_, hb.trans (g2.below hB hb.size)⟩
  rcases g3 k hk with c | c
  · exact hB k c
  · exact Nat.le_trans hb.size c
theorem rowE_shape {w : World} {e : TypeId} {K : Nat} {v : Value} {n : Nat} {xs : List Value} (h : w.ownsRow 0 e K v n xs) : ∃ ao cap, v = .slice ao n cap := by
  rcases h.2 with ⟨rfl, h0⟩ | ⟨g, cap, _, rfl, _⟩
  · exact ⟨Option.none, 0, by rw [h0]⟩
  · exact ⟨_, cap, rfl⟩
theorem Becomes.erow {e : TypeId} {K : Nat} {v : Value} {n : Nat} {xs : List Value} {C : Ass} {F : List Nat} {w0 w : World} (h : Becomes F ((rowE e K v n xs).star C) w0 w) : w.ownsRow 0 e K v n xs := by
  obtain ⟨_, ⟨_, _, _, ⟨h, _⟩, _⟩, _⟩ := h
  exact h
theorem Becomes.erow0 (e : TypeId) (K : Nat) {C : Ass} {F : List Nat} {w0 w : World} (h : Becomes F C w0 w) : Becomes F ((rowE e K (.slice Option.none 0 0) 0 []).star C) w0 w := by
  obtain ⟨F', h1, h2, h3⟩ := h
  exact ⟨F', ⟨[], F', rfl, ⟨World.ownsRow_nil _ _ _ _, rfl⟩, h1, fun k hk => by cases hk⟩, h2, h3⟩
theorem Becomes.appendedE {e : TypeId} {K : Nat} {v v' : Value} {n m : Nat} {xs ys : List Value} {C : Ass} {F : List Nat} {w0 w w2 : World} (hC : C.Good) (h : Becomes F ((rowE e K v n xs).star C) w0 w) (hg : w.grownBy w2 v.ownBlock) (hr : w2.ownsRow 0 e K v' m ys)
    (hloc : v'.ownBlock = v.ownBlock ∨ ∃ k, w.heap.size ≤ k ∧ v'.ownBlock = some k) : Becomes F ((rowE e K v' m ys).star C) w0 w2 := by
  refine h.turn fun F' hF => Becomes.left hC hF ?_
  rintro F1 ⟨h1, rfl⟩
  refine ⟨_, ⟨hr, rfl⟩, (Tn.refl _ _).grown hg (fun k hk => .inl (Option.mem_toList.2 hk)), fun k hk => ?_⟩
  have hk' := Option.mem_toList.1 hk
  rcases hloc with c | ⟨j, hj, c⟩
  · rw [c] at hk'; exact .inl (Option.mem_toList.2 hk')
  · rw [c] at hk'; cases hk'; exact .inr hj
end Go.Proofs.Ytikdnmbbiipbjaa
