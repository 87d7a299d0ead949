/- For PoolWalks: which address is leased, by what it is; three rows of the law's own beside a pool. No condition. -/
import Derived.Test.YtamhjnjabjfgeaaPab
import Derived.Test.YtamhjnjabjfgeaaPap7
namespace Go.Proofs.Ytamhjnjabjfgeaa
open Go Go.RowKit

theorem fstP_some {p : Pa → Bool} {l : List Pa} {i j : Int} (h : fstP p l i = some j) : ∃ q : Nat, j = i + (q : Int) ∧ q < l.length ∧ p (l.getD q Pa.none) = true := by
  induction l generalizing i with
  | nil => simp [fstP] at h
  | cons c r ih =>
    simp only [fstP] at h
    cases hc : p c with
    | true =>
      rw [hc] at h
      simp only [if_true, Option.some.injEq] at h
      exact ⟨0, by omega, by simp, by simpa using hc⟩
    | false =>
      rw [hc] at h
      simp only [Bool.false_eq_true, if_false] at h
      obtain ⟨q, e, hl, hp⟩ := ih h
      exact ⟨q + 1, by omega, by simpa using hl, by simpa using hp⟩
theorem fstP_none {p : Pa → Bool} {l : List Pa} {i : Int} : fstP p l i = Option.none ↔ l.any p = false := by
  induction l generalizing i with
  | nil => simp [fstP]
  | cons c r ih =>
    simp only [fstP, List.any_cons]
    cases hc : p c with
    | true => simp
    | false => simpa using ih
/-- None is free: none is leased. -/
theorem poBest_none {x t : Int} {es : List Pa} (h : es.any (fun a => a.free t) = false) : poBest x t es = Option.none := by
  have h2 : ∀ y : Int, es.any (poOwn y t) = false := fun y => by
    rw [Bool.eq_false_iff]
    intro c
    obtain ⟨a, ha, hp⟩ := List.any_eq_true.1 c
    have hf : a.free t = true := by unfold poOwn at hp; simp at hp; exact hp.1
    have : es.any (fun a => a.free t) = true := List.any_eq_true.2 ⟨a, ha, hf⟩
    rw [h] at this
    cases this
  unfold poBest
  rw [fstP_none.2 (h2 x), fstP_none.2 (h2 (-1)), fstP_none.2 h]
  rfl
/-- One that is free is leased, and one's own where there is one. -/
theorem poBest_some {x t : Int} {es : List Pa} (h : es.any (fun a => a.free t) = true) : ∃ q : Nat, poBest x t es = some (q : Int) ∧ q < es.length ∧ (es.getD q Pa.none).free t = true ∧ (es.any (poOwn x t) = true → (es.getD q Pa.none).l = x) := by
  unfold poBest
  cases h1 : fstP (poOwn x t) es 0 with
  | some j =>
    obtain ⟨q, e, hl, hp⟩ := fstP_some h1
    unfold poOwn at hp
    simp at hp
    exact ⟨q, by rw [e, Int.zero_add]; rfl, hl, hp.1, fun _ => hp.2⟩
  | none =>
    have n1 := fstP_none.1 h1
    cases h2 : fstP (poOwn (-1) t) es 0 with
    | some j =>
      obtain ⟨q, e, hl, hp⟩ := fstP_some h2
      unfold poOwn at hp
      simp at hp
      exact ⟨q, by rw [e, Int.zero_add]; rfl, hl, hp.1, fun c => by rw [n1] at c; cases c⟩
    | none =>
      cases h3 : fstP (fun a => a.free t) es 0 with
      | some j =>
        obtain ⟨q, e, hl, hp⟩ := fstP_some h3
        exact ⟨q, by rw [e, Int.zero_add]; rfl, hl, hp, fun c => by rw [n1] at c; cases c⟩
      | none => rw [fstP_none.1 h3] at h; cases h
theorem plOk_of {es : List Pa} {x t : Int} (h : poMay es = true) (x0 : 0 ≤ x) (x1 : x < 8) (t0 : 0 ≤ t) (t1 : t ≤ 1048575) : plOk es x t = true := by
  unfold plOk
  rw [h, (poUser_iff x).2 ⟨x0, x1⟩, decide_eq_true t0, decide_eq_true t1]
  rfl
theorem pl_none {es : List Pa} {x t : Int} (ho : plOk es x t = true) (h : es.any (fun a => a.free t) = false) : plX es x t = 0 ∧ plE es x t = 1601 := by
  unfold plX plE
  rw [if_pos ho, if_pos ho, poBest_none h]
  exact ⟨rfl, rfl⟩
theorem pl_one_of {es : List Pa} {x t : Int} (ho : plOk es x t = true) (h : es.any (fun a => a.free t) = true) : ∃ q : Nat, plX es x t = (q : Int) ∧ plE es x t = 0 ∧ q < es.length ∧ (es.getD q Pa.none).free t = true ∧ (es.any (poOwn x t) = true → (es.getD q Pa.none).l = x) := by
  obtain ⟨q, e, h1, h2, h3⟩ := poBest_some (x := x) h
  refine ⟨q, ?_, ?_, h1, h2, h3⟩
  · unfold plX; rw [if_pos ho, e]; rfl
  · unfold plE; rw [if_pos ho, e]; rfl
theorem pfree_not {es : List Pa} {q : Nat} {a : Pa} {y : Int} (ha : es.getD q Pa.none = a) (hb : a.b = false) : pfOk es (q : Int) y = false := by
  unfold pfOk
  rw [Int.toNat_natCast, ha, hb, Bool.and_false, Bool.false_and]
theorem any_take {p : Pa → Bool} {es : List Pa} {k : Nat} (hk : k < es.length) {a : Pa} (ha : es.getD k Pa.none = a) : (es.take (k + 1)).any p = ((es.take k).any p || p a) := by
  subst ha
  rw [List.take_succ_eq_append_getElem hk, List.any_append]
  simp [List.getD, hk]
/- The rows of the law's own: who is busy, whose it was last, until when it rests. -/
def cB (es : List Pa) : Array Value := (es.map (fun a => Value.bool a.b)).toArray
def cL (es : List Pa) : Array Value := (es.map (fun a => Value.int .i64 a.l)).toArray
def cU (es : List Pa) : Array Value := (es.map (fun a => Value.int .i64 a.u)).toArray
theorem row_at (f : Pa → Value) {es : List Pa} {q : Nat} {a : Pa} (hq : q < es.length) (ha : es.getD q Pa.none = a) : ((es.map f).toArray)[q]? = some (f a) := by
  subst ha
  rw [List.getElem?_toArray, List.getElem?_map, List.getD, List.getElem?_eq_getElem hq]
  rfl
/-- A pool's rows in three blocks of the law's own. -/
structure Pw (w : World) (p : Nat) (cb cl cu : Array Value) (W : World) : Prop where
  below : Below w.heap.size w W
  from0 : w.heap.size ≤ p
  b : W.heap[p]? = some (.cells cb 41 (0, 0))
  l : W.heap[p + 1]? = some (.cells cl 3 (0, 0))
  u : W.heap[p + 1 + 1]? = some (.cells cu 42 (0, 0))
variable {w W W' : World} {p : Nat} {cb cl cu : Array Value}
theorem Pw.lt (h : Pw w p cb cl cu W) : p + 1 + 1 < W.heap.size := (Array.getElem?_eq_some_iff.1 h.u).1
theorem Pw.lay (h : Pw w p cb cl cu W) (hb : Below W.heap.size W W') : Pw w p cb cl cu W' := by
  have hl := h.lt
  exact ⟨h.below.trans (hb.mono h.below.size), h.from0, (hb.block p (by omega)).trans h.b, (hb.block (p + 1) (by omega)).trans h.l, (hb.block (p + 1 + 1) hl).trans h.u⟩
theorem Pw.cB (h : Pw w p cb cl cu W) (i : Nat) : W.cell? ⟨p, i, none⟩ = cb[i]? ∧ W.frozen? ⟨p, i, none⟩ = false := ⟨cell_of_row W p i _ _ _ h.b, frozen_of_row W p i _ _ h.b⟩
theorem Pw.cL (h : Pw w p cb cl cu W) (i : Nat) : W.cell? ⟨p + 1, i, none⟩ = cl[i]? ∧ W.frozen? ⟨p + 1, i, none⟩ = false := ⟨cell_of_row W (p + 1) i _ _ _ h.l, frozen_of_row W (p + 1) i _ _ h.l⟩
theorem Pw.cU (h : Pw w p cb cl cu W) (i : Nat) : W.cell? ⟨p + 1 + 1, i, none⟩ = cu[i]? ∧ W.frozen? ⟨p + 1 + 1, i, none⟩ = false := ⟨cell_of_row W (p + 1 + 1) i _ _ _ h.u, frozen_of_row W (p + 1 + 1) i _ _ h.u⟩
theorem Pw.other (W : World) (g i j : Nat) (v : Value) (h : j ≠ g) : (W.setCell ⟨g, i, none⟩ v).heap[j]? = W.heap[j]? := Below.heap_setCell W ⟨g, i, none⟩ v j (fun e => h e)
theorem Pw.setB (h : Pw w p cb cl cu W) (i : Nat) (v : Value) : Pw w p (cb.setIfInBounds i v) cl cu (W.setCell ⟨p, i, none⟩ v) :=
  ⟨h.below.setCell (p := ⟨p, i, none⟩) h.from0 v, h.from0, heap_setCell_same W p i _ _ _ h.b, (Pw.other W p i _ v (by omega)).trans h.l, (Pw.other W p i _ v (by omega)).trans h.u⟩
theorem Pw.setL (h : Pw w p cb cl cu W) (i : Nat) (v : Value) : Pw w p cb (cl.setIfInBounds i v) cu (W.setCell ⟨p + 1, i, none⟩ v) :=
  ⟨h.below.setCell (p := ⟨p + 1, i, none⟩) (Nat.le_trans h.from0 (Nat.le_add_right _ _)) v, h.from0, (Pw.other W (p + 1) i _ v (by omega)).trans h.b, heap_setCell_same W (p + 1) i _ _ _ h.l, (Pw.other W (p + 1) i _ v (by omega)).trans h.u⟩
theorem Pw.setU (h : Pw w p cb cl cu W) (i : Nat) (v : Value) : Pw w p cb cl (cu.setIfInBounds i v) (W.setCell ⟨p + 1 + 1, i, none⟩ v) :=
  ⟨h.below.setCell (p := ⟨p + 1 + 1, i, none⟩) (show w.heap.size ≤ p + 1 + 1 by have := h.from0; omega) v, h.from0, (Pw.other W (p + 1 + 1) i _ v (by omega)).trans h.b, (Pw.other W (p + 1 + 1) i _ v (by omega)).trans h.l, heap_setCell_same W (p + 1 + 1) i _ _ _ h.u⟩
theorem Pw.start {w W : World} (h : Below w.heap.size w W) (cb cl cu : Array Value) : Pw w W.heap.size cb cl cu (((W.alloc (.cells cb 41)).alloc (.cells cl 3)).alloc (.cells cu 42)) := by
  have e1 : (W.alloc (.cells cb 41)).heap.size = W.heap.size + 1 := by simp
  have e2 : ((W.alloc (.cells cb 41)).alloc (.cells cl 3)).heap.size = W.heap.size + 1 + 1 := by simp
  refine ⟨((h.alloc h.size _).alloc (by rw [e1]; have := h.size; omega) _).alloc (by rw [e2]; have := h.size; omega) _, h.size, ?_, ?_, ?_⟩
  · rw [Go.heap_alloc_old _ _ (by simp; omega), Go.heap_alloc_old _ _ (by simp)]
    exact heap_alloc_new W _
  · rw [Go.heap_alloc_old _ _ (by simp)]
    exact heap_alloc2_new W _ _
  · have := heap_alloc_new ((W.alloc (.cells cb 41)).alloc (.cells cl 3)) (.cells cu 42)
    rw [e2] at this
    exact this
theorem Pw.to {cb' cl' cu' : Array Value} (h : Pw w p cb cl cu W) (h1 : cb = cb') (h2 : cl = cl') (h3 : cu = cu') : Pw w p cb' cl' cu' W := by
  subst h1 h2 h3
  exact h
theorem row_upd (f : Pa → Value) (es : List Pa) (q : Nat) (a : Pa) {v : Value} (hv : f a = v) : ((es.map f).toArray).setIfInBounds q v = ((es.set q a).map f).toArray := by
  subst hv
  rw [List.setIfInBounds_toArray, List.map_set]
theorem row_keep (f : Pa → Value) {es : List Pa} {q : Nat} {a a' : Pa} (ha : es.getD q Pa.none = a) (hf : f a' = f a) : (es.map f).toArray = ((es.set q a').map f).toArray := by
  rw [← row_upd f es q a' rfl, hf, List.setIfInBounds_toArray]
  congr 1
  apply List.ext_getElem (by simp)
  intro j h1 h2
  have hj : j < es.length := by simpa using h1
  by_cases e : q = j
  · subst e
    rw [List.getElem_set_self, ← ha]
    simp [List.getD, hj]
  · rw [List.getElem_set_ne e]
theorem free_of {b : Bool} {l u t : Int} : (Pa.mk b l u).free t = (!b && decide (u ≤ t)) := rfl
theorem own_of {b : Bool} {l u x t : Int} : poOwn x t (Pa.mk b l u) = ((!b && decide (u ≤ t)) && decide (l = x)) := rfl
end Go.Proofs.Ytamhjnjabjfgeaa
