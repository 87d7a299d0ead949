
/- Put together: Par, Par2, Par3, Par4, Par5, Par6. Conditions: each theorem's own. -/
import Derived.Test.YtopkcaflmpjhgaaBpa
import Derived.LoopN
namespace Go.Proofs.Ytopkcaflmpjhgaa
open Go Go.RowKit

theorem poAll_take {es : List Pa} {k : Nat} (hk : k < es.length) : (es.take (k + 1)).all Pa.may = ((es.take k).all Pa.may && (es.getD k .none).may) := by
  rw [List.take_succ_eq_append_getElem hk, List.all_append]
  simp [List.getD, hk]
/-- The cells of one of them, in every world that follows. -/
theorem PaIn.elem {w : World} {ao : Option Addr} {n : Nat} {es : List Pa} (h : PaIn [] w ao n es) {k : Nat} (hk : k < n) : ∃ b off a, ao = some ⟨b, off, none⟩ ∧ es.getD k Pa.none = a ∧ ∀ W, Below w.heap.size w W → W.cell? ⟨b, off + k * 3, none⟩ = some (.bool a.b) ∧ W.cell? ⟨b, off + k * 3 + 1, none⟩ = some (.int .i64 a.l) ∧ W.cell? ⟨b, off + k * 3 + 2, none⟩ = some (.int .i64 a.u) := by
  obtain ⟨hlen, hrow, _⟩ := h
  rcases hrow with c | ⟨b, off, rfl, hat, _, hlb⟩
  · omega
  · exact ⟨b, off, _, rfl, rfl, fun W hW => (hat.same (hW.block b hlb)).elem (by rw [← hlen]; exact hk)⟩
theorem poWalk_take {es : List Pa} {k : Nat} (hk : k < es.length) (x t : Int) : poWalk x t (es.take (k + 1)) = poStep x t (poWalk x t (es.take k)) (es.getD k .none) := by
  rw [List.take_succ_eq_append_getElem hk, poWalk_snoc]
  simp [List.getD, hk]
end Go.Proofs.Ytopkcaflmpjhgaa

namespace Go.Proofs.Ytopkcaflmpjhgaa
open Go Go.RowKit

theorem paCells_set (es : List Pa) {k : Nat} (hk : k < es.length) (a : Pa) : paCells (es.set k a) = (((paCells es).set (k * 3) (.bool a.b)).set (k * 3 + 1) (.int .i64 a.l)).set (k * 3 + 2) (.int .i64 a.u) := by
  induction es generalizing k with
  | nil => cases hk
  | cons e es ih =>
    cases k with
    | zero => simp [paCells, Pa.cs]
    | succ k =>
      rw [List.set_cons_succ, paCells, paCells, ih (by simpa using hk), show (k + 1) * 3 = k * 3 + 3 by omega]
      simp [Pa.cs]
section
variable {w0 w : World} {C : Ass}
/-- A row's block, known whole; and back. -/
theorem At.paOwn {g cap n : Nat} {es : List Pa} (h : At w0 ((rowE TPa 3 (.slice (some ⟨g, 0, Option.none⟩) n cap) es.length (paCells es)).star C) w) : ∃ cur : Array Value, cur.toList.take (es.length * 3) = paCells es ∧ cur.size = cap * 3 ∧ es.length ≤ cap ∧ cap ≤ maxLen ∧ n = es.length ∧ At w0 ((ownA g cur TPa).star C) w := by
  obtain ⟨F, ⟨F1, F2, rfl, ⟨h1, rfl⟩, g2, g3⟩, hB, hb⟩ := h
  rcases h1.2 with ⟨e, _⟩ | ⟨g', c, cur, e, _, hg, hle, hmx, hsz, htk⟩
  · simp at e
  · obtain ⟨rfl, rfl, rfl⟩ : g = g' ∧ n = es.length ∧ cap = c := by simpa using e
    exact ⟨cur, htk, hsz, hle, hmx, rfl, [g] ++ F2, ⟨[g], F2, rfl, ⟨hg, rfl⟩, g2, fun k hk => g3 k (by simpa [Value.ownBlock] using hk)⟩, fun k hk => hB k (by simpa [Value.ownBlock] using hk), hb⟩
theorem At.paRow {g cap : Nat} {es : List Pa} {cur : Array Value} (h : At w0 ((ownA g cur TPa).star C) w) (h1 : cur.toList.take (es.length * 3) = paCells es) (h2 : cur.size = cap * 3) (h3 : es.length ≤ cap) (h4 : cap ≤ maxLen) : At w0 ((rowE TPa 3 (.slice (some ⟨g, 0, Option.none⟩) es.length cap) es.length (paCells es)).star C) w := by
  obtain ⟨F, ⟨F1, F2, rfl, ⟨hg, rfl⟩, g2, g3⟩, hB, hb⟩ := h
  exact ⟨[g] ++ F2, ⟨[g], F2, rfl, ⟨⟨paCells_len es, .inr ⟨g, cap, cur, rfl, Nat.zero_le _, hg, h3, h4, h2, h1⟩⟩, rfl⟩, g2, g3⟩, hB, hb⟩
/-- One of them is set, cell by cell. -/
theorem At.paSet (hC : C.Good) {g cap n : Nat} {es : List Pa} (h : At w0 ((rowE TPa 3 (.slice (some ⟨g, 0, Option.none⟩) n cap) es.length (paCells es)).star C) w) {k : Nat} (hk : k < es.length) (a : Pa) :
    (w.cell? ⟨g, k * 3, Option.none⟩ = some (.bool (es.getD k .none).b) ∧ w.cell? ⟨g, k * 3 + 1, Option.none⟩ = some (.int .i64 (es.getD k .none).l) ∧ w.cell? ⟨g, k * 3 + 2, Option.none⟩ = some (.int .i64 (es.getD k .none).u)) ∧ (∀ i, w.frozen? ⟨g, i, Option.none⟩ = false) ∧
    At w0 ((rowE TPa 3 (.slice (some ⟨g, 0, Option.none⟩) n cap) (es.set k a).length (paCells (es.set k a))).star C) (((w.setCell ⟨g, k * 3, Option.none⟩ (.bool a.b)).setCell ⟨g, k * 3 + 1, Option.none⟩ (.int .i64 a.l)).setCell ⟨g, k * 3 + 2, Option.none⟩ (.int .i64 a.u)) := by
  obtain ⟨hat, _⟩ := paAt_row h
  have hel := hat.elem hk
  simp only [Nat.zero_add] at hel
  obtain ⟨cur, c1, c2, c3, c4, rfl, hO⟩ := h.paOwn
  refine ⟨hel, hO.own.2.1, ?_⟩
  have hP := ((hO.poke hC (k * 3) (.bool a.b)).poke hC (k * 3 + 1) (.int .i64 a.l)).poke hC (k * 3 + 2) (.int .i64 a.u)
  have := hP.paRow (es := es.set k a) (cap := cap) (by
    rw [paCells_set es hk, List.length_set, ← c1]
    simp [List.take_set]) (by simp [c2]) (by simpa using c3) c4
  rw [List.length_set] at this ⊢
  exact this
end
/-- A copy behind an empty row of one's own. -/
theorem pa_clone {w W : World} {C : Ass} (hC : C.Good) {ao : Option Addr} {n cap : Nat} {es : List Pa} (hes : PaIn [] w ao n es) (hn : n ≤ 5864062014800) (h1n : 1 ≤ n) (hA : At w C W) : ∃ g c2 w2, (Builtin.append_ #[29, 29] 29 #[.slice (some ⟨W.heap.size, 0, Option.none⟩) 0 0, .slice ao n cap]).run Try.prog (W.alloc (.cells #[] TPa)) = .ok (.slice (some ⟨g, 0, Option.none⟩) n c2) w2 ∧ At w ((rowE TPa 3 (.slice (some ⟨g, 0, Option.none⟩) n c2) es.length (paCells es)).star C) w2 := by
  obtain ⟨hlen, hrow, _⟩ := (hes.tn (Tn.ofBelow hA.bel [])).tn ((Tn.refl [] W).alloc (.cells #[] TPa))
  subst hlen
  have h0 : At w ((rowE TPa 3 (.slice (some ⟨W.heap.size, 0, Option.none⟩) 0 0) ([] : List Pa).length (paCells [])).star C) (W.alloc (.cells #[] TPa)) := 
    (At.hold hC hA #[] TPa).paRow (es := []) (cap := 0) rfl rfl (Nat.le_refl _) (by decide)
  obtain ⟨b, off, e, h1⟩ : ∃ b off, ao = some ⟨b, off, none⟩ ∧ PaAt (W.alloc (.cells #[] TPa)) b off es := by
    rcases hrow with c | ⟨b, off, e, h1, _⟩
    · omega
    · exact ⟨b, off, e, h1⟩
  obtain ⟨v', w2, k1, k2, k3, k4, k5⟩ := pa_runApp (es := es) 29 [] h0.erow ao es.length cap rfl (by simp; omega) (.inr ⟨b, off, e, h1⟩)
  rw [show ([] : List Pa).length + es.length = es.length by simp, show paCells [] ++ paCells es = paCells es from rfl] at k2
  have hS := h0.appendedE (v' := v') (m := es.length) (ys := paCells es) hC k3 k2 (by
    rcases k5 with c | c
    · exact .inl c
    · exact .inr ⟨(W.alloc (.cells #[] TPa)).heap.size, Nat.le_refl _, c⟩)
  obtain ⟨a2, c2, rfl⟩ := rowE_shape k2
  obtain ⟨g, rfl, _, _⟩ := pa_big hS h1n
  exact ⟨g, c2, w2, k1, hS⟩
end Go.Proofs.Ytopkcaflmpjhgaa

namespace Go.Proofs.Ytopkcaflmpjhgaa
open Go Go.RowKit

end Go.Proofs.Ytopkcaflmpjhgaa

namespace Go.Proofs.Ytopkcaflmpjhgaa
open Go Go.RowKit

/-- A row of one's own, a number beside it. -/
def PaOut (w : World) (es : List Pa) (n : Int) (e : Ending) (w' : World) : Prop := ∃ a2 c2, e = .returned (.tuple #[.slice a2 es.length c2, .int .i64 n]) ∧ At w ((rowE TPa 3 (.slice a2 es.length c2) es.length (paCells es)).star emp) w'
theorem PaOut.no {w w' : World} (h : Below w.heap.size w w') (n : Int) : PaOut w [] n (.returned (.tuple #[.slice none 0 0, .int .i64 n])) w' := ⟨none, 0, rfl, At.erow0 TPa 3 (At.none h)⟩
end Go.Proofs.Ytopkcaflmpjhgaa

namespace Go.Proofs.Ytopkcaflmpjhgaa
open Go Go.RowKit

end Go.Proofs.Ytopkcaflmpjhgaa

namespace Go.Proofs.Ytopkcaflmpjhgaa
open Go Go.RowKit

def paNew : Pa := ⟨false, -1, 0⟩
end Go.Proofs.Ytopkcaflmpjhgaa

