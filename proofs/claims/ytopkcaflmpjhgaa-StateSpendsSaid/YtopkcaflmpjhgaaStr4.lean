
/- The reference's turned: an event of a user who is there. Condition: the rows' sizes. -/
import Derived.Test.YtopkcaflmpjhgaaStr2
import Derived.Test.YtopkcaflmpjhgaaBst
import Derived.Test.YtopkcaflmpjhgaaBev
import Derived.Test.YtopkcaflmpjhgaaBlo
namespace Go.Proofs.Ytopkcaflmpjhgaa
open Go Go.RowKit

abbrev evA (e : Ev) : Array Value := #[.int .i64 e.kind, .int .i64 e.user, .int .i64 e.session, .int .i64 e.address, .int .i64 e.a, .int .i64 e.b, .int .i64 e.c, .int .i64 e.tick]
/-- A state's zero value. -/
abbrev stZ : Array Value := #[.int .i64 0, .int .i64 0, .int .i64 0, .slice Option.none 0 0, .slice Option.none 0 0, .slice Option.none 0 0, .slice Option.none 0 0]
abbrev usA (x : Us) : Array Value := #[.int .i64 x.u, .int .i64 x.k, .int .i64 x.s, .int .i64 x.q, .int .i64 x.used, .int .i64 x.lf, .int .i64 x.lu, .int .i64 x.st, .int .i64 x.g]
theorem ob3 {w0 w : World} {R : Ass} (hR : R.Good) (h : At w0 R w) (c1 c2 c3 : Array Value) (T1 T2 T3 : TypeId) :
    At w0 (OB [(w.heap.size, c1, T1), (w.heap.size + 1, c2, T2), (w.heap.size + 1 + 1, c3, T3)] R) (((w.alloc (.cells c1 T1)).alloc (.cells c2 T2)).alloc (.cells c3 T3)) :=
  OB.hold hR (OB.hold hR (OB.hold hR (l := []) h c1 T1 rfl) c2 T2 (by simp)) c3 T3 (by simp)
theorem ob4 {w0 w : World} {R : Ass} (hR : R.Good) (h : At w0 R w) (c1 c2 c3 c4 : Array Value) (T1 T2 T3 T4 : TypeId) :
    At w0 (OB [(w.heap.size, c1, T1), (w.heap.size + 1, c2, T2), (w.heap.size + 1 + 1, c3, T3), (w.heap.size + 1 + 1 + 1, c4, T4)] R) ((((w.alloc (.cells c1 T1)).alloc (.cells c2 T2)).alloc (.cells c3 T3)).alloc (.cells c4 T4)) :=
  OB.hold hR (ob3 hR h c1 c2 c3 T1 T2 T3) c4 T4 (by simp)
/-- A user's cells in a row of one's own. -/
theorem usEl {w0 w : World} {C : Ass} {g n cap : Nat} {es : List Us} (h : At w0 ((rowE TUs 9 (.slice (some ⟨g, 0, Option.none⟩) n cap) es.length (usCells es)).star C) w) {k : Nat} (hk : k < es.length) {x : Us} (hx : es.getD k Us.none = x) :
    w.cell? ⟨g, k * 9, Option.none⟩ = some (.int .i64 x.u) ∧ w.cell? ⟨g, k * 9 + 1, Option.none⟩ = some (.int .i64 x.k) ∧ w.cell? ⟨g, k * 9 + 2, Option.none⟩ = some (.int .i64 x.s) ∧ w.cell? ⟨g, k * 9 + 3, Option.none⟩ = some (.int .i64 x.q) ∧ w.cell? ⟨g, k * 9 + 4, Option.none⟩ = some (.int .i64 x.used) ∧ w.cell? ⟨g, k * 9 + 5, Option.none⟩ = some (.int .i64 x.lf) ∧ w.cell? ⟨g, k * 9 + 6, Option.none⟩ = some (.int .i64 x.lu) ∧ w.cell? ⟨g, k * 9 + 7, Option.none⟩ = some (.int .i64 x.st) ∧ w.cell? ⟨g, k * 9 + 8, Option.none⟩ = some (.int .i64 x.g) ∧ (∀ j, w.frozen? ⟨g, j, Option.none⟩ = false) ∧ g < w.heap.size := by
  subst hx
  obtain ⟨h1, h2⟩ := usAt_row h
  have h3 := h1.elem hk
  simp only [Nat.zero_add] at h3
  obtain ⟨a0, a1, a2, a3, a4, a5, a6, a7, a8⟩ := h3
  have hr := h.erow
  obtain ⟨a3', c3, e3⟩ := rowE_shape hr
  obtain ⟨rfl, rfl, rfl⟩ : some ⟨g, 0, Option.none⟩ = a3' ∧ n = es.length ∧ cap = c3 := by simpa using e3
  exact ⟨a0, a1, a2, a3, a4, a5, a6, a7, a8, fun j => hr.frozenAt j, h2⟩
end Go.Proofs.Ytopkcaflmpjhgaa
