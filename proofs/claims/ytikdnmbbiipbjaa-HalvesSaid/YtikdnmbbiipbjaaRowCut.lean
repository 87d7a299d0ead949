/- A row of one's own: cut, appended to in its place, its cells behind the cut cleared. No program is named. -/
import Derived.Test.YtikdnmbbiipbjaaRowE
import Derived.Laws.OwnMore
import Derived.Deep.RegionLaw
import Derived.Deep.RegionWith
namespace Go.Proofs.Ytikdnmbbiipbjaa
open Go Go.RowKit Go.Maps

section
variable {P : Program} {e : TypeId} {K g n c : Nat} {xs : List Value} {C : Ass} {w0 w : World}
theorem At.rowCut (h : At w0 ((rowE e K (.slice (some ⟨g, 0, Option.none⟩) n c) n xs).star C) w) {i : Nat} (hi : i ≤ n) : At w0 ((rowE e K (.slice (some ⟨g, 0, Option.none⟩) i c) i (xs.take (i * K))).star C) w := by
  obtain ⟨F, ⟨F1, F2, rfl, ⟨h1, rfl⟩, g2, g3⟩, hB, hb⟩ := h
  refine ⟨_, ⟨_, F2, rfl, ⟨?_, rfl⟩, g2, fun k hk => g3 k (by simpa [Value.ownBlock] using hk)⟩, fun k hk => hB k (by simpa [Value.ownBlock] using hk), hb⟩
  obtain ⟨l1, r1⟩ := h1
  have hik : i * K ≤ n * K := Nat.mul_le_mul_right _ hi
  refine ⟨by rw [List.length_take]; omega, ?_⟩
  rcases r1 with ⟨c1, _⟩ | ⟨g', c', cur, c1, hbg, hg, hnc, hcm, hcs, htk⟩
  · simp at c1
  · simp only [Value.slice.injEq, Option.some.injEq, Addr.mk.injEq, and_true, true_and] at c1
    obtain ⟨rfl, rfl⟩ := c1
    refine .inr ⟨g, c, cur, rfl, hbg, hg, by omega, hcm, hcs, ?_⟩
    rw [← htk, List.take_take, Nat.min_eq_left hik]
theorem At.fits {i : TypeInfo} {t ty : TypeId} (ht : P.underlying t = some (.slice e)) (hi : P.info? e = some i) (hsize : i.size = K) (hC : C.Good) (h : At w0 ((rowE e K (.slice (some ⟨g, 0, Option.none⟩) n c) n xs).star C) w)
    {a : Addr} {m c2 : Nat} {news : List Value} (hl : news.length = m * K) (hnews : ∀ j u, news[j]? = some u → w.cell? (a.add j) = some u) (h1 : ∀ u ∈ news, u.oneCell' = true) (hroom : n + m ≤ c) :
    ∃ w', (Builtin.append_ #[t, t] ty #[.slice (some ⟨g, 0, Option.none⟩) n c, .slice (some a) m c2]).run P w = .ok (.slice (some ⟨g, 0, Option.none⟩) (n + m) c) w' ∧ At w0 ((rowE e K (.slice (some ⟨g, 0, Option.none⟩) (n + m) c) (n + m) (xs ++ news)).star C) w' := by
  obtain ⟨w', hr, hrow, hgr⟩ := run_append_fits (P := P) w 0 t ty e i K ht hi hsize g n c xs h.erow a m c2 news hl hnews h1 hroom
  exact ⟨w', hr, h.appendedE hC hgr hrow (.inl rfl)⟩
theorem At.cleared {t ty : TypeId} {z : Value} {vs : List Value} (ht : P.underlying t = some (.slice e)) (hv : ∀ w, (zeroValue e).run P w = .ok z w) (hC : C.Good) (h : At w0 ((rowE e K (.slice (some ⟨g, 0, Option.none⟩) n c) n xs).star C) w)
    {m c2 : Nat} (hz : (Builtin.zeroCells z.cells (m + 1)).toList = vs) (hvs : vs.length = (m + 1) * K) (h1 : ∀ u ∈ vs, u.oneCell' = true) (hroom : n + (m + 1) ≤ c) :
    ∃ w', (Builtin.clear_ #[t] ty #[.slice (some ⟨g, n * K, Option.none⟩) (m + 1) c2]).run P w = .ok (.tuple #[]) w' ∧ At w0 ((rowE e K (.slice (some ⟨g, 0, Option.none⟩) n c) n xs).star C) w' := by
  obtain ⟨l1, r1⟩ := h.erow
  rcases r1 with ⟨c1, _⟩ | ⟨g', c', cur, c1, hbg, hg, hnc, hcm, hcs, htk⟩
  · simp at c1
  · simp only [Value.slice.injEq, Option.some.injEq, Addr.mk.injEq, and_true, true_and] at c1
    obtain ⟨rfl, rfl⟩ := c1
    have hfit : n * K + vs.length ≤ cur.size := by rw [hvs, hcs, ← Nat.add_mul]; exact Nat.mul_le_mul_right _ hroom
    have hst := run_storeCells_at P g (n * K) e vs 0 cur w hg (by simpa using hfit) h1
    simp only [Nat.add_zero] at hst
    refine ⟨_, by simp [Builtin.clear_, run_underlying ht, hv, hz, hst]; rfl, ?_⟩
    refine h.appendedE hC ⟨rfl, rfl, rfl, by simp, fun k _ hk => setRow_other w g k _ (fun e => hk (by simp [Value.ownBlock, e]))⟩ ⟨l1, .inr ⟨g, c, _, rfl, hbg, setRow_heap w g cur _ e _ hg, hnc, hcm, ?_, ?_⟩⟩ (.inl rfl)
    · simp only [List.size_toArray, List.length_append, List.length_take, List.length_drop, Array.length_toList]
      omega
    · show List.take (n * K) (List.take (n * K) cur.toList ++ (vs ++ List.drop (n * K + vs.length) cur.toList)) = xs
      rw [List.take_append_of_le_length (by rw [List.length_take, Array.length_toList]; omega), List.take_take, Nat.min_self]
      exact htk
/-- At a step of a region that draws: an append whose run is known. -/
theorem step_app_run {ops : Array Oper} {o : Oper} {a : Act} {w' : World} {T : Act → World → Prop} {Q : Exit → Act → World → Prop} {E : Prop} (hgd : o.guard = Option.none) (s x : Operand) (t : TypeId)
    (ho : o.op = .call { callee := .builtin .append, args := #[s, x], argTypes := #[t, t] }) {v u v' : Value} (hs : a.eval s = v) (hx : a.eval x = u) (hr : (Builtin.append_ #[t, t] o.type #[v, u]).run P w = .ok v' w') (h : T (a.put o.dst v') w') :
    if Region.wanted o (yielded ops a.tmps) = true then Oper.wp P o a w T Q else E := by
  have hw : Region.wanted o (yielded ops a.tmps) = true := by simp [Region.wanted, hgd]
  rw [if_pos hw]
  unfold Oper.wp execOp
  simp only [ho, resolve, invoke, builtin, Sem.run_bind, Sem.run_pure, Result.andThen_ok, List.map_toArray, List.map_cons, List.map_nil, hs, hx, hr]
  exact h
end
end Go.Proofs.Ytikdnmbbiipbjaa
