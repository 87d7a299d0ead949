/- Rows of one-cell values that the call itself makes, beside what else there is; rows of numbers. No condition. -/
import Derived.Test.YtikdnmbbiipbjaaProg
import Derived.Test.YtikdnmbbiipbjaaSep
import Derived.Test.YtikdnmbbiipbjaaIArg
import Derived.IntWalk
import Derived.OwnWalk
import Derived.Maps.AppendAt
namespace Go.Proofs.Ytikdnmbbiipbjaa
open Go Go.RowKit Go.Maps

theorem infoRI : (Try.prog.info? 3).map (fun i => (i.zero, i.size, i.bytes)) = some (some (.int .i64 0), 1, 8) := by kernel_rfl

/-- A row of one-cell values that the call itself makes. -/
def rowA (e : TypeId) (v : Value) (xs : List Value) : Ass := fun w F => w.ownsRow 0 e 1 v xs.length xs ∧ F = v.ownBlock.toList
theorem rowA_good (e : TypeId) (v : Value) (xs : List Value) : (rowA e v xs).Good := by
  rintro w F ⟨h, rfl⟩
  refine ⟨fun k hk => (h.lt k (Option.mem_toList.1 hk)).2, fun w' hw' => ⟨⟨h.1, ?_⟩, rfl⟩⟩
  rcases h.2 with hn | ⟨g, cap, cur, rfl, hb, hgg, rest⟩
  · exact .inl hn
  · exact .inr ⟨g, cap, cur, rfl, hb, (hw' g (by simp [Value.ownBlock])).trans hgg, rest⟩
theorem At.row {e : TypeId} {v : Value} {xs : List Value} {C : Ass} {w0 w : World} (h : At w0 ((rowA e v xs).star C) w) : w.ownsRow 0 e 1 v xs.length xs := by
  obtain ⟨_, ⟨_, _, _, ⟨h, _⟩, _⟩, _⟩ := h
  exact h
theorem At.row0 (e : TypeId) {C : Ass} {w0 w : World} (h : At w0 C w) : At w0 ((rowA e (.slice Option.none 0 0) []).star C) w := by
  obtain ⟨F, h1, h2, h3⟩ := h
  exact ⟨F, ⟨[], F, rfl, ⟨World.ownsRow_nil _ _ _ _, rfl⟩, h1, fun k hk => by cases hk⟩, h2, h3⟩
theorem At.appended {e : TypeId} {v v' : Value} {xs ys : List Value} {C : Ass} {w0 w w2 : World} (hC : C.Good) (h : At w0 ((rowA e v xs).star C) w) (hg : w.grownBy w2 v.ownBlock) (hr : w2.ownsRow 0 e 1 v' ys.length ys)
    (hloc : v'.ownBlock = v.ownBlock ∨ ∃ k, w.heap.size ≤ k ∧ v'.ownBlock = some k) : At w0 ((rowA e v' ys).star C) w2 := by
  obtain ⟨F, ⟨F1, F2, rfl, ⟨h1, rfl⟩, h2, hd⟩, hB, hb⟩ := h
  have hbec : Becomes v.ownBlock.toList (rowA e v' ys) w w2 := by
    refine ⟨_, ⟨hr, rfl⟩, (Tn.refl _ _).grown hg (fun k hk => .inl (Option.mem_toList.2 hk)), fun k hk => ?_⟩
    have hk' := Option.mem_toList.1 hk
    rcases hloc with c | ⟨j, hj, c⟩
    · rw [c] at hk'; exact .inl (Option.mem_toList.2 hk')
    · rw [c] at hk'; cases hk'; exact .inr hj
  obtain ⟨F', g1, g2, g3⟩ := hbec.frameL hC h2 hd
  refine ⟨F', g1, fun k hk => ?_, hb.trans (g2.below hB hb.size)⟩
  rcases g3 k hk with c | c
  · exact hB k c
  · exact Nat.le_trans hb.size c

abbrev vals (ns : List Int) : List Value := ns.map (Value.int .i64)
theorem rowI_shape {w : World} {v : Value} {n : Nat} {xs : List Value} (h : w.ownsRow 0 3 1 v n xs) : ∃ ao cap, v = .slice ao n cap := by
  rcases h.2 with ⟨rfl, h0⟩ | ⟨g, cap, _, rfl, _⟩
  · exact ⟨Option.none, 0, by rw [h0]⟩
  · exact ⟨_, cap, rfl⟩
/-- The cell of a row of numbers. -/
theorem At.num {v : Value} {ns : List Int} {C : Ass} {w0 w : World} (h : At w0 ((rowA 3 v (vals ns)).star C) w) {j : Nat} (hj : j < ns.length) : ∃ g cap, v = .slice (some ⟨g, 0, Option.none⟩) ns.length cap ∧ w.cell? ⟨g, j, Option.none⟩ = some (.int .i64 (ns.getD j 0)) := by
  have hr := h.row
  rcases hr.2 with ⟨rfl, h0⟩ | ⟨g, cap, _, rfl, _⟩
  · simp at h0; subst h0; cases hj
  · refine ⟨g, cap, by simp, ?_⟩
    have hc := hr.cells (g := g) rfl j (.int .i64 (ns.getD j 0)) (by simp [List.getD, hj])
    rw [Addr.add_lit, Nat.zero_add] at hc
    exact hc

theorem app_int {w0 W : World} {C : Ass} (hC : C.Good) {ops : Array Oper} {rest : List Oper} {o : Oper} {a : Act} {Q : Exit → Act → World → Prop} (hgd : o.guard = Option.none) (s x : Operand)
    (ho : o.op = .call { callee := .builtin .append, args := #[s, x], argTypes := #[41, 41] }) (v : Value) (ns : List Int) (c : Int) (hs : a.eval s = v) (hx : a.eval x = .slice (some ⟨W.heap.size, 0, Option.none⟩) 1 1)
    (hS : At w0 ((rowA 3 v (vals ns)).star C) W) (hn : ns.length ≤ 1000) (h : ∀ v' w', At w0 ((rowA 3 v' (vals (ns ++ [c]))).star C) w' → wpList Try.prog ops Q rest (a.put o.dst v') w') :
    wpList Try.prog ops Q (o :: rest) a (W.alloc (.cells #[.int .i64 c] 3)) := by
  obtain ⟨i, hi, hz0, hz1, hz2⟩ := info_parts infoRI
  have hl : (vals ns).length = ns.length := List.length_map ..
  refine wpList_append_own_at _ hgd s x 41 ho 0 3 i (.int .i64 0) 1 8 Try.underlying41 hi hz0 hz1 hz2 rfl (by decide) v _ _ hs (hS.row.alloc _) ⟨W.heap.size, 0, Option.none⟩ 1 1 [.int .i64 c] hx rfl (cell_one_new _ _ _) ?_ ?_ ?_ (Nat.zero_le _) ?_
  · intro u hu; simp at hu; subst hu; rfl
  · rw [hl]; unfold maxLen; omega
  · rw [hl]; omega
  · intro v' w' h1 h2 _ h4
    have hg := (World.grownBy_alloc W (.cells #[.int .i64 c] 3) _).trans h2
    refine h v' w' (At.appended hC hS hg ?_ ?_)
    · have e : vals (ns ++ [c]) = vals ns ++ [.int .i64 c] := List.map_append ..
      rw [e, List.length_append]; exact h1
    · rcases h4 with e | e
      · exact .inl e
      · exact .inr ⟨_, by simp, e⟩
end Go.Proofs.Ytikdnmbbiipbjaa
