/- Rows of texts that the call itself makes, beside what else there is. No condition. -/
import Derived.Test.YtlnliphejjfdeaaRowA
namespace Go.Proofs.Ytlnliphejjfdeaa
open Go Go.RowKit Go.Maps

theorem infoT' : (Try.prog.info? 9).map (fun i => (i.zero, i.size, i.bytes)) = some (some (.string ⟨#[]⟩), 1, 16) := by kernel_rfl
abbrev strs' (ns : List ByteArray) : List Value := ns.map Value.string
theorem rowI_shape' {w : World} {v : Value} {n : Nat} {xs : List Value} (h : w.ownsRow 0 9 1 v n xs) : ∃ ao cap, v = .slice ao n cap := by
  rcases h.2 with ⟨rfl, h0⟩ | ⟨g, cap, _, rfl, _⟩
  · exact ⟨Option.none, 0, by rw [h0]⟩
  · exact ⟨_, cap, rfl⟩
/-- The cell of a row of texts. -/
theorem At.str {v : Value} {ns : List ByteArray} {C : Ass} {w0 w : World} (h : At w0 ((rowA 9 v (strs' ns)).star C) w) {j : Nat} (hj : j < ns.length) : ∃ g cap, v = .slice (some ⟨g, 0, Option.none⟩) ns.length cap ∧ w.cell? ⟨g, j, Option.none⟩ = some (.string (ns.getD j ⟨#[]⟩)) := by
  have hr := h.row
  rcases hr.2 with ⟨rfl, h0⟩ | ⟨g, cap, _, rfl, _⟩
  · simp at h0; subst h0; cases hj
  · refine ⟨g, cap, by simp, ?_⟩
    have hc := hr.cells (g := g) rfl j (.string (ns.getD j ⟨#[]⟩)) (by simp [List.getD, hj])
    rw [Addr.add_lit, Nat.zero_add] at hc
    exact hc

theorem app_str {w0 W : World} {C : Ass} (hC : C.Good) {ops : Array Oper} {rest : List Oper} {o : Oper} {a : Act} {Q : Exit → Act → World → Prop} (hgd : o.guard = Option.none) (s x : Operand)
    (ho : o.op = .call { callee := .builtin .append, args := #[s, x], argTypes := #[50, 50] }) (v : Value) (ns : List ByteArray) (c : ByteArray) (hs : a.eval s = v) (hx : a.eval x = .slice (some ⟨W.heap.size, 0, Option.none⟩) 1 1)
    (hS : At w0 ((rowA 9 v (strs' ns)).star C) W) (hn : ns.length ≤ 1000) (h : ∀ v' w', At w0 ((rowA 9 v' (strs' (ns ++ [c]))).star C) w' → wpList Try.prog ops Q rest (a.put o.dst v') w') :
    wpList Try.prog ops Q (o :: rest) a (W.alloc (.cells #[.string c] 9)) := by
  obtain ⟨i, hi, hz0, hz1, hz2⟩ := info_parts infoT'
  have hl : (strs' ns).length = ns.length := List.length_map ..
  refine wpList_append_own_at _ hgd s x 50 ho 0 9 i (.string ⟨#[]⟩) 1 16 Try.underlying50 hi hz0 hz1 hz2 rfl (by decide) v _ _ hs (hS.row.alloc _) ⟨W.heap.size, 0, Option.none⟩ 1 1 [.string c] hx rfl (cell_one_new _ _ _) ?_ ?_ ?_ (Nat.zero_le _) ?_
  · intro u hu; simp at hu; subst hu; rfl
  · rw [hl]; unfold maxLen; omega
  · rw [hl]; omega
  · intro v' w' h1 h2 _ h4
    have hg := (World.grownBy_alloc W (.cells #[.string c] 9) _).trans h2
    refine h v' w' (At.appended hC hS hg ?_ ?_)
    · have e : strs' (ns ++ [c]) = strs' ns ++ [.string c] := List.map_append ..
      rw [e, List.length_append]; exact h1
    · rcases h4 with e | e
      · exact .inl e
      · exact .inr ⟨_, by simp, e⟩
end Go.Proofs.Ytlnliphejjfdeaa
