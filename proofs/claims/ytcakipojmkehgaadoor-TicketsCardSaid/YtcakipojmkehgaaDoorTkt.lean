/- Package ticket's Get: what it answers. Conditions: the handle of the type error, numbers of 64 bits. -/
import Derived.Test.YtcakipojmkehgaaDoorTks
namespace Go.Proofs.YtcakipojmkehgaaDoor
open Go Go.RowKit

theorem below_drewn {B : Nat} {w Z : World} (h : Below B w Z) : Below B w Z.drew := ⟨h.os, h.tape, h.output, h.size, h.block⟩
theorem TO.drewn {w W : World} (h : TO w W) (x0 x1 x2 x3 x4 : Value) : Below w.heap.size w (((((W.setCell ⟨w.heap.size, 0, none⟩ x0).setCell ⟨w.heap.size, 1, none⟩ x1).setCell ⟨w.heap.size, 2, none⟩ x2).setCell ⟨w.heap.size, 3, none⟩ x3).setCell ⟨w.heap.size, 4, none⟩ x4).drew := by
  refine below_drewn ?_
  repeat (with_reducible refine Below.setCell ?_ (by simp) _)
  exact h.gr.below
set_option maxRecDepth 100000 in
set_option maxHeartbeats 8000000 in
theorem tkfind_bad (p : Nat) (now keep tag : Int) (hB : tgB now keep = false) (w : World) (hg : Gd w) :
    Calls Tryd.prog 28 #[.pointer (some ⟨p, 0, none⟩), .int .i64 now, .int .i64 keep, .int .i64 tag] w fun r w' => ∃ v, r = .returned (.tuple #[Bd.zero.val, v]) ∧ Er w' v 1500 ∧ Below w.heap.size w w' := by
  have hT := TO.start hg
  unfold Bd.zero Bd.val
  cases h1 : okNum now with
  | false =>
    have HU1 := Lib.hid (fun w => tkupN now false h1 w)
    clear h1 hB hg
    go_enter Tryd.func28, Tryd.ntmps28
    go_wp2_with (first
      | (go_at_call 46; (with_reducible refine (HU1.out _).mono ?_); rintro r w1 ⟨rfl, rfl⟩)
      | (go_at_call 36; (with_reducible refine (tkflt _ _ _ _).mono ?_); rintro e w3 ⟨fb, rfl, hfc, hb⟩; replace hT := hT.step hb; have e0 := hT.b0.cell; have g0 := hT.b0.froz; have l0 := hT.b0.lt; clear hb))
    refine bodyPost_ret (v := .tuple #[.agg #[.int .i64 0, .int .i64 0, .int .i64 0, .int .i64 0, .int .i64 0], .iface 97 (.pointer (some ⟨fb, 0, none⟩))]) (by simp [results, Tryd.results28, go_sem, e0]) rfl ⟨_, rfl, tker_mk (by decide) (five_far _ _ _ _ _ hfc hT.b0 (by simp)), ?_⟩
    repeat (with_reducible refine Below.setCell ?_ (by simp) _)
    with_reducible exact hT.gr.below
  | true =>
    have h2 : (decide (0 ≤ keep) && decide (keep ≤ 4)) = false := by unfold tgB at hB; rw [h1] at hB; simpa using hB
    have HU1 := Lib.hid (fun w => tkupN now true h1 w)
    have HU2 := Lib.hid (fun w => tkup keep 4 false h2.symm w)
    clear h1 h2 hB hg
    go_enter Tryd.func28, Tryd.ntmps28
    go_wp2_with (first
      | (go_at_call 46; (first | (with_reducible refine (HU1.out _).mono ?_) | (with_reducible refine (HU2.out _).mono ?_)); rintro r w1 ⟨rfl, rfl⟩)
      | (go_at_call 36; (with_reducible refine (tkflt _ _ _ _).mono ?_); rintro e w3 ⟨fb, rfl, hfc, hb⟩; replace hT := hT.step hb; have e0 := hT.b0.cell; have g0 := hT.b0.froz; have l0 := hT.b0.lt; clear hb))
    refine bodyPost_ret (v := .tuple #[.agg #[.int .i64 0, .int .i64 0, .int .i64 0, .int .i64 0, .int .i64 0], .iface 97 (.pointer (some ⟨fb, 0, none⟩))]) (by simp [results, Tryd.results28, go_sem, e0]) rfl ⟨_, rfl, tker_mk (by decide) (five_far _ _ _ _ _ hfc hT.b0 (by simp)), ?_⟩
    repeat (with_reducible refine Below.setCell ?_ (by simp) _)
    with_reducible exact hT.gr.below
set_option maxRecDepth 100000 in
set_option maxHeartbeats 8000000 in
theorem tkfind_nil (now keep tag : Int) (w : World) (hg : Gd w) :
    Calls Tryd.prog 28 #[.pointer none, .int .i64 now, .int .i64 keep, .int .i64 tag] w fun r w' => ∃ v, r = .returned (.tuple #[Bd.zero.val, v]) ∧ Er w' v 1 ∧ Below w.heap.size w w' := by
  have hT := TO.start hg
  unfold Bd.zero Bd.val
  clear hg
  go_enter Tryd.func28, Tryd.ntmps28
  go_wp2_with (first
    | (go_at_call 36; (with_reducible refine (tkflt _ _ _ _).mono ?_); rintro e w3 ⟨fb, rfl, hfc, hb⟩; replace hT := hT.step hb; have e0 := hT.b0.cell; have g0 := hT.b0.froz; have l0 := hT.b0.lt; clear hb))
  refine bodyPost_ret (v := .tuple #[.agg #[.int .i64 0, .int .i64 0, .int .i64 0, .int .i64 0, .int .i64 0], .iface 97 (.pointer (some ⟨fb, 0, none⟩))]) (by simp [results, Tryd.results28, go_sem, e0]) rfl ⟨_, rfl, tker_mk (by decide) (five_far _ _ _ _ _ hfc hT.b0 (by simp)), ?_⟩
  repeat (with_reducible refine Below.setCell ?_ (by simp) _)
  with_reducible exact hT.gr.below
set_option maxRecDepth 100000 in
set_option maxHeartbeats 8000000 in
theorem tkget_of (pv : Value) (now keep tag E : Int) (D : Bd) (w : World) (hg : Gd w)
    (H : ∀ W, Below w.heap.size w W → Calls Tryd.prog 28 #[pv, .int .i64 now, .int .i64 keep, .int .i64 tag] W fun r w' => ∃ v n, r = .returned (.tuple #[D.val, v]) ∧ Er w' v n ∧ (okN n ∨ n = 1 ∨ n = 1500 ∨ n = 1400 ∨ n = 300) ∧ tkEn n = E ∧ Below W.heap.size W w') :
    Calls Tryd.prog 12 #[pv, .int .i64 now, .int .i64 keep, .int .i64 tag] w fun r w' => r = .returned (.tuple #[D.val, .int .i64 E]) ∧ Below w.heap.size w w' := by
  have hT := TO.start hg
  obtain ⟨u, g, x, s, k⟩ := D
  simp only [Bd.val] at H ⊢
  have HF := Lib.hid H
  clear H hg
  go_enter Tryd.func12, Tryd.ntmps12
  go_wp2_with (first
    | (go_at_call 28; (with_reducible refine (HF.out _ hT.gr.below).mono ?_); rintro r w1 ⟨v, n, rfl, hEr, hn, hE, hb⟩; replace hT := hT.step hb; have e0 := hT.b0.cell; have g0 := hT.b0.froz; have l0 := hT.b0.lt; clear hb))
  have hK : Blk (w1.alloc (.cells #[.int .i64 u, .int .i64 g, .int .i64 x, .int .i64 s, .int .i64 k] 34)) w1.heap.size _ := Blk.new _ _ _
  have hEr2 := hEr.below (balloc2 w1 (.cells #[.int .i64 u, .int .i64 g, .int .i64 x, .int .i64 s, .int .i64 k] 34))
  subst hE
  replace hT := hT.step (balloc2 w1 (.cells #[.int .i64 u, .int .i64 g, .int .i64 x, .int .i64 s, .int .i64 k] 34))
  clear e0 g0 l0 hEr
  generalize (w1.alloc (.cells #[.int .i64 u, .int .i64 g, .int .i64 x, .int .i64 s, .int .i64 k] 34)) = W at *
  generalize w1.heap.size = q at *
  have HE := Lib.hid (fun X (hb : Below W.heap.size W X) => tkerr (hEr2.below hb) hn)
  have hd : Below W.heap.size W W.drew := ⟨rfl, rfl, rfl, Nat.le_refl _, fun _ _ => rfl⟩
  have e0 := hT.b0.cell
  have g0 := hT.b0.froz
  have l0 := hT.b0.lt
  have e1 := hK.cell
  have g1 := hK.froz
  have e0' := (hT.step hd).b0.cell
  have g0' := (hT.step hd).b0.froz
  have e1' := (hK.step hd).cell
  first | (go_region_with (first
    | (go_at_call 24; (with_reducible refine (HE.out _ hd).mono ?_); rintro r w5 ⟨rfl, rfl⟩))) | fail
  all_goals
    go_wp2
    refine bodyPost_ret (v := .tuple #[.agg #[.int .i64 u, .int .i64 g, .int .i64 x, .int .i64 s, .int .i64 k], .int .i64 (tkEn n)]) (by simp [results, Tryd.results12, go_sem, e0]) rfl ⟨rfl, ?_⟩
    exact hT.drewn _ _ _ _ _
theorem tgE_of {ts : List ByteArray} {now keep tag n : Int} (hB : tgB now keep = true) (h : n = 0 ↔ (tgF ts now keep tag).isSome = true) (hk : okN n) : tkEn n = tgE ts now keep tag := by
  unfold tgE
  rw [if_pos hB]
  by_cases h0 : n = 0
  · rw [if_pos (h.1 h0), h0]; rfl
  · rw [if_neg (fun c => h0 (h.2 c))]
    rcases hk with e | e | e | e | e | e
    · exact absurd e h0
    all_goals (subst e; rfl)
/-- Get. -/
theorem tkget (p : Nat) (most : Int) (ts : List ByteArray) (now keep tag : Int) (w : World) (F : List Nat) (h : bookA p most ts w F) (hg : Gd w) :
    Calls Tryd.prog 12 #[.pointer (some ⟨p, 0, none⟩), .int .i64 now, .int .i64 keep, .int .i64 tag] w fun r w' => r = .returned (.tuple #[(tgX ts now keep tag).val, .int .i64 (tgE ts now keep tag)]) ∧ Below w.heap.size w w' := by
  cases hB : tgB now keep with
  | true =>
    rw [show tgX ts now keep tag = (tgF ts now keep tag).getD .zero by unfold tgX; rw [if_pos hB]]
    refine tkget_of _ now keep tag _ _ w hg fun W hb => (tkfind_ok p most ts now keep tag hB W F ((bookA_good p most ts).below h hb) (hg.below hb hg.pos)).mono ?_
    rintro r w' ⟨v, n, h1, h2, h3, h4, h5⟩
    exact ⟨v, n, h1, h2, .inl h4, tgE_of hB h3 h4, h5⟩
  | false =>
    rw [show tgX ts now keep tag = .zero by unfold tgX; rw [hB]; rfl, show tgE ts now keep tag = 1500 by unfold tgE; rw [hB]; rfl]
    refine tkget_of _ now keep tag _ _ w hg fun W hb => (tkfind_bad p now keep tag hB W (hg.below hb hg.pos)).mono ?_
    rintro r w' ⟨v, h1, h2, h3⟩
    exact ⟨v, 1500, h1, h2, .inr (.inr (.inl rfl)), rfl, h3⟩
theorem tkget_nil (now keep tag : Int) (w : World) (hg : Gd w) :
    Calls Tryd.prog 12 #[.pointer none, .int .i64 now, .int .i64 keep, .int .i64 tag] w fun r w' => r = .returned (.tuple #[Bd.zero.val, .int .i64 1]) ∧ Below w.heap.size w w' := by
  refine tkget_of _ now keep tag _ _ w hg fun W hb => (tkfind_nil now keep tag W (hg.below hb hg.pos)).mono ?_
  rintro r w' ⟨v, h1, h2, h3⟩
  exact ⟨v, 1, h1, h2, .inr (.inl rfl), rfl, h3⟩
/-- Get, as what keeps the book. -/
theorem dtget (p : Nat) (most : Int) (ts : List ByteArray) (now keep tag : Int) : DoesG Tryd.prog (bookA p most ts) 12 #[.pointer (some ⟨p, 0, none⟩), .int .i64 now, .int .i64 keep, .int .i64 tag] (.returned (.tuple #[(tgX ts now keep tag).val, .int .i64 (tgE ts now keep tag)])) (bookA p most ts) :=
  fun w F h hg => (tkget p most ts now keep tag w F h hg).mono fun _ _ ⟨a, b⟩ => ⟨a, bookA_same h b⟩
end Go.Proofs.YtcakipojmkehgaaDoor
