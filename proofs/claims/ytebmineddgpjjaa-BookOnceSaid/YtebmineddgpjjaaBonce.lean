/- The walk of BookOnce: at every row of terms it answers true. No condition. -/
import Derived.Test.YtebmineddgpjjaaBarg
import Derived.Test.YtebmineddgpjjaaBplain2
import Derived.IntWalk
namespace Go.Proofs.Ytebmineddgpjjaa
open Go Go.RowKit Go.Maps

theorem infoI : (Try.prog.info? 3).map (fun i => (i.zero, i.size, i.bytes)) = some (some (.int .i64 0), 1, 8) := by kernel_rfl

/-- A row of one-cell values that the call itself makes. -/
def rowA (e : TypeId) (v : Value) (xs : List Value) : Ass := fun w F => w.ownsRow 0 e 1 v xs.length xs ∧ F = v.ownBlock.toList
theorem rowA_good (e : TypeId) (v : Value) (xs : List Value) : (rowA e v xs).Good := by
  rintro w F ⟨h, rfl⟩
  refine ⟨fun k hk => (h.lt k (Option.mem_toList.1 hk)).2, fun w' hw' => ⟨⟨h.1, ?_⟩, rfl⟩⟩
  rcases h.2 with hn | ⟨g, cap, cur, rfl, hb, hgg, rest⟩
  · exact .inl hn
  · exact .inr ⟨g, cap, cur, rfl, hb, (hw' g (by simp [Value.ownBlock])).trans hgg, rest⟩
theorem At.row {e : TypeId} {v : Value} {xs : List Value} {C : Ass} {w0 w : World} (h : At w0 ((rowA e v xs).star C) w) : w.ownsRow 0 e 1 v xs.length xs := by
  obtain ⟨_, ⟨_, _, _, ⟨h, _⟩, _⟩, _⟩ := h
  exact h
theorem At.row0 (e : TypeId) {C : Ass} {w0 w : World} (h : At w0 C w) : At w0 ((rowA e (.slice Option.none 0 0) []).star C) w := by
  obtain ⟨F, h1, h2, h3⟩ := h
  exact ⟨F, ⟨[], F, rfl, ⟨World.ownsRow_nil _ _ _ _, rfl⟩, h1, fun k hk => by cases hk⟩, h2, h3⟩
theorem At.appended {e : TypeId} {v v' : Value} {xs ys : List Value} {C : Ass} {w0 w w2 : World} (hC : C.Good) (h : At w0 ((rowA e v xs).star C) w) (hg : w.grownBy w2 v.ownBlock) (hr : w2.ownsRow 0 e 1 v' ys.length ys)
    (hloc : v'.ownBlock = v.ownBlock ∨ ∃ k, w.heap.size ≤ k ∧ v'.ownBlock = some k) : At w0 ((rowA e v' ys).star C) w2 := by
  obtain ⟨F, ⟨F1, F2, rfl, ⟨h1, rfl⟩, h2, hd⟩, hB, hb⟩ := h
  have hbec : Becomes v.ownBlock.toList (rowA e v' ys) w w2 := by
    refine ⟨_, ⟨hr, rfl⟩, (Tn.refl _ _).grown hg (fun k hk => .inl (Option.mem_toList.2 hk)), fun k hk => ?_⟩
    have hk' := Option.mem_toList.1 hk
    rcases hloc with c | ⟨j, hj, c⟩
    · rw [c] at hk'; exact .inl (Option.mem_toList.2 hk')
    · rw [c] at hk'; cases hk'; exact .inr hj
  obtain ⟨F', g1, g2, g3⟩ := hbec.frameL hC h2 hd
  refine ⟨F', g1, fun k hk => ?_, hb.trans (g2.below hB hb.size)⟩
  rcases g3 k hk with c | c
  · exact hB k c
  · exact Nat.le_trans hb.size c

/-- The name that a term was given: -1 where it may be none. -/
def nmOf (ts : List ByteArray) (s : ByteArray) : Int := if okT s then ((idx ts s : Nat) : Int) else -1
/-- What stands in names, of the terms so far. -/
structure Nms (ss ts : List ByteArray) (ns : List Int) (i : Nat) : Prop where
  len : ns.length = i
  at_ : ∀ j, j < i → ns.getD j 0 = nmOf ts (ss.getD j ⟨#[]⟩)
  mem : ∀ j, j < i → okT (ss.getD j ⟨#[]⟩) = true → ss.getD j ⟨#[]⟩ ∈ ts
theorem nmOf_keep {ts : List ByteArray} {most : Int} {s t : ByteArray} (h : okT t = true → t ∈ ts) : nmOf (nmT most ts s) t = nmOf ts t := by
  unfold nmOf
  by_cases hk : okT t = true
  · rw [if_pos hk, if_pos hk]
    unfold nmT
    split
    · split
      · rfl
      · split
        · rw [idx_snoc_other (h hk)]
        · rfl
    · rfl
  · rw [if_neg hk, if_neg hk]
theorem nmT_sub {ts : List ByteArray} {most : Int} {s t : ByteArray} (h : t ∈ ts) : t ∈ nmT most ts s := by
  unfold nmT
  split
  · split
    · exact h
    · split
      · simp [h]
      · exact h
  · exact h
theorem Nms.step {ss ts : List ByteArray} {ns : List Int} {i : Nat} {most : Int} {s : ByteArray} {x : Int} (h : Nms ss ts ns i) (hs : ss.getD i ⟨#[]⟩ = s) (hx : x = nmOf (nmT most ts s) s) (hm : okT s = true → s ∈ nmT most ts s) : Nms ss (nmT most ts s) (ns ++ [x]) (i + 1) := by
  refine ⟨by simp [h.len], fun j hj => ?_, fun j hj hk => ?_⟩
  · by_cases c : j = i
    · subst c
      rw [hs, ← hx]
      simp [List.getD, ← h.len]
    · have hj' : j < i := by omega
      have e := h.at_ j hj'
      have hl : j < ns.length := by rw [h.len]; exact hj'
      rw [nmOf_keep (h.mem j hj'), ← e, List.getD, List.getD, List.getElem?_append_left hl]
  · by_cases c : j = i
    · subst c; rw [hs] at hk ⊢; exact hm hk
    · exact nmT_sub (h.mem j (by omega) hk)
/-- What has been named so far. -/
def fwd2 (ss : List ByteArray) (i : Nat) (t : ByteArray) : Prop := ∃ j, j < i ∧ t = ss.getD j ⟨#[]⟩
theorem fwd2_zero (ss : List ByteArray) (t : ByteArray) : ¬ fwd2 ss 0 t := fun ⟨_, h, _⟩ => by omega
theorem fwd2_succ (ss : List ByteArray) (i : Nat) (t : ByteArray) : fwd2 ss (i + 1) t ↔ fwd2 ss i t ∨ t = ss.getD i ⟨#[]⟩ := by
  constructor
  · rintro ⟨j, h, e⟩
    by_cases c : j = i
    · subst c; exact .inr e
    · exact .inl ⟨j, by omega, e⟩
  · rintro (⟨j, h, e⟩ | e)
    · exact ⟨j, by omega, e⟩
    · exact ⟨i, by omega, e⟩
theorem nmT_self {most : Int} {ts : List ByteArray} {s : ByteArray} (hk : okT s = true) (hl : (ts.length : Int) < most) : s ∈ nmT most ts s := by
  unfold nmT
  rw [if_pos hk]
  split
  · exact (isB_iff _ _).1 (by assumption)
  · simp
theorem nmX_fnd {most : Int} {ts : List ByteArray} {s : ByteArray} (hk : okT s = true) (hl : (ts.length : Int) < most) : nmX most ts s = fnd (nmT most ts s) s := by
  by_cases hi : isB ts s = true
  · unfold nmX nmT; rw [if_pos hk, if_pos hi, if_pos hk, if_pos hi]; unfold fnd; rw [if_pos hi]
  · have hn : s ∉ ts := fun c => hi ((isB_iff _ _).2 c)
    unfold nmX nmT
    rw [if_pos hk, if_neg hi, if_pos hl, if_pos hk, if_neg hi, if_pos hl]
    unfold fnd
    rw [if_pos (by rw [isB_snoc]; simp), idx_snoc_new hn]
end Go.Proofs.Ytebmineddgpjjaa
