/- Plain mathematics of a row of namings: which terms a book holds behind them. No program is named. -/
import Derived.Test.YtcfibjfhmfdmkaaBplain
namespace Go.Proofs.Ytcfibjfhmfdmkaa

/-- The book holds, each once, just those that may be terms of those that were named. -/
structure Fs (ts : List ByteArray) (S : ByteArray → Prop) (n : Nat) : Prop where
  le : ts.length ≤ n
  nd : ts.Nodup
  mem : ∀ t, t ∈ ts ↔ okT t = true ∧ S t
theorem Fs_nil {S : ByteArray → Prop} (h : ∀ t, ¬ S t) : Fs [] S 0 := ⟨Nat.le_refl _, List.nodup_nil, fun t => by simp [h t]⟩
theorem Fs_step {most : Int} {ts : List ByteArray} {S S' : ByteArray → Prop} {n : Nat} {s : ByteArray} (h : Fs ts S n) (hn : (n : Int) < most) (hS : ∀ t, S' t ↔ S t ∨ t = s) : Fs (nmT most ts s) S' (n + 1) := by
  have hl := h.le
  by_cases hk : okT s = true
  · by_cases hi : isB ts s = true
    · rw [show nmT most ts s = ts by unfold nmT; rw [if_pos hk, if_pos hi]]
      refine ⟨by omega, h.nd, fun t => ?_⟩
      rw [h.mem, hS]
      constructor
      · rintro ⟨a, b⟩; exact ⟨a, .inl b⟩
      · rintro ⟨a, b | rfl⟩
        · exact ⟨a, b⟩
        · exact ⟨a, ((h.mem _).1 ((isB_iff _ _).1 hi)).2⟩
    · have hl2 : (ts.length : Int) < most := by omega
      have hi' : s ∉ ts := fun c => hi ((isB_iff _ _).2 c)
      rw [show nmT most ts s = ts ++ [s] by unfold nmT; rw [if_pos hk, if_neg hi, if_pos hl2]]
      refine ⟨by simp; omega, ?_, fun t => ?_⟩
      · rw [List.nodup_append]; exact ⟨h.nd, by simp, fun a ha b hb' => by simp at hb'; subst hb'; exact fun e => hi' (e ▸ ha)⟩
      · rw [List.mem_append, h.mem, hS]
        constructor
        · rintro (⟨a, b⟩ | b)
          · exact ⟨a, .inl b⟩
          · simp at b; subst b; exact ⟨hk, .inr rfl⟩
        · rintro ⟨a, b | rfl⟩
          · exact .inl ⟨a, b⟩
          · exact .inr (by simp)
  · rw [show nmT most ts s = ts by unfold nmT; rw [if_neg hk]]
    refine ⟨by omega, h.nd, fun t => ?_⟩
    rw [h.mem, hS]
    constructor
    · rintro ⟨a, b⟩; exact ⟨a, .inl b⟩
    · rintro ⟨a, b | rfl⟩
      · exact ⟨a, b⟩
      · exact absurd a hk
theorem nd_le {a b : List ByteArray} (h : a.Nodup) (hs : ∀ t ∈ a, t ∈ b) : a.length ≤ b.length := List.Nodup.length_le_of_subset h hs
theorem Fs_len {a b : List ByteArray} {S : ByteArray → Prop} {T : ByteArray → Prop} {n m : Nat} (h : Fs a S n) (k : Fs b T m) (e : ∀ t, S t ↔ T t) : a.length = b.length :=
  Nat.le_antisymm (nd_le h.nd fun t ht => (k.mem t).2 (by rw [← e]; exact (h.mem t).1 ht)) (nd_le k.nd fun t ht => (h.mem t).2 (by rw [e]; exact (k.mem t).1 ht))
/-- What Name answers where there is room: one of three. -/
theorem nm_cases (most : Int) (ts : List ByteArray) (s : ByteArray) (h : (ts.length : Int) < most) :
    (1 ≤ s.size ∧ s.size ≤ 512 ∧ okT s = true ∧ nmE most ts s = 0 ∧ 0 ≤ nmX most ts s) ∨ (s.size = 0 ∧ okT s = false ∧ nmE most ts s = 200 ∧ nmX most ts s = 0) ∨ (512 < s.size ∧ okT s = false ∧ nmE most ts s = 200 ∧ nmX most ts s = 0) := by
  by_cases hk : okT s = true
  · obtain ⟨a, b⟩ := (okT_iff _).1 hk
    refine .inl ⟨a, b, hk, ?_, ?_⟩
    · unfold nmE; rw [if_pos hk, if_pos h]; split <;> rfl
    · unfold nmX; rw [if_pos hk, if_pos h]; split <;> omega
  · have hf : okT s = false := by simpa using hk
    have hs : s.size = 0 ∨ 512 < s.size := by
      have h1 : ¬ (1 ≤ s.size ∧ s.size ≤ 512) := fun c => hk ((okT_iff _).2 c)
      omega
    have e1 : nmE most ts s = 200 := by unfold nmE; rw [if_neg hk]
    have e2 : nmX most ts s = 0 := by unfold nmX; rw [if_neg hk]
    rcases hs with a | a
    · exact .inr (.inl ⟨a, hf, e1, e2⟩)
    · exact .inr (.inr ⟨a, hf, e1, e2⟩)
theorem tmS_fnd {ts : List ByteArray} {s : ByteArray} (h : s ∈ ts) : tmS ts (fnd ts s) = s ∧ tmE ts (fnd ts s) = 0 := by
  have h1 := idx_lt h
  have h2 := idx_get h
  have e : fnd ts s = ((idx ts s : Nat) : Int) := by unfold fnd; rw [if_pos ((isB_iff _ _).2 h)]
  rw [e, tmS, tmE, if_pos (by omega), if_pos (by omega)]
  exact ⟨by simp [List.getD, h2], rfl⟩
end Go.Proofs.Ytcfibjfhmfdmkaa
