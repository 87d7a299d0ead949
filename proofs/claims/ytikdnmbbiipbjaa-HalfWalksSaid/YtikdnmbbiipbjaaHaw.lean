/- Plain mathematics for the laws of half-open logins: rows whose numbers rise, where one stands, what is left twice. No program is named. -/
import Derived.Test.YtikdnmbbiipbjaaHa
namespace Go.Proofs.Ytikdnmbbiipbjaa
open Go

theorem haLeft_twice {es : List Ha} {t u : Int} (h : t ≤ u) : haLeft (haLeft es t) u = haLeft es u := by
  unfold haLeft
  rw [List.filter_filter]
  congr 1
  funext a
  by_cases c : u < a.t
  · simp [c, show t < a.t by omega]
  · simp [c]
theorem haLeft_mem {es : List Ha} {t : Int} {a : Ha} (h : a ∈ haLeft es t) : a ∈ es ∧ t < a.t := by
  unfold haLeft at h
  rw [List.mem_filter] at h
  exact ⟨h.1, by simpa using h.2⟩
theorem haLeft_all {es : List Ha} {t : Int} (h : ∀ a ∈ es, t < a.t) : haLeft es t = es := by
  unfold haLeft
  exact List.filter_eq_self.2 fun a ha => by simpa using h a ha
theorem haLeft_self (es : List Ha) (t : Int) : haLeft (haLeft es t) t = haLeft es t := haLeft_twice (Int.le_refl t)
theorem haLeft_snoc {es : List Ha} {t : Int} {h : Ha} (ht : t < h.t) : haLeft (haLeft es t ++ [h]) t = haLeft es t ++ [h] :=
  haLeft_all fun a ha => by
    rcases List.mem_append.1 ha with c | c
    · exact (haLeft_mem c).2
    · rw [List.mem_singleton.1 c]; exact ht
theorem haLeft_cut {es : List Ha} {t : Int} (k : Nat) : haLeft ((haLeft es t).take k ++ (haLeft es t).drop (k + 1)) t = (haLeft es t).take k ++ (haLeft es t).drop (k + 1) :=
  haLeft_all fun a ha => by
    rcases List.mem_append.1 ha with c | c
    · exact (haLeft_mem (List.mem_of_mem_take c)).2
    · exact (haLeft_mem (List.mem_of_mem_drop c)).2
/-- Numbers that rise, all of them less than i. -/
def HaUp (es : List Ha) (i : Int) : Prop := es.Pairwise (fun a b => a.h < b.h) ∧ ∀ a ∈ es, a.h < i
theorem HaUp.nil (i : Int) : HaUp [] i := ⟨List.Pairwise.nil, fun a h => by cases h⟩
theorem HaUp.mono {es : List Ha} {i j : Int} (h : HaUp es i) (hij : i ≤ j) : HaUp es j := ⟨h.1, fun a ha => by have := h.2 a ha; omega⟩
theorem HaUp.left {es : List Ha} {i : Int} (h : HaUp es i) (t : Int) : HaUp (haLeft es t) i := ⟨h.1.filter _, fun a ha => h.2 a (haLeft_mem ha).1⟩
theorem HaUp.snoc {es : List Ha} {i : Int} (h : HaUp es i) {a : Ha} (ha : a.h = i) : HaUp (es ++ [a]) (i + 1) := by
  refine ⟨List.pairwise_append.2 ⟨h.1, List.pairwise_singleton _ _, fun x hx y hy => ?_⟩, fun x hx => ?_⟩
  · rw [List.mem_singleton.1 hy, ha]; exact h.2 x hx
  · rcases List.mem_append.1 hx with c | c
    · have := h.2 x c; omega
    · rw [List.mem_singleton.1 c, ha]; omega
theorem HaUp.cut {es : List Ha} {i : Int} (h : HaUp es i) (k : Nat) : HaUp (es.take k ++ es.drop (k + 1)) i := by
  have hs : (es.take k ++ es.drop (k + 1)).Sublist es := by
    have h1 : (es.take k ++ es.drop (k + 1)).Sublist (es.take k ++ es.drop k) := by
      refine List.Sublist.append (List.Sublist.refl _) ?_
      rw [← List.drop_drop]
      exact List.drop_sublist _ _
    rwa [List.take_append_drop] at h1
  exact ⟨h.1.sublist hs, fun a ha => h.2 a (hs.subset ha)⟩
/-- Where one stands; none: -1. -/
def haWh (k : Int) (es : List Ha) : Int := match haI k es 0 with | some i => (i : Int) | Option.none => -1
theorem haI_mem {k : Int} {l : List Ha} {i j : Nat} (h : haI k l i = some j) : i ≤ j ∧ j - i < l.length ∧ (l.getD (j - i) Ha.none).h = k := by
  induction l generalizing i with
  | nil => cases h
  | cons a r ih =>
    simp only [haI] at h
    by_cases e : a.h = k
    · rw [if_pos e] at h
      obtain rfl : i = j := by simpa using h
      exact ⟨Nat.le_refl _, by simp, by simpa using e⟩
    · rw [if_neg e] at h
      obtain ⟨h1, h2, h3⟩ := ih h
      refine ⟨by omega, by simp; omega, ?_⟩
      rw [show j - i = (j - (i + 1)) + 1 by omega]
      simpa using h3
theorem haI_app {k : Int} {l : List Ha} {i j : Nat} (h : haI k l i = some j) (m : List Ha) : haI k (l ++ m) i = some j := by
  induction l generalizing i with
  | nil => cases h
  | cons a r ih =>
    simp only [List.cons_append, haI] at h ⊢
    by_cases e : a.h = k
    · rwa [if_pos e] at h ⊢
    · rw [if_neg e] at h ⊢
      exact ih h
theorem HaUp.none {es : List Ha} {i : Int} (h : HaUp es i) {j : Nat} (hj : j < es.length) {a : Ha} (ha : es.getD j Ha.none = a) : haI a.h (es.take j) 0 = Option.none := by
  cases hc : haI a.h (es.take j) 0 with
  | none => rfl
  | some q =>
    exfalso
    obtain ⟨_, h2, h3⟩ := haI_mem hc
    rw [Nat.sub_zero] at h2 h3
    rw [List.length_take] at h2
    have hq : q < j := by omega
    have e1 : (es.take j).getD q Ha.none = es[q] := by simp [List.getD, hq, show q < es.length by omega]
    have e2 : a = es[j] := by rw [← ha]; simp [List.getD, hj]
    rw [e1] at h3
    have := List.pairwise_iff_getElem.1 h.1 q j (by omega) hj hq
    rw [e2] at h3
    omega
theorem haWh_zero (k : Int) (es : List Ha) : haWh k (es.take 0) = -1 := rfl
theorem haWh_hit {es : List Ha} {i : Int} (h : HaUp es i) {j : Nat} (hj : j < es.length) {a : Ha} (ha : es.getD j Ha.none = a) : haWh a.h (es.take (j + 1)) = (j : Int) := by
  have hn := h.none hj ha
  have e : haI a.h (es.take (j + 1)) 0 = some j := by
    have ht : (es.take (j + 1)).take j = es.take j := by rw [List.take_take, Nat.min_eq_left (by omega)]
    refine haI_hit (k := j) (by rw [List.length_take]; omega) (a := a) ?_ (by rw [ht]; exact hn) rfl
    rw [← ha]
    simp [List.getD]
  unfold haWh
  rw [e]
theorem haWh_miss {es : List Ha} {j : Nat} (hj : j < es.length) {a : Ha} (ha : es.getD j Ha.none = a) {k : Int} (hk : ¬ a.h = k) : haWh k (es.take (j + 1)) = haWh k (es.take j) := by
  unfold haWh
  cases hc : haI k (es.take j) 0 with
  | none => rw [haI_none_take hj ha hc hk]
  | some q =>
    have e : es.take (j + 1) = es.take j ++ [es[j]] := List.take_succ_eq_append_getElem hj
    rw [e, haI_app hc]
/-- One that is there. -/
theorem haWh_some {k : Int} {es : List Ha} {t : Int} (h : 0 ≤ haWh k (haLeft es t)) : ∃ j, haI k (haLeft es t) 0 = some j ∧ haWh k (haLeft es t) = (j : Int) ∧ j < (haLeft es t).length ∧ haTE es k t = 0 ∧ haTX es k t = (haLeft es t).getD j Ha.none ∧ haTL es k t = (haLeft es t).take j ++ (haLeft es t).drop (j + 1) := by
  unfold haWh at h ⊢
  cases hc : haI k (haLeft es t) 0 with
  | none => rw [hc] at h; simp at h
  | some j =>
    obtain ⟨_, h2, _⟩ := haI_mem hc
    refine ⟨j, rfl, rfl, by simpa using h2, ?_, ?_, ?_⟩
    · unfold haTE; rw [hc]; rfl
    · unfold haTX; rw [hc]
    · unfold haTL; rw [hc]
theorem haWh_none {k : Int} {es : List Ha} {t : Int} (h : haWh k (haLeft es t) < 0) : haTE es k t = 1802 ∧ haTX es k t = Ha.none ∧ haTL es k t = [] := by
  unfold haWh at h
  cases hc : haI k (haLeft es t) 0 with
  | some j => rw [hc] at h; simp at h; omega
  | none =>
    refine ⟨?_, ?_, ?_⟩
    · unfold haTE; rw [hc]; rfl
    · unfold haTX; rw [hc]
    · unfold haTL; rw [hc]
/-- Adding: there is room, or there is none. -/
theorem haAdd_full {es : List Ha} {h : Ha} {m t : Int} (m1 : 1 ≤ m) (m2 : m ≤ 8) (ht : t < h.t) (hf : m ≤ ((haLeft es t).length : Int)) : haAE es h m t = 1801 ∧ haAL es h m t = [] := by
  have e : haAE es h m t = 1801 := by
    unfold haAE haOk
    simp [m1, m2, ht, hf]
  exact ⟨e, by unfold haAL; rw [e]; rfl⟩
theorem haAdd_room {es : List Ha} {h : Ha} {m t : Int} (m1 : 1 ≤ m) (m2 : m ≤ 8) (ht : t < h.t) (hf : ((haLeft es t).length : Int) < m) : haAE es h m t = 0 ∧ haAL es h m t = haLeft es t ++ [h] := by
  have e : haAE es h m t = 0 := by
    unfold haAE haOk
    simp [m1, m2, ht, show ¬ m ≤ ((haLeft es t).length : Int) by omega]
  exact ⟨e, by unfold haAL; rw [e]; rfl⟩
end Go.Proofs.Ytikdnmbbiipbjaa
