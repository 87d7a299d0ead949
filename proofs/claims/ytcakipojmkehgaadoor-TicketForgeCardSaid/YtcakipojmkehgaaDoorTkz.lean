/- Plain mathematics of tickets, further: what Put leaves where there is room; a ticket opens with its own epoch's key alone; full books. No program is named. -/
import Derived.Test.YtcakipojmkehgaaDoorTk
namespace Go.Proofs.YtcakipojmkehgaaDoor
open Go

theorem tmS_idx {ts : List ByteArray} {t : ByteArray} (h : t ∈ ts) : tmS ts ((idx ts t : Nat) : Int) = t ∧ tmE ts ((idx ts t : Nat) : Int) = 0 := by
  have hlt := idx_lt h
  have hg := idx_get h
  unfold tmS tmE
  rw [if_pos ⟨by omega, by omega⟩, if_pos ⟨by omega, by omega⟩]
  refine ⟨?_, rfl⟩
  rw [Int.toNat_natCast, List.getD, hg]; rfl
theorem idx_ext {ts l : List ByteArray} {t : ByteArray} (h : t ∈ ts) : idx (ts ++ l) t = idx ts t := by
  induction ts with
  | nil => cases h
  | cons a r ih =>
    by_cases h1 : a = t
    · simp [idx, h1]
    · have h2 : t ∈ r := by
        rcases List.mem_cons.1 h with e | e
        · exact absurd e.symm h1
        · exact e
      simp [idx, h1, ih h2]
theorem tmS_ext {ts l : List ByteArray} {n : Int} (h : tmE ts n = 0) : tmS (ts ++ l) n = tmS ts n ∧ tmE (ts ++ l) n = 0 := by
  unfold tmE at h
  split at h
  · rename_i c
    unfold tmS tmE
    have hl : (ts ++ l).length = ts.length + l.length := List.length_append
    rw [if_pos c, if_pos ⟨c.1, by omega⟩, if_pos ⟨c.1, by omega⟩]
    refine ⟨?_, rfl⟩
    rw [List.getD, List.getD, List.getElem?_append_left (by omega)]
  · cases h
/-- Naming a key where there is room. -/
theorem rg_room {most : Int} {ts : List ByteArray} {e : Int} (hr : (ts.length : Int) < most) (e0 : 0 ≤ e) (e1 : e ≤ 1073741823) :
    ∃ l, rgT most ts e = ts ++ l ∧ l.length ≤ 1 ∧ rgE most ts e = 0 ∧ epK e ∈ rgT most ts e ∧ rgX most ts e = ((idx (rgT most ts e) (epK e) : Nat) : Int) := by
  by_cases h : epK e ∈ ts
  · obtain ⟨g1, g2, g3⟩ := rg_old (most := most) e0 e1 h
    exact ⟨[], by rw [g3]; simp, by simp, g1, by rw [g3]; exact h, by rw [g2, g3]⟩
  · obtain ⟨g1, g2, g3⟩ := rg_new (most := most) e0 e1 h hr
    exact ⟨[epK e], g3, by simp, g1, by rw [g3]; simp, by rw [g2, g3, idx_snoc_new h]⟩
/-- A ticket's term. -/
def tkS (ts : List ByteArray) (e : Int) (t : Bd) : ByteArray := tmK cS (some ((idx ts (epK e) : Nat) : Int)) t.enc
theorem tkS_ok (ts : List ByteArray) (e : Int) (t : Bd) : okT (tkS ts e t) = true := tm_ok rfl _ (by have := t.enc_size; omega)
/-- Putting where there is room. -/
theorem tp_ok {most : Int} {ts : List ByteArray} {e : Int} {t : Bd} (hr : (ts.length : Int) + 2 ≤ most) (hl : ts.length ≤ 100000) (e0 : 0 ≤ e) (e1 : e ≤ 1073741823) (hm : t.may = true) :
    ∃ l, tpT most ts e t = ts ++ l ∧ l.length ≤ 2 ∧ tpE most ts e t = 0 ∧ epK e ∈ tpT most ts e t ∧ tkS (tpT most ts e t) e t ∈ tpT most ts e t ∧ tpX most ts e t = ((idx (tpT most ts e t) (tkS (tpT most ts e t) e t) : Nat) : Int) := by
  obtain ⟨l1, q1, q2, q3, q4, q5⟩ := rg_room (most := most) (ts := ts) (by omega) e0 e1
  have hlen : (rgT most ts e).length ≤ ts.length + 1 := by rw [q1, List.length_append]; omega
  have hk := idx_lt q4
  have hok : okK (some (rgX most ts e)) = true := by
    show okNum (rgX most ts e) = true
    rw [q5]; exact (okNum_iff _).2 ⟨by omega, by omega⟩
  have hS : tpS most ts e t = tkS (rgT most ts e) e t := by unfold tpS tkS; rw [q5]
  have hB : tpB most ts e t = true := by unfold tpB; rw [hm, q3]; rfl
  by_cases h : tkS (rgT most ts e) e t ∈ rgT most ts e
  · obtain ⟨x1, x2, x3⟩ := ck_old (most := most) (tkS_ok (rgT most ts e) e t) h
    have hT : tpT most ts e t = rgT most ts e := by unfold tpT; rw [hm, if_pos rfl, if_pos q3, hok, hS, x3]
    refine ⟨l1, by rw [hT, q1], by omega, ?_, by rw [hT]; exact q4, by rw [hT]; exact h, ?_⟩
    · unfold tpE; rw [hB, hok, hS, x2]; rfl
    · unfold tpX; rw [hB, if_pos rfl, hok, hS, x1, hT]
  · obtain ⟨x1, x2, x3⟩ := ck_new (most := most) (tkS_ok (rgT most ts e) e t) h (by omega)
    have hT : tpT most ts e t = rgT most ts e ++ [tkS (rgT most ts e) e t] := by unfold tpT; rw [hm, if_pos rfl, if_pos q3, hok, hS, x3]
    have hSS : tkS (tpT most ts e t) e t = tkS (rgT most ts e) e t := by unfold tkS; rw [hT, idx_ext q4]
    refine ⟨l1 ++ [tkS (rgT most ts e) e t], by rw [hT, q1, List.append_assoc], by simp; omega, ?_, by rw [hT]; simp [q4], by rw [hSS, hT]; simp, ?_⟩
    · unfold tpE; rw [hB, hok, hS, x2]; rfl
    · unfold tpX; rw [hB, if_pos rfl, hok, hS, x1, hSS, hT, idx_snoc_new h]
/-- The tag is a ticket of epoch e of body t. -/
structure TkAt (ts : List ByteArray) (e tag : Int) (t : Bd) : Prop where
  key : epK e ∈ ts
  tm : tmS ts tag = tkS ts e t
  te : tmE ts tag = 0
theorem TkAt.ext {ts l : List ByteArray} {e tag : Int} {t : Bd} (h : TkAt ts e tag t) : TkAt (ts ++ l) e tag t := by
  obtain ⟨x1, x2⟩ := tmS_ext (l := l) h.te
  exact ⟨by simp [h.key], by rw [x1, h.tm]; unfold tkS; rw [idx_ext h.key], x2⟩
theorem tk_hit {ts : List ByteArray} {e tag : Int} {t : Bd} (h : TkAt ts e tag t) (hl : ts.length ≤ 100000) (hm : t.may = true) : tkO ts e tag = some t := by
  have hi := idx_lt h.key
  obtain ⟨a1, a2, a3⟩ := op_seal (ts := ts) (x := ((idx ts (epK e) : Nat) : Int)) (y := ((idx ts (epK e) : Nat) : Int)) (tag := tag) (s := t.enc) (by omega) (by omega) (by omega) (by omega) h.tm h.te
  rw [if_pos rfl] at a2 a3
  unfold tkO
  rw [if_pos ⟨(isB_iff _ _).2 h.key, a3⟩, a2, tkG_back hm]
theorem tk_miss {ts : List ByteArray} {e i tag : Int} {t : Bd} (h : TkAt ts e tag t) (hl : ts.length ≤ 100000) (e0 : 0 ≤ e) (e1 : e ≤ 1073741823) (i0 : 0 ≤ i) (i1 : i ≤ 1073741823) (hne : i ≠ e) : tkO ts i tag = none := by
  unfold tkO
  by_cases hb : isB ts (epK i) = true
  · have hi := idx_lt h.key
    have hj := idx_lt ((isB_iff _ _).1 hb)
    have hn : ¬ ((idx ts (epK e) : Nat) : Int) = ((idx ts (epK i) : Nat) : Int) := fun c => hne (epK_inj i0 i1 e0 e1 (idx_inj ((isB_iff _ _).1 hb) h.key (by omega)))
    obtain ⟨a1, a2, a3⟩ := op_seal (ts := ts) (x := ((idx ts (epK e) : Nat) : Int)) (y := ((idx ts (epK i) : Nat) : Int)) (tag := tag) (s := t.enc) (by omega) (by omega) (by omega) (by omega) h.tm h.te
    rw [if_neg hn] at a3
    rw [if_neg (fun c => by rw [a3] at c; exact absurd c.2 (by decide))]
  · rw [if_neg (fun c => hb c.1)]
/-- It is found just while its epoch is live. -/
theorem tk_find {ts : List ByteArray} {e tag now keep : Int} {t : Bd} (h : TkAt ts e tag t) (hl : ts.length ≤ 100000) (e0 : 0 ≤ e) (e1 : e ≤ 1073741823) (hm : t.may = true) (n0 : 0 ≤ now) (n1 : now ≤ 1073741823) (k0 : 0 ≤ keep) (k1 : keep ≤ 4) :
    (e ≤ now ∧ now - e ≤ keep → tgX ts now keep tag = t ∧ tgE ts now keep tag = 0) ∧ (¬ (e ≤ now ∧ now - e ≤ keep) → tgX ts now keep tag = .zero ∧ tgE ts now keep tag = 1501) := by
  have hB := (tgB_iff now keep).2 ⟨n0, n1, k0, k1⟩
  have hF : tgF ts now keep tag = if e ≤ now ∧ now - e ≤ keep then some t else none := by
    unfold tgF
    rw [tkF_only (e0 := e) _ _ (fun i h1 h2 h3 => tk_miss h hl e0 e1 (by unfold tkM at h1; omega) (by omega) h3), tk_hit h hl hm]
    unfold tkM
    by_cases c : e ≤ now ∧ now - e ≤ keep
    · rw [if_pos c, if_pos (by omega)]
    · rw [if_neg c, if_neg (by omega)]
  unfold tgX tgE
  rw [hB, hF]
  refine ⟨fun c => ?_, fun c => ?_⟩
  · rw [if_pos c]; exact ⟨rfl, rfl⟩
  · rw [if_neg c]; exact ⟨rfl, rfl⟩
/-- A full book names nothing new. -/
theorem ck_full {most : Int} {ts : List ByteArray} {t : ByteArray} (hk : okT t = true) (hn : t ∉ ts) (hl : ¬ (ts.length : Int) < most) : ckX most ts true t = 0 ∧ ckE most ts true t = 300 ∧ ckT most ts true t = ts := by
  have hi := (isB_not _ _).2 hn
  have he : nmE most ts t = 201 := by unfold nmE; rw [if_pos hk, hi, if_neg (by decide), if_neg hl]
  obtain ⟨a, b⟩ := ckX_bad (most := most) (ts := ts) (ok := true) (t := t) (.inr (by rw [he]; decide))
  refine ⟨a, b, ?_⟩
  show nmT most ts t = _
  unfold nmT; rw [if_pos hk, hi, if_neg (by decide), if_neg hl]
theorem epK_kind (e : Int) (ko : Option Int) (s : ByteArray) : epK e ≠ tmK cS ko s := tm_kind (by decide) _ _ _ _
end Go.Proofs.YtcakipojmkehgaaDoor
