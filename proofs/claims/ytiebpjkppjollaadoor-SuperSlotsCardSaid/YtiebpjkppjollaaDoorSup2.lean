/- Plain mathematics of a superblock's sector, further: what a flagged reader meets, what the program reads, what is found; the greater of two by cases. No program is named. -/
import Derived.Test.YtiebpjkppjollaaDoorSup
import Derived.Test.YtiebpjkppjollaaDoorBpm
namespace Go.Proofs.YtiebpjkppjollaaDoor
open Go

/-- The flagged reading of a sector. -/
structure SuV (s : ByteArray) (v1 v2 a2 : Int) (bad : Bool) : Prop where
  no : bad = true → suRd s = none
  yes : bad = false → suRd s = suMk s ([.n v1, .n v2], a2)
theorem suv (s : ByteArray) : SuV s (rnX s 0 false) (rnX s (rnA s 0 false) (rnB s 0 false)) (rnA s (rnA s 0 false) (rnB s 0 false)) (rnB s (rnA s 0 false) (rnB s 0 false)) := by
  have h2 := rdF_flag (s := s) (sh := [false, false]) (a := 0) rfl
  simp only [rdF] at h2
  refine ⟨fun hb => ?_, fun hb => ?_⟩
  · unfold suRd; rw [h2.2 hb]; rfl
  · unfold suRd; rw [h2.1 hb]; rfl
theorem SuV.find {s : ByteArray} {v1 v2 a2 : Int} (h : SuV s v1 v2 a2 false) (h1 : s.size = 64) (h2 : suMay v1 = true) (h4 : s.extract a2.toNat 64 = zerN (64 - a2.toNat)) (ts : List ByteArray) :
    suFind ts s = if ckI ts true (suTm v1) v2 then some (v1, v2) else none := by
  have hr := h.yes rfl
  simp only [suMk, h1, h2, h4, decide_true, Bool.and_true, if_true] at hr
  unfold suFind
  rw [hr]
  rfl
theorem SuV.none {s : ByteArray} {v1 v2 a2 : Int} {bad : Bool} (h : SuV s v1 v2 a2 bad) (hc : s.size ≠ 64 ∨ bad = true ∨ suMay v1 = false ∨ s.extract a2.toNat 64 ≠ zerN (64 - a2.toNat)) (ts : List ByteArray) : suFind ts s = Option.none := by
  have hr : suRd s = Option.none := by
    cases bad with
    | true => exact h.no rfl
    | false =>
      rw [h.yes rfl]
      simp only [suMk]
      rw [if_neg]
      simp only [Bool.and_eq_true, decide_eq_true_eq]
      rintro ⟨⟨c1, c2⟩, c4⟩
      rcases hc with e | e | e | e
      · exact e c1
      · cases e
      · rw [e] at c2; cases c2
      · exact e c4
  unfold suFind
  rw [hr]
  rfl
/-- The boot and the number that the program reads, whether or not it is such a sector. -/
def rdS (s : ByteArray) : Option (Int × Int) := if getE s 0 = 0 then (if getE s (getTo s 0) = 0 then some (getX s 0, getX s (getTo s 0)) else none) else none
theorem rdS_of {s : ByteArray} {b own : Int} (h : suRd s = some (b, own)) : rdS s = some (b, own) := by
  unfold suRd at h
  unfold rdS
  by_cases e1 : getE s 0 = 0
  · by_cases e2 : getE s (getTo s 0) = 0
    · simp only [rdL, if_pos e1, if_pos e2, Option.map_some, Option.bind_some, suMk] at h
      rw [if_pos e1, if_pos e2]
      split at h
      · exact h
      · cases h
    · simp only [rdL, if_pos e1, if_neg e2, Option.map_none, Option.bind_none] at h; cases h
  · simp only [rdL, if_neg e1, Option.bind_none] at h; cases h
theorem rdS_num {s : ByteArray} {b own : Int} (h : rdS s = some (b, own)) : okNum b = true ∧ okNum own = true := by
  unfold rdS at h
  split at h
  · split at h
    · rename_i e1 e2
      obtain ⟨b0, b1, _⟩ := get_bd e1
      obtain ⟨c0, c1, _⟩ := get_bd e2
      simp only [Option.some.injEq, Prod.mk.injEq] at h
      rw [← h.1, ← h.2]
      exact ⟨(okNum_iff _).2 ⟨b0, b1⟩, (okNum_iff _).2 ⟨c0, c1⟩⟩
    · cases h
  · cases h
/-- What is found, by what is read: it may be, its name is its own hash's, and it is put so. -/
theorem find_S (ts : List ByteArray) (s : ByteArray) : suFind ts s = (rdS s).bind fun x => if suMay x.1 && ckI ts true (suTm x.1) x.2 && decide (suSec x.1 x.2 = s) then some x else none := by
  cases hp : rdS s with
  | none =>
    cases hf : suFind ts s with
    | none => rfl
    | some y =>
      obtain ⟨r, own⟩ := y
      obtain ⟨a, b, c, _⟩ := (suFind_iff ts s r own).1 hf
      have := rdS_of (c ▸ suRd_back r own a b)
      rw [hp] at this; cases this
  | some x =>
    obtain ⟨r, own⟩ := x
    show _ = if suMay r && ckI ts true (suTm r) own && decide (suSec r own = s) then some (r, own) else none
    split
    · rename_i hc
      simp only [Bool.and_eq_true, decide_eq_true_eq] at hc
      exact (suFind_iff ts s r own).2 ⟨hc.1.1, (rdS_num hp).2, hc.2.symm, hc.1.2⟩
    · rename_i hc
      cases hf : suFind ts s with
      | none => rfl
      | some y =>
        obtain ⟨q, o⟩ := y
        obtain ⟨a, b, c, d⟩ := (suFind_iff ts s q o).1 hf
        have := rdS_of (c ▸ suRd_back q o a b)
        rw [hp] at this
        cases this
        refine absurd ?_ hc
        simp only [Bool.and_eq_true, decide_eq_true_eq]
        exact ⟨⟨a, d⟩, c.symm⟩
theorem sg_cases (ts : List ByteArray) (s : ByteArray) : (sgE ts s = 0 ∧ 1 ≤ sgX ts s ∧ sgX ts s ≤ 1023) ∨ (sgE ts s = 1000 ∧ sgX ts s = 0) := by
  cases hf : suFind ts s with
  | none => obtain ⟨a, b⟩ := sg_no hf; exact .inr ⟨b, a⟩
  | some x =>
    obtain ⟨a, b⟩ := sg_yes hf
    obtain ⟨c, _⟩ := (suFind_iff ts s x.1 x.2).1 hf
    have := (suMay_iff x.1).1 c
    rw [a, b]
    exact .inl ⟨rfl, this.1, this.2⟩
theorem pk_none {ts : List ByteArray} {s t : ByteArray} (h1 : sgE ts s = 1000) (h2 : sgE ts t = 1000) : pkX ts s t = 0 ∧ pkP ts s t = 0 ∧ pkE ts s t = 1001 := by
  unfold pkX pkP pkE; rw [h1, h2]; simp
theorem pk_one {ts : List ByteArray} {s t : ByteArray} (h1 : sgE ts s = 0) (h2 : sgE ts t = 1000) : pkX ts s t = sgX ts s ∧ pkP ts s t = 1 ∧ pkE ts s t = 0 := by
  unfold pkX pkP pkE; rw [h1, h2]; simp
theorem pk_two {ts : List ByteArray} {s t : ByteArray} (h1 : sgE ts s = 1000) (h2 : sgE ts t = 0) : pkX ts s t = sgX ts t ∧ pkP ts s t = 0 ∧ pkE ts s t = 0 := by
  unfold pkX pkP pkE; rw [h1, h2]; simp
theorem pk_ge {ts : List ByteArray} {s t : ByteArray} (h1 : sgE ts s = 0) (h2 : sgE ts t = 0) (h : sgX ts t ≤ sgX ts s) : pkX ts s t = sgX ts s ∧ pkP ts s t = 1 ∧ pkE ts s t = 0 := by
  unfold pkX pkP pkE; rw [h1, h2]; simp [h]
theorem pk_lt {ts : List ByteArray} {s t : ByteArray} (h1 : sgE ts s = 0) (h2 : sgE ts t = 0) (h : sgX ts s < sgX ts t) : pkX ts s t = sgX ts t ∧ pkP ts s t = 0 ∧ pkE ts s t = 0 := by
  unfold pkX pkP pkE; rw [h1, h2]; simp [show ¬ sgX ts t ≤ sgX ts s by omega]
end Go.Proofs.YtiebpjkppjollaaDoor
