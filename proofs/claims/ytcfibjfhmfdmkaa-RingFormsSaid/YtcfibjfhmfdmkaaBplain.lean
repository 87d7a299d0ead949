/- Plain mathematics of a book of terms: names, and the index's datum. No program is named. -/
import Derived.Maps.OwnSet
namespace Go.Proofs.Ytcfibjfhmfdmkaa
open Go Go.Maps

def tlit (t : ByteArray) : Lit := .string t.data.toList
theorem tlit_inj {a b : ByteArray} (h : tlit a = tlit b) : a = b := by
  injection h with h
  exact ByteArray.ext (Array.toList_inj.1 h)
theorem tlit_key (t : ByteArray) : WideAt.IsKeyLit (tlit t) := trivial
/-- May it be a term? -/
def okT (t : ByteArray) : Bool := decide (1 ≤ t.size) && decide (t.size ≤ 512)
theorem okT_iff (t : ByteArray) : okT t = true ↔ 1 ≤ t.size ∧ t.size ≤ 512 := by simp [okT]
/-- Is it there? -/
def isB (ts : List ByteArray) (t : ByteArray) : Bool := ts.any fun a => decide (a = t)
theorem isB_iff (ts : List ByteArray) (t : ByteArray) : isB ts t = true ↔ t ∈ ts := by simp [isB]
theorem isB_not (ts : List ByteArray) (t : ByteArray) : isB ts t = false ↔ t ∉ ts := by rw [← isB_iff]; simp
/-- The first place of a term. -/
def idx : List ByteArray → ByteArray → Nat
  | [], _ => 0
  | a :: l, t => if a = t then 0 else idx l t + 1
/-- What Find answers. -/
def fnd (ts : List ByteArray) (t : ByteArray) : Int := if isB ts t then ((idx ts t : Nat) : Int) else 0
/-- What Name answers, and what it leaves. -/
def nmX (most : Int) (ts : List ByteArray) (t : ByteArray) : Int := if okT t then if isB ts t then ((idx ts t : Nat) : Int) else if (ts.length : Int) < most then ((ts.length : Nat) : Int) else 0 else 0
def nmE (most : Int) (ts : List ByteArray) (t : ByteArray) : Int := if okT t then if isB ts t then 0 else if (ts.length : Int) < most then 0 else 201 else 200
def nmT (most : Int) (ts : List ByteArray) (t : ByteArray) : List ByteArray := if okT t then if isB ts t then ts else if (ts.length : Int) < most then ts ++ [t] else ts else ts
/-- What Term answers. -/
def tmS (ts : List ByteArray) (n : Int) : ByteArray := if 0 ≤ n ∧ n < ts.length then ts.getD n.toNat ⟨#[]⟩ else ⟨#[]⟩
def tmE (ts : List ByteArray) (n : Int) : Int := if 0 ≤ n ∧ n < ts.length then 0 else 202

theorem idx_snoc_new {ts : List ByteArray} {t : ByteArray} (h : t ∉ ts) : idx (ts ++ [t]) t = ts.length := by
  induction ts with
  | nil => simp [idx]
  | cons a l ih =>
    have h1 : a ≠ t := fun e => h (by simp [e])
    have h2 : t ∉ l := fun e => h (by simp [e])
    simp [idx, h1, ih h2]
theorem idx_snoc_other {ts : List ByteArray} {t u : ByteArray} (h : u ∈ ts) : idx (ts ++ [t]) u = idx ts u := by
  induction ts with
  | nil => cases h
  | cons a l ih =>
    by_cases h1 : a = u
    · simp [idx, h1]
    · have h2 : u ∈ l := by
        rcases List.mem_cons.1 h with e | e
        · exact absurd e.symm h1
        · exact e
      simp [idx, h1, ih h2]
theorem idx_get {ts : List ByteArray} {t : ByteArray} (h : t ∈ ts) : ts[idx ts t]? = some t := by
  induction ts with
  | nil => cases h
  | cons a l ih =>
    by_cases h1 : a = t
    · simp [idx, h1]
    · have h2 : t ∈ l := by
        rcases List.mem_cons.1 h with e | e
        · exact absurd e.symm h1
        · exact e
      simp [idx, h1, ih h2]
theorem idx_lt {ts : List ByteArray} {t : ByteArray} (h : t ∈ ts) : idx ts t < ts.length := (List.getElem?_eq_some_iff.1 (idx_get h)).1
theorem idx_at {ts : List ByteArray} {t : ByteArray} {i : Nat} (hn : ts.Nodup) (h : ts[i]? = some t) : idx ts t = i := by
  induction ts generalizing i with
  | nil => cases h
  | cons a l ih =>
    obtain ⟨h1, h2⟩ := List.nodup_cons.1 hn
    cases i with
    | zero => simp at h; simp [idx, h]
    | succ i =>
      have h3 : l[i]? = some t := by simpa using h
      have h4 : a ≠ t := fun e => h1 (e ▸ List.mem_of_getElem? h3)
      simp [idx, h4, ih h2 h3]
theorem idx_inj {ts : List ByteArray} {t u : ByteArray} (h : t ∈ ts) (k : u ∈ ts) (e : idx ts t = idx ts u) : t = u := by
  have h1 := idx_get h
  rw [e, idx_get k] at h1
  exact (Option.some.inj h1).symm
theorem isB_snoc (ts : List ByteArray) (t u : ByteArray) : isB (ts ++ [t]) u = (isB ts u || decide (t = u)) := by simp [isB]

/-- The index's datum tells the row. -/
def Ix (D : DataW Unit) (ts : List ByteArray) : Prop :=
  IsMap D ∧ (∀ t, Maps.has D (tlit t) = isB ts t) ∧ ∀ t, D.atKey (tlit t) (.lit (.int .i64 0)) = .lit (.int .i64 (fnd ts t))
theorem Ix_nil : Ix (.map []) [] := ⟨⟨[], rfl⟩, fun _ => rfl, fun _ => rfl⟩
theorem Ix_put {D : DataW Unit} {ts : List ByteArray} {t : ByteArray} (h : Ix D ts) (ht : t ∉ ts) : Ix (D.put (tlit t) (.lit (.int .i64 ((ts.length : Nat) : Int)))) (ts ++ [t]) := by
  obtain ⟨h1, h2, h3⟩ := h
  refine ⟨h1.put _ _, fun u => ?_, fun u => ?_⟩
  · by_cases e : u = t
    · subst e
      rw [has_put_same h1 (tlit_key u), isB_snoc]
      simp
    · rw [has_put_other (fun c => e (tlit_inj c)), h2, isB_snoc]
      have e' : ¬ t = u := fun c => e c.symm
      simp [e']
  · by_cases e : u = t
    · subst e
      rw [atKey_put_same h1 (tlit_key u)]
      simp [fnd, isB_snoc, idx_snoc_new ht]
    · rw [atKey_put_other (fun c => e (tlit_inj c)), h3]
      have e' : ¬ t = u := fun c => e c.symm
      by_cases hu : u ∈ ts
      · simp [fnd, isB_snoc, (isB_iff _ _).2 hu, idx_snoc_other hu]
      · simp [fnd, isB_snoc, (isB_not _ _).2 hu, e']
end Go.Proofs.Ytcfibjfhmfdmkaa
