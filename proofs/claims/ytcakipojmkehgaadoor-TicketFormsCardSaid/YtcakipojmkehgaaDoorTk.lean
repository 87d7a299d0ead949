/- Plain mathematics of tickets: a body and its bytes, what an epoch's key opens, the first of the epochs from now down. No program is named. -/
import Derived.Test.YtcakipojmkehgaaDoorRg
import Derived.Test.YtcakipojmkehgaaDoorBpm
namespace Go.Proofs.YtcakipojmkehgaaDoor
open Go

/-- A body. -/
structure Bd where
  u : Int
  g : Int
  x : Int
  s : Int
  k : Int
def Bd.zero : Bd := ⟨0, 0, 0, 0, 0⟩
def Bd.val (t : Bd) : Value := .agg #[.int .i64 t.u, .int .i64 t.g, .int .i64 t.x, .int .i64 t.s, .int .i64 t.k]
def Bd.row (t : Bd) : List Int := [t.u, t.g, t.x, t.s, t.k]
def Bd.fl (t : Bd) : List Fld := [.n t.u, .n t.g, .n t.x, .n t.s, .n t.k]
/-- May it be? -/
def Bd.may (t : Bd) : Bool := okNum t.u && okNum t.g && okNum t.x && okNum t.s && okNum t.k && decide (t.u < 8)
/-- Its bytes. -/
def Bd.enc (t : Bd) : ByteArray := numsB t.row
theorem Bd.may_iff (t : Bd) : t.may = true ↔ okNum t.u = true ∧ okNum t.g = true ∧ okNum t.x = true ∧ okNum t.s = true ∧ okNum t.k = true ∧ t.u < 8 := by
  simp [Bd.may, and_assoc]
theorem Bd.enc_fl (t : Bd) : encL t.fl = t.enc := rfl
theorem Bd.enc_size (t : Bd) : t.enc.size ≤ 25 := numsB_size t.row
theorem Bd.fl_ok {t : Bd} (h : t.may = true) : ∀ f ∈ t.fl, f.ok = true := by
  obtain ⟨h1, h2, h3, h4, h5, _⟩ := t.may_iff.1 h
  intro f hf
  simp only [Bd.fl, List.mem_cons, List.not_mem_nil, or_false] at hf
  rcases hf with rfl | rfl | rfl | rfl | rfl <;> simpa [Fld.ok] using by assumption

/-- Where the number n of s begins. -/
def tkA (s : ByteArray) : Nat → Int
  | 0 => 0
  | n + 1 => getTo s (tkA s n)
def tkQ (s : ByteArray) (n : Nat) : Int := getE s (tkA s n)
def tkX (s : ByteArray) (n : Nat) : Int := getX s (tkA s n)
def tkBd (s : ByteArray) : Bd := ⟨tkX s 0, tkX s 1, tkX s 2, tkX s 3, tkX s 4⟩
/-- The body whose bytes s is. -/
def tkG (s : ByteArray) : Option Bd :=
  if tkQ s 0 = 0 ∧ tkQ s 1 = 0 ∧ tkQ s 2 = 0 ∧ tkQ s 3 = 0 ∧ tkQ s 4 = 0 ∧ tkA s 5 = s.size ∧ (tkBd s).may = true then some (tkBd s) else none
theorem rdL_num {s : ByteArray} {a : Int} {r : List Bool} {y : List Fld × Int} (h : rdL s a (false :: r) = some y) : getE s a = 0 ∧ ∃ z, rdL s (getTo s a) r = some z ∧ y = (.n (getX s a) :: z.1, z.2) := by
  rw [rdL] at h
  split at h
  · rename_i hE
    refine ⟨hE, ?_⟩
    cases hr : rdL s (getTo s a) r with
    | none => rw [hr] at h; cases h
    | some z => rw [hr] at h; exact ⟨z, rfl, (Option.some.inj h).symm⟩
  · cases h
theorem tkG_back {t : Bd} (h : t.may = true) : tkG t.enc = some t := by
  have h0 := rdL_at t.fl (Bd.fl_ok h) ⟨#[]⟩ ⟨#[]⟩
  rw [nil_ba, ba_nil, Bd.enc_fl, show ((⟨#[]⟩ : ByteArray).size) = 0 from rfl, Nat.zero_add] at h0
  generalize hs : t.enc = s at *
  obtain ⟨q0, z0, h1, e0⟩ := rdL_num (show rdL s 0 (false :: [false, false, false, false]) = _ from h0)
  obtain ⟨q1, z1, h2, e1⟩ := rdL_num h1
  obtain ⟨q2, z2, h3, e2⟩ := rdL_num h2
  obtain ⟨q3, z3, h4, e3⟩ := rdL_num h3
  obtain ⟨q4, z4, h5, e4⟩ := rdL_num h4
  simp only [rdL, Option.some.injEq] at h5
  subst h5; subst e4; subst e3; subst e2; subst e1
  simp only [Bd.fl, Prod.mk.injEq, List.cons.injEq, Fld.n.injEq, and_true] at e0
  obtain ⟨⟨x0, x1, x2, x3, x4⟩, ha⟩ := e0
  have hb : tkBd s = t := by
    obtain ⟨a, b, c, d, e⟩ := t
    simp only at x0 x1 x2 x3 x4
    unfold tkBd tkX
    simp only [tkA]
    rw [← x0, ← x1, ← x2, ← x3, ← x4]
  unfold tkG
  rw [hb, if_pos ⟨q0, q1, q2, q3, q4, ha.symm, h⟩]
theorem rdL_five {s : ByteArray} (h : tkQ s 0 = 0 ∧ tkQ s 1 = 0 ∧ tkQ s 2 = 0 ∧ tkQ s 3 = 0 ∧ tkQ s 4 = 0) : rdL s 0 [false, false, false, false, false] = some ((tkBd s).fl, tkA s 5) := by
  obtain ⟨q0, q1, q2, q3, q4⟩ := h
  have q0' : getE s 0 = 0 := q0
  have q1' : getE s (getTo s 0) = 0 := q1
  have q2' : getE s (getTo s (getTo s 0)) = 0 := q2
  have q3' : getE s (getTo s (getTo s (getTo s 0))) = 0 := q3
  have q4' : getE s (getTo s (getTo s (getTo s (getTo s 0)))) = 0 := q4
  simp only [rdL]
  rw [if_pos q0', if_pos q1', if_pos q2', if_pos q3', if_pos q4']
  rfl
theorem tkG_form {s : ByteArray} {t : Bd} (h : tkG s = some t) : t.may = true ∧ s = t.enc := by
  unfold tkG at h
  split at h
  · rename_i c
    obtain ⟨q0, q1, q2, q3, q4, ha, hm⟩ := c
    obtain rfl := Option.some.inj h
    refine ⟨hm, ?_⟩
    have hr : rdL s ((0 : Nat) : Int) [false, false, false, false, false] = some ((tkBd s).fl, tkA s 5) := rdL_five ⟨q0, q1, q2, q3, q4⟩
    obtain ⟨_, _, e, he, _, _, h5⟩ := rdL_back s _ 0 _ _ (Nat.zero_le _) hr
    rw [ha] at he
    have : e = s.size := by omega
    rw [this, ext_all, Bd.enc_fl] at h5
    exact h5
  · cases h
theorem numsB_pf : ∀ (l m : List Int) (r : ByteArray), l.length = m.length → (∀ z ∈ l, 0 ≤ z ∧ z ≤ 1073741823) → (∀ z ∈ m, 0 ≤ z ∧ z ≤ 1073741823) → numsB l ++ r = numsB m → l = m ∧ r.size = 0 := by
  intro l
  induction l with
  | nil =>
    intro m r hl _ _ h
    cases m with
    | nil =>
      refine ⟨rfl, ?_⟩
      have := congrArg ByteArray.size h
      rw [ByteArray.size_append] at this
      omega
    | cons y m => simp at hl
  | cons x l ih =>
    intro m r hl h1 h2 h
    cases m with
    | nil => simp at hl
    | cons y m =>
      simp only [numsB] at h
      rw [ba_assoc] at h
      obtain ⟨x0, x1⟩ := h1 x (by simp)
      obtain ⟨y0, y1⟩ := h2 y (by simp)
      obtain ⟨rfl, h'⟩ := numS_pf x0 x1 y0 y1 h
      obtain ⟨rfl, hr⟩ := ih m r (by simpa using hl) (fun z hz => h1 z (by simp [hz])) (fun z hz => h2 z (by simp [hz])) h'
      exact ⟨rfl, hr⟩
theorem Bd.row_ok {t : Bd} (h : t.may = true) : ∀ z ∈ t.row, 0 ≤ z ∧ z ≤ 1073741823 := by
  obtain ⟨h1, h2, h3, h4, h5, _⟩ := t.may_iff.1 h
  intro z hz
  simp only [Bd.row, List.mem_cons, List.not_mem_nil, or_false] at hz
  rcases hz with rfl | rfl | rfl | rfl | rfl <;> exact (okNum_iff _).1 (by assumption)
theorem Bd.row_inj {t v : Bd} (h : t.row = v.row) : t = v := by
  obtain ⟨a, b, c, d, e⟩ := t
  obtain ⟨a', b', c', d', e'⟩ := v
  simpa [Bd.row] using h
theorem Bd.enc_inj {t v : Bd} (ht : t.may = true) (hv : v.may = true) (h : t.enc = v.enc) : t = v :=
  Bd.row_inj (numsB_pf t.row v.row ⟨#[]⟩ rfl (Bd.row_ok ht) (Bd.row_ok hv) (by rw [ba_nil]; exact h)).1
/-- Bytes behind a body's are none. -/
theorem tkG_more {t : Bd} (ht : t.may = true) {r : ByteArray} (hr : 0 < r.size) : tkG (t.enc ++ r) = none := by
  cases h : tkG (t.enc ++ r) with
  | none => rfl
  | some v =>
    obtain ⟨hv, e⟩ := tkG_form h
    have := (numsB_pf t.row v.row r rfl (Bd.row_ok ht) (Bd.row_ok hv) e).2
    omega
/-- What the program's reading of s ends with. -/
def tkN (s : ByteArray) : Int :=
  if tkQ s 0 ≠ 0 then tkQ s 0 else if tkQ s 1 ≠ 0 then tkQ s 1 else if tkQ s 2 ≠ 0 then tkQ s 2 else if tkQ s 3 ≠ 0 then tkQ s 3 else if tkQ s 4 ≠ 0 then tkQ s 4 else
  if tkA s 5 = s.size ∧ (tkBd s).may = true then 0 else 1501
/-- The numbers that a search may end with. -/
def okN (n : Int) : Prop := n = 0 ∨ n = 100 ∨ n = 101 ∨ n = 202 ∨ n = 301 ∨ n = 1501
theorem getE_of (s : ByteArray) (a : Int) : getE s a = 0 ∨ getE s a = 100 ∨ getE s a = 101 := by
  unfold getE
  repeat' split
  all_goals simp
theorem tkN_ok (s : ByteArray) : okN (tkN s) := by
  have h := fun a => getE_of s a
  unfold tkN okN tkQ
  split
  · rename_i c; rcases h (tkA s 0) with e | e | e <;> simp_all
  split
  · rename_i c; rcases h (tkA s 1) with e | e | e <;> simp_all
  split
  · rename_i c; rcases h (tkA s 2) with e | e | e <;> simp_all
  split
  · rename_i c; rcases h (tkA s 3) with e | e | e <;> simp_all
  split
  · rename_i c; rcases h (tkA s 4) with e | e | e <;> simp_all
  split <;> simp
theorem tkN_some {s : ByteArray} : tkN s = 0 ↔ (tkG s).isSome = true := by
  unfold tkN tkG
  by_cases q0 : tkQ s 0 = 0
  · by_cases q1 : tkQ s 1 = 0
    · by_cases q2 : tkQ s 2 = 0
      · by_cases q3 : tkQ s 3 = 0
        · by_cases q4 : tkQ s 4 = 0
          · by_cases c : tkA s 5 = s.size ∧ (tkBd s).may = true
            · simp [q0, q1, q2, q3, q4, c]
            · simp [q0, q1, q2, q3, q4, c]
          · simp [q0, q1, q2, q3, q4]
        · simp [q0, q1, q2, q3]
      · simp [q0, q1, q2]
    · simp [q0, q1]
  · simp [q0]
/-- What epoch e's key opens the tag to. -/
def tkO (ts : List ByteArray) (e tag : Int) : Option Bd :=
  if isB ts (epK e) = true ∧ opE ts (idx ts (epK e)) tag = 0 then tkG (opS ts (idx ts (epK e)) tag) else none
/-- The first of n epochs, from e down, whose key opens it. -/
def tkF (ts : List ByteArray) (tag : Int) : Nat → Int → Option Bd
  | 0, _ => none
  | n + 1, e => if (tkO ts e tag).isSome then tkO ts e tag else tkF ts tag n (e - 1)
theorem tkF_only {ts : List ByteArray} {tag e0 : Int} : ∀ (n : Nat) (e : Int), (∀ i, e - n < i → i ≤ e → i ≠ e0 → tkO ts i tag = none) → tkF ts tag n e = if e - n < e0 ∧ e0 ≤ e then tkO ts e0 tag else none := by
  intro n
  induction n with
  | zero => intro e _; rw [if_neg (by omega)]; rfl
  | succ n ih =>
    intro e h
    have hr := ih (e - 1) (fun i h1 h2 h3 => h i (by omega) (by omega) h3)
    rw [tkF, hr]
    by_cases he : e = e0
    · subst he
      rw [if_pos (c := e - ((n + 1 : Nat) : Int) < e ∧ e ≤ e) ⟨by omega, by omega⟩, if_neg (c := e - 1 - (n : Int) < e ∧ e ≤ e - 1) (by omega)]
      cases tkO ts e tag <;> rfl
    · rw [h e (by omega) (by omega) he]
      show (if e - 1 - (n : Int) < e0 ∧ e0 ≤ e - 1 then tkO ts e0 tag else none) = _
      by_cases c : e - 1 - (n : Int) < e0 ∧ e0 ≤ e - 1
      · rw [if_pos c, if_pos (by omega)]
      · rw [if_neg c, if_neg (by omega)]
/-- How many epochs below now are asked. -/
def tkM (now keep : Int) : Nat := (min now keep).toNat
def tgB (now keep : Int) : Bool := okNum now && decide (0 ≤ keep) && decide (keep ≤ 4)
theorem tgB_iff (now keep : Int) : tgB now keep = true ↔ 0 ≤ now ∧ now ≤ 1073741823 ∧ 0 ≤ keep ∧ keep ≤ 4 := by
  simp [tgB, okNum_iff, and_assoc]
/-- What Get answers. -/
def tgF (ts : List ByteArray) (now keep tag : Int) : Option Bd := tkF ts tag (tkM now keep + 1) now
def tgX (ts : List ByteArray) (now keep tag : Int) : Bd := if tgB now keep then (tgF ts now keep tag).getD .zero else .zero
def tgE (ts : List ByteArray) (now keep tag : Int) : Int := if tgB now keep then (if (tgF ts now keep tag).isSome then 0 else 1501) else 1500
/-- What Put answers, and leaves. -/
def tpS (most : Int) (ts : List ByteArray) (e : Int) (t : Bd) : ByteArray := tmK cS (some (rgX most ts e)) t.enc
def tpB (most : Int) (ts : List ByteArray) (e : Int) (t : Bd) : Bool := t.may && decide (rgE most ts e = 0)
def tpX (most : Int) (ts : List ByteArray) (e : Int) (t : Bd) : Int := if tpB most ts e t then ckX most (rgT most ts e) (okK (some (rgX most ts e))) (tpS most ts e t) else 0
def tpE (most : Int) (ts : List ByteArray) (e : Int) (t : Bd) : Int := if tpB most ts e t && decide (ckE most (rgT most ts e) (okK (some (rgX most ts e))) (tpS most ts e t) = 0) then 0 else 1500
def tpT (most : Int) (ts : List ByteArray) (e : Int) (t : Bd) : List ByteArray := if t.may then (if rgE most ts e = 0 then ckT most (rgT most ts e) (okK (some (rgX most ts e))) (tpS most ts e t) else rgT most ts e) else ts
end Go.Proofs.YtcakipojmkehgaaDoor
