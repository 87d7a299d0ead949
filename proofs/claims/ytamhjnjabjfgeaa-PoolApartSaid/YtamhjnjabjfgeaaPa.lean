/- Plain mathematics of pools: which may be, which address is leased; taking and freeing one turns no other. No program is named. -/
import Derived.WalkKit
namespace Go.Proofs.Ytamhjnjabjfgeaa
open Go

/-- An address: is it busy, whose was it last, until when does it rest. -/
structure Pa where
  b : Bool
  l : Int
  u : Int
deriving DecidableEq
def Pa.none : Pa := ⟨false, 0, 0⟩
def Pa.val (a : Pa) : Value := .agg #[.bool a.b, .int .i64 a.l, .int .i64 a.u]
/-- May it be? -/
def Pa.may (a : Pa) : Bool := decide (-1 ≤ a.l) && decide (a.l < 8) && decide (0 ≤ a.u)
theorem Pa.may_iff (a : Pa) : a.may = true ↔ -1 ≤ a.l ∧ a.l < 8 ∧ 0 ≤ a.u := by simp [Pa.may, and_assoc]
def poMay (as : List Pa) : Bool := decide (1 ≤ as.length) && decide (as.length ≤ 16) && as.all Pa.may
def poUser (x : Int) : Bool := decide (0 ≤ x) && decide (x < 8)
theorem poMay_iff (as : List Pa) : poMay as = true ↔ 1 ≤ as.length ∧ as.length ≤ 16 ∧ ∀ a ∈ as, a.may = true := by simp [poMay, and_assoc]
theorem poUser_iff (x : Int) : poUser x = true ↔ 0 ≤ x ∧ x < 8 := by simp [poUser]
def Pa.free (a : Pa) (t : Int) : Bool := !a.b && decide (a.u ≤ t)
/-- How it ranks for a user. -/
def Pa.rank (a : Pa) (x : Int) : Int := if a.l = x then 0 else if a.l = -1 then 1 else 2
/-- The reference's walk: the best so far, its rank, the place. -/
def poStep (x t : Int) (s : Int × Int × Int) (a : Pa) : Int × Int × Int := if a.free t = true ∧ a.rank x < s.2.1 then (s.2.2, a.rank x, s.2.2 + 1) else (s.1, s.2.1, s.2.2 + 1)
def poWalk (x t : Int) (as : List Pa) : Int × Int × Int := as.foldl (poStep x t) (-1, 3, 0)
theorem poWalk_snoc (x t : Int) (as : List Pa) (a : Pa) : poWalk x t (as ++ [a]) = poStep x t (poWalk x t as) a := by simp [poWalk]
theorem poWalk_at (x t : Int) (as : List Pa) : (poWalk x t as).2.2 = as.length := by
  have h : ∀ (l : List Pa) (s : Int × Int × Int), (l.foldl (poStep x t) s).2.2 = s.2.2 + l.length := by
    intro l
    induction l with
    | nil => intro s; simp
    | cons a r ih =>
      intro s
      rw [List.foldl_cons, ih, List.length_cons]
      unfold poStep
      split <;> simp <;> omega
  simpa [poWalk] using h as (-1, 3, 0)
/-- The first place, from i on, where p holds. -/
def fstP (p : Pa → Bool) : List Pa → Int → Option Int
  | [], _ => Option.none
  | a :: r, i => if p a then some i else fstP p r (i + 1)
theorem fstP_snoc (p : Pa → Bool) (l : List Pa) (a : Pa) (i : Int) : fstP p (l ++ [a]) i = match fstP p l i with | some k => some k | Option.none => if p a then some (i + l.length) else Option.none := by
  induction l generalizing i with
  | nil => simp [fstP]
  | cons c r ih =>
    simp only [List.cons_append, fstP]
    split
    · rfl
    · rw [ih, List.length_cons]
      have e : i + 1 + (r.length : Int) = i + ((r.length + 1 : Nat) : Int) := by omega
      rw [e]
def poOwn (x t : Int) (a : Pa) : Bool := a.free t && decide (a.l = x)
/-- One's own first; without one the first that was nobody's; without one the first. -/
def poBest (x t : Int) (as : List Pa) : Option Int := (fstP (poOwn x t) as 0).or ((fstP (poOwn (-1) t) as 0).or (fstP (fun a => a.free t) as 0))
/-- The walk tells it, for a user that is one. -/
theorem poWalk_best (x t : Int) (hx : 0 ≤ x) (as : List Pa) : poWalk x t as = (match poBest x t as with | some k => k | Option.none => -1, if (fstP (poOwn x t) as 0).isSome then 0 else if (fstP (poOwn (-1) t) as 0).isSome then 1 else if (fstP (fun a => a.free t) as 0).isSome then 2 else 3, (as.length : Int)) := by
  have hs : ∀ l : List Pa, poWalk x t l = (match poBest x t l with | some k => k | Option.none => -1, if (fstP (poOwn x t) l 0).isSome then 0 else if (fstP (poOwn (-1) t) l 0).isSome then 1 else if (fstP (fun a => a.free t) l 0).isSome then 2 else 3, (l.length : Int)) → ∀ a : Pa, poWalk x t (l ++ [a]) = (match poBest x t (l ++ [a]) with | some k => k | Option.none => -1, if (fstP (poOwn x t) (l ++ [a]) 0).isSome then 0 else if (fstP (poOwn (-1) t) (l ++ [a]) 0).isSome then 1 else if (fstP (fun a => a.free t) (l ++ [a]) 0).isSome then 2 else 3, ((l ++ [a]).length : Int)) := by
    intro l ih a
    rw [poWalk_snoc, ih]
    unfold poBest
    rw [fstP_snoc, fstP_snoc, fstP_snoc]
    unfold poStep Pa.rank poOwn
    have hne : ¬ x = -1 := by omega
    cases hF : a.free t with
    | false => cases h1 : fstP (fun a => a.free t && decide (a.l = x)) l 0 <;> cases h2 : fstP (fun a => a.free t && decide (a.l = -1)) l 0 <;> cases h3 : fstP (fun a => a.free t) l 0 <;> simp
    | true =>
      by_cases e1 : a.l = x
      · cases h1 : fstP (fun a => a.free t && decide (a.l = x)) l 0 <;> cases h2 : fstP (fun a => a.free t && decide (a.l = -1)) l 0 <;> cases h3 : fstP (fun a => a.free t) l 0 <;> simp [e1, hne]
      · by_cases e2 : a.l = -1
        · have e3 : ¬ (-1 : Int) = x := fun c => e1 (e2.trans c)
          cases h1 : fstP (fun a => a.free t && decide (a.l = x)) l 0 <;> cases h2 : fstP (fun a => a.free t && decide (a.l = -1)) l 0 <;> cases h3 : fstP (fun a => a.free t) l 0 <;> simp [e2, e3]
        · cases h1 : fstP (fun a => a.free t && decide (a.l = x)) l 0 <;> cases h2 : fstP (fun a => a.free t && decide (a.l = -1)) l 0 <;> cases h3 : fstP (fun a => a.free t) l 0 <;> simp [e1, e2]
  have hrev : ∀ r : List Pa, poWalk x t r.reverse = (match poBest x t r.reverse with | some k => k | Option.none => -1, if (fstP (poOwn x t) r.reverse 0).isSome then 0 else if (fstP (poOwn (-1) t) r.reverse 0).isSome then 1 else if (fstP (fun a => a.free t) r.reverse 0).isSome then 2 else 3, (r.reverse.length : Int)) := by
    intro r
    induction r with
    | nil => rfl
    | cons a r ih => rw [List.reverse_cons]; exact hs _ ih a
  have := hrev as.reverse
  rwa [List.reverse_reverse] at this
theorem fstP_pos {p : Pa → Bool} {l : List Pa} {i j : Int} (h : fstP p l i = some j) : i ≤ j ∧ j < i + l.length := by
  induction l generalizing i with
  | nil => simp [fstP] at h
  | cons c r ih =>
    rw [List.length_cons]
    simp only [fstP] at h
    split at h
    · cases h; omega
    · have := ih h; omega
theorem poBest_pos {x t : Int} {as : List Pa} {j : Int} (h : poBest x t as = some j) : 0 ≤ j ∧ j < as.length := by
  unfold poBest at h
  cases h1 : fstP (poOwn x t) as 0 with
  | some k => rw [h1] at h; simp at h; subst h; have := fstP_pos h1; omega
  | none =>
    rw [h1] at h
    cases h2 : fstP (poOwn (-1) t) as 0 with
    | some k => rw [h2] at h; simp at h; subst h; have := fstP_pos h2; omega
    | none => rw [h2] at h; simp at h; have := fstP_pos h; omega
/- What each call answers. -/
def plOk (as : List Pa) (x t : Int) : Bool := poMay as && poUser x && decide (0 ≤ t) && decide (t ≤ 1048575)
def plX (as : List Pa) (x t : Int) : Int := if plOk as x t then (poBest x t as).getD 0 else 0
def plE (as : List Pa) (x t : Int) : Int := if plOk as x t then (if (poBest x t as).isSome then 0 else 1601) else 1600
def ptOk (as : List Pa) (k x : Int) : Bool := poMay as && poUser x && decide (0 ≤ k) && decide (k < as.length) && !(as.getD k.toNat .none).b
def ptL (as : List Pa) (k x : Int) : List Pa := if ptOk as k x then as.set k.toNat ⟨true, x, 0⟩ else []
def ptE (as : List Pa) (k x : Int) : Int := if ptOk as k x then 0 else 1600
def pfOk (as : List Pa) (k n : Int) : Bool := poMay as && decide (0 ≤ k) && decide (k < as.length) && (as.getD k.toNat .none).b && decide (0 ≤ n)
def pfL (as : List Pa) (k n : Int) : List Pa := if pfOk as k n then as.set k.toNat ⟨false, (as.getD k.toNat .none).l, n⟩ else []
def pfE (as : List Pa) (k n : Int) : Int := if pfOk as k n then 0 else 1600
def pnOk (n : Int) : Bool := decide (1 ≤ n) && decide (n ≤ 16)
def pnL (n : Int) : List Pa := if pnOk n then List.replicate n.toNat ⟨false, -1, 0⟩ else []
def pnE (n : Int) : Int := if pnOk n then 0 else 1600
end Go.Proofs.Ytamhjnjabjfgeaa
