/- Plain mathematics of half-open logins: which are left, what adding and taking answer. No program is named. -/
import Derived.WalkKit
namespace Go.Proofs.Ytikdnmbbiipbjaa
open Go

/-- A login that is half open. -/
structure Ha where
  h : Int
  u : Int
  c : Int
  s : Int
  t : Int
deriving DecidableEq
def Ha.none : Ha := ⟨0, 0, 0, 0, 0⟩
/-- Those whose time is not over, in their row. -/
def haLeft (hs : List Ha) (t : Int) : List Ha := hs.filter fun a => decide (t < a.t)
def haOk (h : Ha) (most t : Int) : Bool := decide (1 ≤ most) && decide (most ≤ 8) && decide (t < h.t)
def haAE (hs : List Ha) (h : Ha) (most t : Int) : Int := if haOk h most t then (if most ≤ ((haLeft hs t).length : Int) then 1801 else 0) else 1800
def haAL (hs : List Ha) (h : Ha) (most t : Int) : List Ha := if haAE hs h most t = 0 then haLeft hs t ++ [h] else []
/-- The first of that number. -/
def haI (w : Int) : List Ha → Nat → Option Nat
  | [], _ => Option.none
  | a :: r, i => if a.h = w then some i else haI w r (i + 1)
def haTE (hs : List Ha) (w t : Int) : Int := if (haI w (haLeft hs t) 0).isSome then 0 else 1802
def haTX (hs : List Ha) (w t : Int) : Ha := match haI w (haLeft hs t) 0 with | some i => (haLeft hs t).getD i Ha.none | Option.none => Ha.none
def haTL (hs : List Ha) (w t : Int) : List Ha := match haI w (haLeft hs t) 0 with | some i => (haLeft hs t).take i ++ (haLeft hs t).drop (i + 1) | Option.none => []
theorem haLeft_len (hs : List Ha) (t : Int) : (haLeft hs t).length ≤ hs.length := List.length_filter_le ..
theorem haLeft_take {hs : List Ha} {k : Nat} (hk : k < hs.length) {a : Ha} (ha : hs.getD k Ha.none = a) (t : Int) : haLeft (hs.take (k + 1)) t = if t < a.t then haLeft (hs.take k) t ++ [a] else haLeft (hs.take k) t := by
  subst ha
  unfold haLeft
  rw [List.take_succ_eq_append_getElem hk, List.filter_append]
  have e : hs.getD k Ha.none = hs[k] := by simp [List.getD, hk]
  rw [e]
  by_cases c : t < hs[k].t
  · rw [if_pos c]; simp [c]
  · rw [if_neg c]; simp [c]
theorem haI_none_take {w : Int} {l : List Ha} {k : Nat} (hk : k < l.length) {a : Ha} (ha : l.getD k Ha.none = a) (h : haI w (l.take k) 0 = Option.none) (hn : ¬ a.h = w) : haI w (l.take (k + 1)) 0 = Option.none := by
  have key : ∀ (l : List Ha) (k i : Nat), k < l.length → haI w (l.take k) i = Option.none → ¬ (l.getD k Ha.none).h = w → haI w (l.take (k + 1)) i = Option.none := by
    intro l
    induction l with
    | nil => intro k i hk; cases hk
    | cons c r ih =>
      intro k i hk h hn
      cases k with
      | zero => simp only [List.take_succ_cons, List.take_zero, haI]; rw [if_neg (by simpa using hn)]
      | succ k =>
        rw [List.take_succ_cons] at h ⊢
        simp only [haI] at h ⊢
        by_cases e : c.h = w
        · rw [if_pos e] at h; cases h
        · rw [if_neg e] at h ⊢
          exact ih k (i + 1) (by simpa using hk) h (by simpa using hn)
  subst ha
  exact key l k 0 hk h hn
theorem haI_hit {w : Int} {l : List Ha} {k : Nat} (hk : k < l.length) {a : Ha} (ha : l.getD k Ha.none = a) (h : haI w (l.take k) 0 = Option.none) (hn : a.h = w) : haI w l 0 = some k := by
  have key : ∀ (l : List Ha) (k i : Nat), k < l.length → haI w (l.take k) i = Option.none → (l.getD k Ha.none).h = w → haI w l i = some (i + k) := by
    intro l
    induction l with
    | nil => intro k i hk; cases hk
    | cons c r ih =>
      intro k i hk h hn
      cases k with
      | zero => simp only [haI]; rw [if_pos (by simpa using hn)]; rfl
      | succ k =>
        rw [List.take_succ_cons] at h
        simp only [haI] at h ⊢
        by_cases e : c.h = w
        · rw [if_pos e] at h; cases h
        · rw [if_neg e] at h ⊢
          rw [ih k (i + 1) (by simpa using hk) h (by simpa using hn)]
          congr 1
          omega
  subst ha
  rw [key l k 0 hk h hn, Nat.zero_add]
end Go.Proofs.Ytikdnmbbiipbjaa
