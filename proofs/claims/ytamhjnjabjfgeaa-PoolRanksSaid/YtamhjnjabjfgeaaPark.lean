/- For PoolRanks: the first that fits, found from behind; a pool made of any addresses. No program is named. -/
import Derived.Test.YtamhjnjabjfgeaaPawk
namespace Go.Proofs.Ytamhjnjabjfgeaa
open Go Go.RowKit

/-- The first place that fits, or -1. -/
def fstD (p : Pa → Bool) (l : List Pa) (i : Int) : Int := (fstP p l i).getD (-1)
theorem fstD_no {p : Pa → Bool} {a : Pa} {r : List Pa} {i : Int} (h : p a = false) : fstD p (a :: r) i = fstD p r (i + 1) := by
  unfold fstD
  simp only [fstP, h]
  rfl
theorem fstD_yes {p : Pa → Bool} {a : Pa} {r : List Pa} {i : Int} (h : p a = true) : fstD p (a :: r) i = i := by
  unfold fstD
  simp only [fstP, h]
  rfl
theorem fstD_bd {p : Pa → Bool} {l : List Pa} {i : Int} (h0 : 0 ≤ i) : -1 ≤ fstD p l i ∧ fstD p l i < i + l.length ∨ fstD p l i = -1 := by
  unfold fstD
  cases h : fstP p l i with
  | none => exact .inr rfl
  | some j => have := fstP_pos h; exact .inl ⟨by simp; omega, by simp; omega⟩
theorem drop_at {es : List Pa} {j : Nat} (hj : j < es.length) {a : Pa} (ha : es.getD j Pa.none = a) : es.drop j = a :: es.drop (j + 1) := by
  subst ha
  rw [List.drop_eq_getElem_cons hj]
  simp [List.getD, hj]
theorem fstP_of {p : Pa → Bool} {l : List Pa} {i : Int} (h0 : 0 ≤ i) : (0 ≤ fstD p l i → fstP p l i = some (fstD p l i)) ∧ (fstD p l i < 0 → fstP p l i = Option.none) := by
  unfold fstD
  cases h : fstP p l i with
  | none => exact ⟨fun c => absurd c (by decide), fun _ => rfl⟩
  | some j => have := fstP_pos h; exact ⟨fun _ => rfl, fun c => by simp at c; omega⟩
theorem pr_own {es : List Pa} {x t : Int} (ho : plOk es x t = true) (h : 0 ≤ fstD (poOwn x t) es 0) : plX es x t = fstD (poOwn x t) es 0 ∧ plE es x t = 0 := by
  have h1 := (fstP_of (p := poOwn x t) (l := es) (i := 0) (by decide)).1 h
  unfold plX plE poBest
  rw [if_pos ho, if_pos ho, h1]
  exact ⟨rfl, rfl⟩
theorem pr_fresh {es : List Pa} {x t : Int} (ho : plOk es x t = true) (h0 : fstD (poOwn x t) es 0 < 0) (h : 0 ≤ fstD (poOwn (-1) t) es 0) : plX es x t = fstD (poOwn (-1) t) es 0 ∧ plE es x t = 0 := by
  have h1 := (fstP_of (p := poOwn x t) (l := es) (i := 0) (by decide)).2 h0
  have h2 := (fstP_of (p := poOwn (-1) t) (l := es) (i := 0) (by decide)).1 h
  unfold plX plE poBest
  rw [if_pos ho, if_pos ho, h1, h2]
  exact ⟨rfl, rfl⟩
theorem pr_some {es : List Pa} {x t : Int} (ho : plOk es x t = true) (h0 : fstD (poOwn x t) es 0 < 0) (h1 : fstD (poOwn (-1) t) es 0 < 0) (h : 0 ≤ fstD (fun a => a.free t) es 0) : plX es x t = fstD (fun a => a.free t) es 0 ∧ plE es x t = 0 := by
  have e1 := (fstP_of (p := poOwn x t) (l := es) (i := 0) (by decide)).2 h0
  have e2 := (fstP_of (p := poOwn (-1) t) (l := es) (i := 0) (by decide)).2 h1
  have e3 := (fstP_of (p := fun a => a.free t) (l := es) (i := 0) (by decide)).1 h
  unfold plX plE poBest
  rw [if_pos ho, if_pos ho, e1, e2, e3]
  exact ⟨rfl, rfl⟩
theorem pr_none {es : List Pa} {x t : Int} (ho : plOk es x t = true) (h0 : fstD (poOwn x t) es 0 < 0) (h1 : fstD (poOwn (-1) t) es 0 < 0) (h : fstD (fun a => a.free t) es 0 < 0) : plX es x t = 0 ∧ plE es x t = 1601 := by
  have e1 := (fstP_of (p := poOwn x t) (l := es) (i := 0) (by decide)).2 h0
  have e2 := (fstP_of (p := poOwn (-1) t) (l := es) (i := 0) (by decide)).2 h1
  have e3 := (fstP_of (p := fun a => a.free t) (l := es) (i := 0) (by decide)).2 h
  unfold plX plE poBest
  rw [if_pos ho, if_pos ho, e1, e2, e3]
  exact ⟨rfl, rfl⟩
/-- An address made of any one. -/
def paN (a : Pa) : Pa := ⟨a.b, (IntKind.u64.wrap a.l).tmod 9 - 1, bits .and .i64 a.u 31⟩
theorem paN_of (a : Pa) : ∃ r y : Nat, r < 9 ∧ y < 32 ∧ (IntKind.u64.wrap a.l).tmod 9 = (r : Int) ∧ bits .and .i64 a.u 31 = (y : Int) ∧ paN a = ⟨a.b, (r : Int) - 1, (y : Int)⟩ := by
  have hu0 : 0 ≤ IntKind.u64.wrap a.l := by rw [IntKind.wrap_u64]; omega
  obtain ⟨y, hy, hy5⟩ := mask31 a.u
  have h9 : (IntKind.u64.wrap a.l).tmod 9 = (((IntKind.u64.wrap a.l) % 9).toNat : Int) := by rw [Int.tmod_eq_emod_of_nonneg hu0]; omega
  exact ⟨((IntKind.u64.wrap a.l) % 9).toNat, y, by omega, hy5, h9, hy, by unfold paN; rw [h9, hy]⟩
theorem paN_may (a : Pa) : (paN a).may = true := by
  obtain ⟨r, y, hr, hy, _, _, e⟩ := paN_of a
  rw [e]
  exact (Pa.may_iff _).2 ⟨by show -1 ≤ (r : Int) - 1; omega, by show (r : Int) - 1 < 8; omega, by show 0 ≤ (y : Int); omega⟩
theorem poMay_N {es : List Pa} (h1 : 1 ≤ es.length) (h2 : es.length ≤ 16) : poMay (es.map paN) = true := by
  refine (poMay_iff _).2 ⟨by simpa using h1, by simpa using h2, fun a ha => ?_⟩
  obtain ⟨b, _, rfl⟩ := List.mem_map.1 ha
  exact paN_may b
theorem mapN_take {es : List Pa} {k : Nat} (hk : k < es.length) {a : Pa} (ha : es.getD k Pa.none = a) : (es.take (k + 1)).map paN = (es.take k).map paN ++ [paN a] := by
  subst ha
  rw [List.take_succ_eq_append_getElem hk, List.map_append]
  simp [List.getD, hk]
theorem pl_empty (x t : Int) : plE [] x t = 1600 := rfl
end Go.Proofs.Ytamhjnjabjfgeaa
