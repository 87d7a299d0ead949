/- For PoolForms: calls that are refused, over any pool. Condition: the row's size. -/
import Derived.Test.YtamhjnjabjfgeaaPaaw
import Derived.Test.YtamhjnjabjfgeaaFplain3
namespace Go.Proofs.Ytamhjnjabjfgeaa
open Go Go.RowKit

theorem PoolsOk.lease_no (P : PoolsOk) {w : World} {ao : Option Addr} {n cap : Nat} {es : List Pa} (h : PaIn [] w ao n es) {x t : Int} (ho : plOk es x t = false) : Calls Try.prog 9 #[.slice ao n cap, .int .i64 x, .int .i64 t] w fun e w' => e = .returned (.tuple #[.int .i64 0, .int .i64 1600]) ∧ Below w.heap.size w w' :=
  P.leases h (by unfold plX; rw [ho]; rfl) (by unfold plE; rw [ho]; rfl)
theorem PoolsOk.take_no (P : PoolsOk) {w : World} {ao : Option Addr} {n cap : Nat} {es : List Pa} (h : PaIn [] w ao n es) (hn : n ≤ 5864062014800) {k x : Int} (ho : ptOk es k x = false) : Calls Try.prog 11 #[.slice ao n cap, .int .i64 k, .int .i64 x] w fun e w' => ∃ a2 c2, e = .returned (.tuple #[.slice a2 0 c2, .int .i64 1600]) ∧ Below w.heap.size w w' :=
  (P.takes h hn (es2 := []) (m := 0) (r := 1600) (by unfold ptL; rw [ho]; rfl) rfl (by unfold ptE; rw [ho]; rfl)).mono fun _ _ ⟨a, c, h1, _, h3⟩ => ⟨a, c, h1, h3⟩
theorem PoolsOk.free_no (P : PoolsOk) {w : World} {ao : Option Addr} {n cap : Nat} {es : List Pa} (h : PaIn [] w ao n es) (hn : n ≤ 5864062014800) {k x : Int} (ho : pfOk es k x = false) : Calls Try.prog 13 #[.slice ao n cap, .int .i64 k, .int .i64 x] w fun e w' => ∃ a2 c2, e = .returned (.tuple #[.slice a2 0 c2, .int .i64 1600]) ∧ Below w.heap.size w w' :=
  (P.frees h hn (es2 := []) (m := 0) (r := 1600) (by unfold pfL; rw [ho]; rfl) rfl (by unfold pfE; rw [ho]; rfl)).mono fun _ _ ⟨a, c, h1, _, h3⟩ => ⟨a, c, h1, h3⟩
theorem PoolsOk.new_no (P : PoolsOk) {k : Int} (ho : pnOk k = false) (w : World) : Calls Try.prog 15 #[.int .i64 k] w fun e w' => ∃ a2 c2, e = .returned (.tuple #[.slice a2 0 c2, .int .i64 1600]) ∧ Below w.heap.size w w' :=
  (P.news (es2 := []) (m := 0) (r := 1600) (by unfold pnL; rw [ho]; rfl) rfl (by unfold pnE; rw [ho]; rfl) w).mono fun _ _ ⟨a, c, h1, _, h3⟩ => ⟨a, c, h1, h3⟩
theorem paIn_nil (w : World) : PaIn [] w none 0 [] := ⟨rfl, .inl rfl, by decide⟩
/-- A literal pool. -/
theorem paIn_lit (W : World) (es : List Pa) (hn : es.length ≤ 1000) : PaIn [] (W.alloc (.cells (paCells es).toArray TPa)) (some ⟨W.heap.size, 0, none⟩) es.length es := ⟨rfl, .inr ⟨_, 0, rfl, paAt_lit W es, by simp, by simp⟩, by omega⟩
theorem paIn_one (W : World) (b : Bool) (l u : Int) : PaIn [] (W.alloc (.cells #[.bool b, .int .i64 l, .int .i64 u] TPa)) (some ⟨W.heap.size, 0, none⟩) 1 [⟨b, l, u⟩] := paIn_lit W [⟨b, l, u⟩] (by simp)
def paf1 : List Pa := [⟨false, -1, 0⟩, ⟨true, 5, 0⟩, ⟨false, -1, 0⟩]
theorem pn_no {k : Int} (h : k < 1 ∨ 16 < k) : pnOk k = false := by
  unfold pnOk
  rcases h with h | h
  · rw [decide_eq_false (show ¬ 1 ≤ k by omega), Bool.false_and]
  · rw [decide_eq_false (show ¬ k ≤ 16 by omega), Bool.and_false]
theorem pl_u {es : List Pa} {x t : Int} (h : x < 0 ∨ 8 ≤ x) : plOk es x t = false := by
  have : poUser x = false := by
    unfold poUser
    rcases h with h | h
    · rw [decide_eq_false (show ¬ 0 ≤ x by omega), Bool.false_and]
    · rw [decide_eq_false (show ¬ x < 8 by omega), Bool.and_false]
  unfold plOk
  rw [this, Bool.and_false, Bool.false_and, Bool.false_and]
theorem pl_t {es : List Pa} {x t : Int} (h : 1048575 < t) : plOk es x t = false := by
  unfold plOk
  rw [decide_eq_false (show ¬ t ≤ 1048575 by omega), Bool.and_false]
theorem poMay_one {b : Bool} {l u : Int} (h : 8 ≤ l ∨ u < 0) : poMay [⟨b, l, u⟩] = false := by
  have : Pa.may ⟨b, l, u⟩ = false := by
    unfold Pa.may
    dsimp only
    rcases h with h | h
    · rw [decide_eq_false (show ¬ l < 8 by omega), Bool.and_false, Bool.false_and]
    · rw [decide_eq_false (show ¬ 0 ≤ u by omega), Bool.and_false]
  unfold poMay
  rw [List.all_cons, this, Bool.false_and, Bool.and_false]
theorem pl_one {b : Bool} {l u x t : Int} (h : 8 ≤ l ∨ u < 0) : plOk [⟨b, l, u⟩] x t = false := by
  unfold plOk
  rw [poMay_one h]
  rfl
theorem pt_k {es : List Pa} {k x : Int} (h : (es.length : Int) ≤ k) : ptOk es k x = false := by
  unfold ptOk
  rw [decide_eq_false (show ¬ k < (es.length : Int) by omega), Bool.and_false, Bool.false_and]
theorem pf_k {es : List Pa} {k n : Int} (h : k < 0) : pfOk es k n = false := by
  unfold pfOk
  rw [decide_eq_false (show ¬ 0 ≤ k by omega), Bool.and_false, Bool.false_and, Bool.false_and, Bool.false_and]
theorem pf_n {es : List Pa} {k n : Int} (h : n < 0) : pfOk es k n = false := by
  unfold pfOk
  rw [decide_eq_false (show ¬ 0 ≤ n by omega), Bool.and_false]
theorem PaIn.alloc {W : World} {ao : Option Addr} {n : Nat} {es : List Pa} (h : PaIn [] W ao n es) (o : Obj) : PaIn [] (W.alloc o) ao n es := h.on ((Below.refl _ _).alloc (Nat.le_refl _) o)
end Go.Proofs.Ytamhjnjabjfgeaa
