/- For the laws of pools: what a call gave is a row that comes in. Condition: the row's size. -/
import Derived.Test.YtamhjnjabjfgeaaPar6
namespace Go.Proofs.Ytamhjnjabjfgeaa
open Go Go.RowKit

theorem At.paIn {w0 w : World} {C : Ass} {ao : Option Addr} {n cap : Nat} {es : List Pa} (h : At w0 ((rowE TPa 3 (.slice ao n cap) es.length (paCells es)).star C) w) (hn : n = es.length) (hf : es.length ≤ 1000) : PaIn [] w ao n es := by
  subst hn
  refine ⟨rfl, ?_, by omega⟩
  by_cases h0 : es.length = 0
  · exact .inl h0
  · obtain ⟨g, rfl, _, _⟩ := pa_big h (by omega)
    obtain ⟨h1, h2⟩ := paAt_row h
    exact .inr ⟨g, 0, rfl, h1, by simp, h2⟩
/-- What a call gave, read only. -/
def PaRd (w : World) (es : List Pa) (n : Int) (e : Ending) (w' : World) : Prop := ∃ a2 c2, e = .returned (.tuple #[.slice a2 es.length c2, .int .i64 n]) ∧ PaIn [] w' a2 es.length es ∧ Below w.heap.size w w'
theorem PaOut.rd {w w' : World} {es : List Pa} {n : Int} {e : Ending} (h : PaOut w es n e w') (hf : es.length ≤ 1000) : PaRd w es n e w' := by
  obtain ⟨a2, c2, rfl, hS⟩ := h
  exact ⟨a2, c2, rfl, hS.paIn rfl hf, hS.bel⟩
theorem PaIn.on {w W : World} {ao : Option Addr} {n : Nat} {es : List Pa} (h : PaIn [] w ao n es) (hb : Below w.heap.size w W) : PaIn [] W ao n es := h.tn (Tn.ofBelow hb [])
theorem poMay_len {es : List Pa} (h : poMay es = true) : es.length ≤ 16 := ((poMay_iff es).1 h).2.1
theorem ptL_len (es : List Pa) (k x : Int) : (ptL es k x).length ≤ 16 := by
  unfold ptL
  split
  · rename_i h
    rw [List.length_set]
    have h1 : poMay es = true := by
      unfold ptOk at h
      cases hm : poMay es with
      | true => rfl
      | false => rw [hm] at h; simp at h
    exact poMay_len h1
  · exact Nat.zero_le _
theorem pfL_len (es : List Pa) (k x : Int) : (pfL es k x).length ≤ 16 := by
  unfold pfL
  split
  · rename_i h
    rw [List.length_set]
    have h1 : poMay es = true := by
      unfold pfOk at h
      cases hm : poMay es with
      | true => rfl
      | false => rw [hm] at h; simp at h
    exact poMay_len h1
  · exact Nat.zero_le _
theorem pnL_len (n : Int) : (pnL n).length ≤ 16 := by
  unfold pnL
  split
  · rename_i h
    rw [List.length_replicate]
    obtain ⟨_, h2⟩ : 1 ≤ n ∧ n ≤ 16 := by simpa [pnOk] using h
    omega
  · exact Nat.zero_le _
/-- What the laws ask of the program: each call answers as the chapter says. -/
structure PoolsOk : Prop where
  lease : ∀ {w : World} {ao : Option Addr} {n cap : Nat} {es : List Pa}, PaIn [] w ao n es → ∀ x t : Int, Calls Try.prog 9 #[.slice ao n cap, .int .i64 x, .int .i64 t] w fun e w' => e = .returned (.tuple #[.int .i64 (plX es x t), .int .i64 (plE es x t)]) ∧ Below w.heap.size w w'
  take : ∀ {w : World} {ao : Option Addr} {n cap : Nat} {es : List Pa}, PaIn [] w ao n es → n ≤ 5864062014800 → ∀ k x : Int, Calls Try.prog 11 #[.slice ao n cap, .int .i64 k, .int .i64 x] w (PaOut w (ptL es k x) (ptE es k x))
  free : ∀ {w : World} {ao : Option Addr} {n cap : Nat} {es : List Pa}, PaIn [] w ao n es → n ≤ 5864062014800 → ∀ k x : Int, Calls Try.prog 13 #[.slice ao n cap, .int .i64 k, .int .i64 x] w (PaOut w (pfL es k x) (pfE es k x))
  new : ∀ (m : Int) (w : World), Calls Try.prog 15 #[.int .i64 m] w (PaOut w (pnL m) (pnE m))
/-- A call's answer, read only. -/
theorem PoolsOk.takes (P : PoolsOk) {w : World} {ao : Option Addr} {n cap : Nat} {es : List Pa} (h : PaIn [] w ao n es) (hn : n ≤ 5864062014800) {k x : Int} {es2 : List Pa} {m : Nat} {r : Int} (he : ptL es k x = es2) (hm : es2.length = m) (hr : ptE es k x = r) : Calls Try.prog 11 #[.slice ao n cap, .int .i64 k, .int .i64 x] w fun e w' => ∃ a2 c2, e = .returned (.tuple #[.slice a2 m c2, .int .i64 r]) ∧ PaIn [] w' a2 m es2 ∧ Below w.heap.size w w' := by
  subst he hm hr
  exact (P.take h hn k x).mono fun e w' h => h.rd (Nat.le_trans (ptL_len es k x) (by decide))
theorem PoolsOk.frees (P : PoolsOk) {w : World} {ao : Option Addr} {n cap : Nat} {es : List Pa} (h : PaIn [] w ao n es) (hn : n ≤ 5864062014800) {k x : Int} {es2 : List Pa} {m : Nat} {r : Int} (he : pfL es k x = es2) (hm : es2.length = m) (hr : pfE es k x = r) : Calls Try.prog 13 #[.slice ao n cap, .int .i64 k, .int .i64 x] w fun e w' => ∃ a2 c2, e = .returned (.tuple #[.slice a2 m c2, .int .i64 r]) ∧ PaIn [] w' a2 m es2 ∧ Below w.heap.size w w' := by
  subst he hm hr
  exact (P.free h hn k x).mono fun e w' h => h.rd (Nat.le_trans (pfL_len es k x) (by decide))
theorem PoolsOk.news (P : PoolsOk) {k : Int} {es2 : List Pa} {m : Nat} {r : Int} (he : pnL k = es2) (hm : es2.length = m) (hr : pnE k = r) (w : World) : Calls Try.prog 15 #[.int .i64 k] w fun e w' => ∃ a2 c2, e = .returned (.tuple #[.slice a2 m c2, .int .i64 r]) ∧ PaIn [] w' a2 m es2 ∧ Below w.heap.size w w' := by
  subst he hm hr
  exact (P.new k w).mono fun e w' h => h.rd (Nat.le_trans (pnL_len k) (by decide))
theorem PoolsOk.leases (P : PoolsOk) {w : World} {ao : Option Addr} {n cap : Nat} {es : List Pa} (h : PaIn [] w ao n es) {x t a r : Int} (ha : plX es x t = a) (hr : plE es x t = r) : Calls Try.prog 9 #[.slice ao n cap, .int .i64 x, .int .i64 t] w fun e w' => e = .returned (.tuple #[.int .i64 a, .int .i64 r]) ∧ Below w.heap.size w w' := by
  subst ha hr
  exact P.lease h x t
end Go.Proofs.Ytamhjnjabjfgeaa
