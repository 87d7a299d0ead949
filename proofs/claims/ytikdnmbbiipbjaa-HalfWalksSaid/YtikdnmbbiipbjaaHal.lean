/- For the laws of half-open logins: what they ask of the program. Condition: the row's size. -/
import Derived.Test.YtikdnmbbiipbjaaHar3
import Derived.Test.YtikdnmbbiipbjaaLnum
namespace Go.Proofs.Ytikdnmbbiipbjaa
open Go Go.RowKit

theorem haAL_len (es : List Ha) (h : Ha) (most t : Int) : (haAL es h most t).length ≤ es.length + 1 := by
  unfold haAL
  split
  · rw [List.length_append]
    exact Nat.add_le_add_right (haLeft_len es t) 1
  · exact Nat.zero_le _
theorem haTL_len (es : List Ha) (x t : Int) : (haTL es x t).length ≤ es.length := by
  unfold haTL
  have h := haLeft_len es t
  split
  · rw [List.length_append, List.length_take, List.length_drop]
    omega
  · exact Nat.zero_le _
/-- What a call gave, read only. -/
def HaRow (w : World) (es : List Ha) (e : Ending) (w' : World) : Prop := ∃ a2 c2, e = .returned (.slice a2 es.length c2) ∧ HaNew w es a2 c2 w'
/-- What the laws ask of the program: each call answers as the chapter says. -/
structure HalvesOk : Prop where
  expire : ∀ {w : World} {ao : Option Addr} {n cap : Nat} {es : List Ha}, HaIn [] w ao n es → n ≤ 3518437208878 → ∀ t : Int, Calls Try.prog 12 #[.slice ao n cap, .int .i64 t] w (HaRow w (haLeft es t))
  add : ∀ {w : World} {ao : Option Addr} {n cap : Nat} {es : List Ha}, HaIn [] w ao n es → n ≤ 3518437208878 → ∀ (f0 f1 f2 f3 f4 most t : Int), Calls Try.prog 8 #[.slice ao n cap, .agg #[.int .i64 f0, .int .i64 f1, .int .i64 f2, .int .i64 f3, .int .i64 f4], .int .i64 most, .int .i64 t] w (HaOut w (haAL es ⟨f0, f1, f2, f3, f4⟩ most t) (haAE es ⟨f0, f1, f2, f3, f4⟩ most t))
  take : ∀ {w : World} {ao : Option Addr} {n cap : Nat} {es : List Ha}, HaIn [] w ao n es → n ≤ 3518437208878 → ∀ x t : Int, Calls Try.prog 10 #[.slice ao n cap, .int .i64 x, .int .i64 t] w (HaTri w (haTX es x t) (haTL es x t) (haTE es x t))
/-- A call's answer, read only. -/
theorem HalvesOk.expires (P : HalvesOk) {w : World} {ao : Option Addr} {n cap : Nat} {es : List Ha} (h : HaIn [] w ao n es) (hn : n ≤ 3518437208878) {t : Int} {es2 : List Ha} {m : Nat} (he : haLeft es t = es2) (hm : es2.length = m) : Calls Try.prog 12 #[.slice ao n cap, .int .i64 t] w fun e w' => ∃ a2 c2, e = .returned (.slice a2 m c2) ∧ HaIn [] w' a2 m es2 ∧ Below w.heap.size w w' := by
  subst he hm
  refine (P.expire h hn t).mono fun e w' ⟨a2, c2, e1, hS⟩ => ⟨a2, c2, e1, hS.in ?_, hS.bel⟩
  have h1 := haLeft_len es t
  have h2 := h.len
  omega
theorem HalvesOk.adds (P : HalvesOk) {w : World} {ao : Option Addr} {n cap : Nat} {es : List Ha} (h : HaIn [] w ao n es) (hn : n ≤ 3518437208878) {f0 f1 f2 f3 f4 most t : Int} {es2 : List Ha} {m : Nat} {r : Int} (he : haAL es ⟨f0, f1, f2, f3, f4⟩ most t = es2) (hm : es2.length = m) (hr : haAE es ⟨f0, f1, f2, f3, f4⟩ most t = r) : Calls Try.prog 8 #[.slice ao n cap, .agg #[.int .i64 f0, .int .i64 f1, .int .i64 f2, .int .i64 f3, .int .i64 f4], .int .i64 most, .int .i64 t] w fun e w' => ∃ a2 c2, e = .returned (.tuple #[.slice a2 m c2, .int .i64 r]) ∧ HaIn [] w' a2 m es2 ∧ Below w.heap.size w w' := by
  subst he hm hr
  refine (P.add h hn f0 f1 f2 f3 f4 most t).mono fun e w' ⟨a2, c2, e1, hS⟩ => ⟨a2, c2, e1, hS.in ?_, hS.bel⟩
  have h1 := haAL_len es ⟨f0, f1, f2, f3, f4⟩ most t
  have h2 := h.len
  omega
theorem HalvesOk.takes (P : HalvesOk) {w : World} {ao : Option Addr} {n cap : Nat} {es : List Ha} (h : HaIn [] w ao n es) (hn : n ≤ 3518437208878) {x t : Int} {a : Ha} {es2 : List Ha} {m : Nat} {r : Int} (ha : haTX es x t = a) (he : haTL es x t = es2) (hm : es2.length = m) (hr : haTE es x t = r) : Calls Try.prog 10 #[.slice ao n cap, .int .i64 x, .int .i64 t] w fun e w' => ∃ a2 c2, e = .returned (.tuple #[.agg #[.int .i64 a.h, .int .i64 a.u, .int .i64 a.c, .int .i64 a.s, .int .i64 a.t], .slice a2 m c2, .int .i64 r]) ∧ HaIn [] w' a2 m es2 ∧ Below w.heap.size w w' := by
  subst ha he hm hr
  refine (P.take h hn x t).mono fun e w' ⟨a2, c2, e1, hS⟩ => ⟨a2, c2, e1, hS.in ?_, hS.bel⟩
  have h1 := haTL_len es x t
  have h2 := h.len
  omega
/-- A row in the text. -/
theorem ha_lit (W : World) (fs : List Ha) (hf : fs.length ≤ 3518437208883) : HaIn [] (W.alloc (.cells (haCells fs).toArray THa)) (some ⟨W.heap.size, 0, none⟩) fs.length fs :=
  ⟨rfl, .inr ⟨W.heap.size, 0, rfl, haAt_lit W fs, by simp, (Array.getElem?_eq_some_iff.1 (heap_alloc_new W _)).1⟩, by omega⟩
theorem ha_yes {w : World} {ao bo : Option Addr} {n m c1 c2 : Nat} {es : List Ha} (h1 : HaIn [] w ao n es) (h2 : HaIn [] w bo m es) :
    Calls Try.prog 13 #[.slice ao n c1, .slice bo m c2] w fun e w' => e = .returned (.bool true) ∧ Below w.heap.size w w' :=
  (ha_same h1 h2).mono fun e w' ⟨a, b⟩ => ⟨by rw [a]; simp, b⟩
end Go.Proofs.Ytikdnmbbiipbjaa
