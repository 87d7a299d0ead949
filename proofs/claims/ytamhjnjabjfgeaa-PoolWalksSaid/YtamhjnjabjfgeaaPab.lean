/- For the laws of rows of calls: masks, a pool of so many that may be, what taking and freeing make of it. No program is named in what is said. -/
import Derived.Test.YtamhjnjabjfgeaaPafo
import Derived.Test.YtamhjnjabjfgeaaIArg
namespace Go.Proofs.Ytamhjnjabjfgeaa
open Go Go.RowKit

theorem maskN (z : Int) (k : Nat) (hk : k ≤ 62) : ∃ u : Nat, bits .and .i64 z ((2 ^ k - 1 : Nat) : Int) = (u : Int) ∧ u < 2 ^ k := by
  have h := i64_mask z k hk
  have hp : 0 < 2 ^ k := Nat.two_pow_pos k
  refine ⟨(z % ((2 ^ k : Nat) : Int)).toNat, ?_, ?_⟩
  · rw [h]; omega
  · have h1 := Int.emod_lt_of_pos z (show (0 : Int) < ((2 ^ k : Nat) : Int) by omega)
    omega
theorem mask1 (z : Int) : ∃ u : Nat, bits .and .i64 z 1 = (u : Int) ∧ u < 2 := maskN z 1 (by omega)
theorem mask3 (z : Int) : ∃ u : Nat, bits .and .i64 z 3 = (u : Int) ∧ u < 4 := maskN z 2 (by omega)
theorem mask7 (z : Int) : ∃ u : Nat, bits .and .i64 z 7 = (u : Int) ∧ u < 8 := maskN z 3 (by omega)
theorem mask31 (z : Int) : ∃ u : Nat, bits .and .i64 z 31 = (u : Int) ∧ u < 32 := maskN z 5 (by omega)
theorem mask1023 (z : Int) : ∃ u : Nat, bits .and .i64 z 1023 = (u : Int) ∧ u < 1024 := maskN z 10 (by omega)
theorem poMay_set {es : List Pa} {q : Nat} {a : Pa} (h : poMay es = true) (ha : a.may = true) : poMay (es.set q a) = true := by
  obtain ⟨h1, h2, h3⟩ := (poMay_iff es).1 h
  refine (poMay_iff _).2 ⟨by rw [List.length_set]; exact h1, by rw [List.length_set]; exact h2, fun x hx => ?_⟩
  rcases List.mem_or_eq_of_mem_set hx with c | c
  · exact h3 x c
  · rw [c]; exact ha
theorem poMay_get {es : List Pa} {q : Nat} (h : poMay es = true) (hq : q < es.length) : (es.getD q Pa.none).may = true := by
  obtain ⟨h1, h2, h3⟩ := (poMay_iff es).1 h
  rw [List.getD, List.getElem?_eq_getElem hq]
  exact h3 _ (List.getElem_mem _)
theorem pfree_ok {es : List Pa} {q : Nat} {a : Pa} {y : Int} (h : poMay es = true) (hq : q < es.length) (ha : es.getD q Pa.none = a) (hb : a.b = true) (hy : 0 ≤ y) :
    pfL es (q : Int) y = es.set q ⟨false, a.l, y⟩ ∧ pfE es (q : Int) y = 0 ∧ poMay (es.set q ⟨false, a.l, y⟩) = true := by
  have ho : pfOk es (q : Int) y = true := by
    unfold pfOk
    rw [h, Int.toNat_natCast, ha, hb, decide_eq_true hy, decide_eq_true (show (0 : Int) ≤ (q : Int) by omega), decide_eq_true (show (q : Int) < (es.length : Int) by omega)]
    rfl
  unfold pfL pfE
  rw [if_pos ho, if_pos ho, Int.toNat_natCast, ha]
  refine ⟨rfl, rfl, poMay_set h ?_⟩
  have hm := poMay_get h hq
  rw [ha] at hm
  obtain ⟨m1, m2, _⟩ := (Pa.may_iff a).1 hm
  exact (Pa.may_iff _).2 ⟨m1, m2, hy⟩
theorem ptake_ok {es : List Pa} {q : Nat} {a : Pa} {x : Int} (h : poMay es = true) (hq : q < es.length) (ha : es.getD q Pa.none = a) (hb : a.b = false) (hx0 : 0 ≤ x) (hx : x < 8) :
    ptL es (q : Int) x = es.set q ⟨true, x, 0⟩ ∧ ptE es (q : Int) x = 0 ∧ poMay (es.set q ⟨true, x, 0⟩) = true := by
  have ho : ptOk es (q : Int) x = true := by
    unfold ptOk
    rw [h, (poUser_iff x).2 ⟨hx0, hx⟩, Int.toNat_natCast, ha, hb, decide_eq_true (show (0 : Int) ≤ (q : Int) by omega), decide_eq_true (show (q : Int) < (es.length : Int) by omega)]
    rfl
  unfold ptL ptE
  rw [if_pos ho, if_pos ho, Int.toNat_natCast]
  exact ⟨rfl, rfl, poMay_set h ((Pa.may_iff _).2 ⟨by show -1 ≤ x; omega, hx, Int.le_refl 0⟩)⟩
theorem set_getD {es : List Pa} {q : Nat} {a : Pa} (hq : q < es.length) (j : Nat) : (es.set q a).getD j Pa.none = if j = q then a else es.getD j Pa.none := by
  by_cases h : j = q
  · subst h; simp [List.getD, hq]
  · rw [if_neg h, List.getD, List.getElem?_set_ne (fun c => h c.symm), ← List.getD]
/-- A pool that came of a call, read only: the first element's place, every one's cells. -/
theorem PaIn.place {w : World} {ao : Option Addr} {n : Nat} {es : List Pa} (h : PaIn [] w ao n es) (hn : 0 < n) : ∃ b off, ao = some ⟨b, off, none⟩ ∧ ∀ k, k < n → ∀ W, Below w.heap.size w W → W.cell? ⟨b, off + k * 3, none⟩ = some (.bool (es.getD k Pa.none).b) ∧ W.cell? ⟨b, off + k * 3 + 1, none⟩ = some (.int .i64 (es.getD k Pa.none).l) ∧ W.cell? ⟨b, off + k * 3 + 2, none⟩ = some (.int .i64 (es.getD k Pa.none).u) := by
  obtain ⟨b, off, _, rfl, _⟩ := h.elem hn
  refine ⟨b, off, rfl, fun k hk W hW => ?_⟩
  obtain ⟨b', off', a, e, ha, hc⟩ := h.elem hk
  obtain ⟨rfl, rfl⟩ : b = b' ∧ off = off' := by simpa using e
  rw [ha]
  exact hc W hW
theorem PaIn.any {F : List Nat} {w : World} {ao : Option Addr} {n : Nat} {es : List Pa} (h : PaIn F w ao n es) : PaIn [] w ao n es :=
  ⟨h.len, h.row.imp_right fun ⟨b, off, e, h1, _, h2⟩ => ⟨b, off, e, h1, by simp, h2⟩, h.few⟩
/-- What lay before does not lie in a block that was laid later. -/
theorem PaIn.old {F : List Nat} {w : World} {ao : Option Addr} {n : Nat} {es : List Pa} (h : PaIn [] w ao n es) (hF : ∀ k ∈ F, w.heap.size ≤ k) : PaIn F w ao n es :=
  ⟨h.len, h.row.imp_right fun ⟨b, off, e, h1, _, h2⟩ => ⟨b, off, e, h1, fun c => by have := hF b c; omega, h2⟩, h.few⟩
/-- What a call made does not lie in a block that was there before. -/
theorem At.paNew {w0 w : World} {ao : Option Addr} {n cap : Nat} {es : List Pa} (h : At w0 ((rowE TPa 3 (.slice ao n cap) es.length (paCells es)).star emp) w) (hn : n = es.length) (hf : es.length ≤ 1000) {F : List Nat} (hF : ∀ k ∈ F, k < w0.heap.size) : PaIn F w ao n es := by
  obtain ⟨l1, r1, f1⟩ := h.paIn hn hf
  refine ⟨l1, r1.imp_right fun ⟨b, off, e, h1, _, h2⟩ => ⟨b, off, e, h1, fun c => ?_, h2⟩, f1⟩
  obtain ⟨_, ⟨F1, F2, rfl, ⟨_, rfl⟩, _, _⟩, hB, _⟩ := h
  have := hB b (by rw [e]; simp [Value.ownBlock])
  have := hF b c
  omega
/-- A row that a call made, apart from what lay before. -/
def PaNw (w : World) (ao : Option Addr) (n : Nat) (es : List Pa) (w' : World) : Prop := Below w.heap.size w w' ∧ ∀ F : List Nat, (∀ k ∈ F, k < w.heap.size) → PaIn F w' ao n es
theorem PaOut.nw {w w' : World} {es : List Pa} {n : Int} {e : Ending} (h : PaOut w es n e w') (hf : es.length ≤ 1000) {m : Nat} (hm : es.length = m) : ∃ a2 c2, e = .returned (.tuple #[.slice a2 m c2, .int .i64 n]) ∧ PaNw w a2 m es w' := by
  subst hm
  obtain ⟨a2, c2, rfl, hS⟩ := h
  exact ⟨a2, c2, rfl, hS.bel, fun F hF => hS.paNew rfl hf hF⟩
theorem PoolsOk.takeN (P : PoolsOk) {w : World} {ao : Option Addr} {n cap : Nat} {es : List Pa} (h : PaIn [] w ao n es) (hn : n ≤ 5864062014800) {k x : Int} {es2 : List Pa} (m : Nat) {r : Int} (he : ptL es k x = es2) (hm : es2.length = m) (hr : ptE es k x = r) : Calls Try.prog 11 #[.slice ao n cap, .int .i64 k, .int .i64 x] w fun e w' => ∃ a2 c2, e = .returned (.tuple #[.slice a2 m c2, .int .i64 r]) ∧ PaNw w a2 m es2 w' := by
  subst he hr
  exact (P.take h hn k x).mono fun e w' h => h.nw (Nat.le_trans (ptL_len es k x) (by decide)) hm
theorem PoolsOk.freeN (P : PoolsOk) {w : World} {ao : Option Addr} {n cap : Nat} {es : List Pa} (h : PaIn [] w ao n es) (hn : n ≤ 5864062014800) {k x : Int} {es2 : List Pa} (m : Nat) {r : Int} (he : pfL es k x = es2) (hm : es2.length = m) (hr : pfE es k x = r) : Calls Try.prog 13 #[.slice ao n cap, .int .i64 k, .int .i64 x] w fun e w' => ∃ a2 c2, e = .returned (.tuple #[.slice a2 m c2, .int .i64 r]) ∧ PaNw w a2 m es2 w' := by
  subst he hr
  exact (P.free h hn k x).mono fun e w' h => h.nw (Nat.le_trans (pfL_len es k x) (by decide)) hm
theorem PaIn.poke {F : List Nat} {w : World} {ao : Option Addr} {n : Nat} {es : List Pa} (h : PaIn F w ao n es) {p : Nat} (hp : p ∈ F) (i : Nat) (v : Value) : PaIn F (w.setCell ⟨p, i, none⟩ v) ao n es := h.tn ((Tn.refl _ _).setCell (.inl hp) _)
theorem PaIn.lay {F : List Nat} {w W : World} {ao : Option Addr} {n : Nat} {es : List Pa} (h : PaIn F w ao n es) (hb : Below w.heap.size w W) : PaIn F W ao n es := h.tn (Tn.ofBelow hb F)
end Go.Proofs.Ytamhjnjabjfgeaa
