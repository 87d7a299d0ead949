/- The reference's Take: what it answers. Condition: the row's size. -/
import Derived.Test.YtamhjnjabjfgeaaPar3
namespace Go.Proofs.Ytamhjnjabjfgeaa
open Go Go.RowKit

/-- A row of one's own, a number beside it. -/
def PaOut (w : World) (es : List Pa) (n : Int) (e : Ending) (w' : World) : Prop := ∃ a2 c2, e = .returned (.tuple #[.slice a2 es.length c2, .int .i64 n]) ∧ At w ((rowE TPa 3 (.slice a2 es.length c2) es.length (paCells es)).star emp) w'
theorem PaOut.no {w w' : World} (h : Below w.heap.size w w') (n : Int) : PaOut w [] n (.returned (.tuple #[.slice none 0 0, .int .i64 n])) w' := ⟨none, 0, rfl, At.erow0 TPa 3 (At.none h)⟩
set_option maxRecDepth 100000 in
set_option maxHeartbeats 2000000 in
theorem rtake {w : World} {ao : Option Addr} {n cap : Nat} {es : List Pa} (hes : PaIn [] w ao n es) (hn : n ≤ 5864062014800) (k x : Int) :
    Calls Try.prog 12 #[.slice ao n cap, .int .i64 k, .int .i64 x] w (PaOut w (ptL es k x) (ptE es k x)) := by
  have hM := rpoolmay (cap := cap) hes x
  have hlen := hes.len
  cases ho : ptOk es k x with
  | true =>
    obtain ⟨h1, h2, h3, h4, h5⟩ : poMay es = true ∧ poUser x = true ∧ 0 ≤ k ∧ k < es.length ∧ (es.getD k.toNat .none).b = false := by simpa [ptOk, and_assoc] using ho
    obtain ⟨j, rfl⟩ := Int.eq_ofNat_of_zero_le h3
    rw [h1, h2] at hM
    have hj : j < es.length := by omega
    obtain ⟨b, off, a, rfl, ha, hcell⟩ := hes.elem (k := j) (by omega)
    rw [Int.toNat_natCast, ha] at h5
    have HC := Lib.hid hcell
    have HW := Lib.hid (fun w1 (hb : Below w.heap.size w w1) => rwith (cap := cap) (hes.tn (Tn.ofBelow hb [])) hn hj true x 0)
    have HM := Lib.hid hM
    have hjI : (j : Int) < (n : Int) := by omega
    have HE := Lib.hid (show ptL es (j : Int) x = es.set j ⟨true, x, 0⟩ ∧ ptE es (j : Int) x = 0 from by unfold ptL ptE; rw [if_pos ho, if_pos ho]; exact ⟨rfl, rfl⟩)
    have HL := Lib.hid hlen
    clear hM hlen ho h1 h2 h3 h4 hes hcell ha hj
    go_enter Try.func12, Try.ntmps12
    go_wp2_with (first
      | (go_at_call 29; (with_reducible refine HM.out.mono ?_); rintro r w1 ⟨rfl, hb0⟩; obtain ⟨c0, c1, c2⟩ := HC.out _ hb0; have HB := Lib.hid hb0; clear hb0)
      | (go_at_call 33; (with_reducible refine (HW.out _ HB.out).mono ?_); rintro r w2 ⟨a2, cc, rfl, hS⟩))
    go_ret2
    rw [HE.out.1, HE.out.2]
    refine ⟨a2, cc, by rw [List.length_set, ← HL.out]; rfl, ?_⟩
    rw [List.length_set, ← HL.out]
    rw [← HL.out] at hS
    exact At.under HB.out hS
  | false =>
    rw [show ptL es k x = [] by unfold ptL; rw [ho]; rfl, show ptE es k x = 1600 by unfold ptE; rw [ho]; rfl]
    have hcase : (poMay es && poUser x) = false ∨ ((poMay es && poUser x) = true ∧ k < 0) ∨ ((poMay es && poUser x) = true ∧ 0 ≤ k ∧ n ≤ k) ∨ ((poMay es && poUser x) = true ∧ ∃ j : Nat, k = j ∧ j < n ∧ (es.getD j .none).b = true) := by
      cases h1 : (poMay es && poUser x) with
      | false => exact .inl rfl
      | true =>
        right
        by_cases h2 : k < 0
        · exact .inl ⟨rfl, h2⟩
        · by_cases h3 : (n : Int) ≤ k
          · exact .inr (.inl ⟨rfl, by omega, h3⟩)
          · obtain ⟨j, rfl⟩ := Int.eq_ofNat_of_zero_le (show 0 ≤ k by omega)
            refine .inr (.inr ⟨rfl, j, rfl, by omega, ?_⟩)
            unfold ptOk at ho
            rw [h1, show decide ((0 : Int) ≤ (j : Int)) = true from decide_eq_true (by omega), show decide ((j : Int) < (es.length : Int)) = true from decide_eq_true (by omega)] at ho
            simpa using ho
    clear ho
    rcases hcase with h1 | ⟨h1, h2⟩ | ⟨h1, h2, h3⟩ | ⟨h1, j, rfl, h2, h3⟩
    · rw [h1] at hM
      have HM := Lib.hid hM
      clear hM hlen h1 hes
      go_enter Try.func12, Try.ntmps12
      go_wp2_with (go_at_call 29; (with_reducible refine HM.out.mono ?_); rintro r w1 ⟨rfl, hb0⟩)
      go_ret2
      exact PaOut.no hb0 _
    · rw [h1] at hM
      have HM := Lib.hid hM
      clear hM hlen h1 hes
      go_enter Try.func12, Try.ntmps12
      go_wp2_with (go_at_call 29; (with_reducible refine HM.out.mono ?_); rintro r w1 ⟨rfl, hb0⟩)
      go_ret2
      exact PaOut.no hb0 _
    · rw [h1] at hM
      have HM := Lib.hid hM
      clear hM hlen h1 hes
      go_enter Try.func12, Try.ntmps12
      go_wp2_with (go_at_call 29; (with_reducible refine HM.out.mono ?_); rintro r w1 ⟨rfl, hb0⟩)
      go_ret2
      exact PaOut.no hb0 _
    · rw [h1] at hM
      obtain ⟨b, off, a, rfl, ha, hcell⟩ := hes.elem (k := j) h2
      rw [ha] at h3
      have HC := Lib.hid hcell
      have HM := Lib.hid hM
      have hjI : (j : Int) < (n : Int) := by omega
      clear hM hlen h1 hes hcell ha h2
      go_enter Try.func12, Try.ntmps12
      go_wp2_with (go_at_call 29; (with_reducible refine HM.out.mono ?_); rintro r w1 ⟨rfl, hb0⟩; obtain ⟨c0, c1, c2⟩ := HC.out _ hb0)
      go_ret2
      exact PaOut.no hb0 _
end Go.Proofs.Ytamhjnjabjfgeaa
