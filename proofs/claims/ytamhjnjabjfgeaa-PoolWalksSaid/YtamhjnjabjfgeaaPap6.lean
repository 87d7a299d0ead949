/- Package pool's Take and Free: what they answer; the four calls together. Condition: the row's size. -/
import Derived.Test.YtamhjnjabjfgeaaPal
import Derived.Test.YtamhjnjabjfgeaaPap1
import Derived.Test.YtamhjnjabjfgeaaPap2
import Derived.Deep.RegionWith
namespace Go.Proofs.Ytamhjnjabjfgeaa
open Go Go.RowKit

set_option maxRecDepth 100000 in
set_option maxHeartbeats 2000000 in
theorem ptake {w : World} {ao : Option Addr} {n cap : Nat} {es : List Pa} (hes : PaIn [] w ao n es) (hn : n ≤ 5864062014800) (k x : Int) :
    Calls Try.prog 11 #[.slice ao n cap, .int .i64 k, .int .i64 x] w (PaOut w (ptL es k x) (ptE es k x)) := by
  have hM := ppmay (cap := cap) hes
  have hlen := hes.len
  cases ho : ptOk es k x with
  | true =>
    obtain ⟨h1, h2, h3, h4, h5⟩ : poMay es = true ∧ poUser x = true ∧ 0 ≤ k ∧ k < es.length ∧ (es.getD k.toNat .none).b = false := by simpa [ptOk, and_assoc] using ho
    obtain ⟨j, rfl⟩ := Int.eq_ofNat_of_zero_le h3
    rw [h1] at hM
    have hj : j < es.length := by omega
    obtain ⟨b, off, a, rfl, ha, hcell⟩ := hes.elem (k := j) (by omega)
    rw [Int.toNat_natCast, ha] at h5
    have HC := Lib.hid hcell
    have HW := Lib.hid (fun w1 (hb : Below w.heap.size w w1) => pwith (cap := cap) (hes.tn (Tn.ofBelow hb [])) hn hj true x 0)
    have HM := Lib.hid hM
    have HU := Lib.hid (fun w => puser x true h2.symm w)
    have HH := Lib.hid (fun w => phas (some ⟨b, off, none⟩) n cap (j : Int) true (by simp; omega) w)
    have hjI : (j : Int) < (n : Int) := by omega
    have HE := Lib.hid (show ptL es (j : Int) x = es.set j ⟨true, x, 0⟩ ∧ ptE es (j : Int) x = 0 from by unfold ptL ptE; rw [if_pos ho, if_pos ho]; exact ⟨rfl, rfl⟩)
    have HL := Lib.hid hlen
    clear hM hlen ho h1 h2 h3 h4 hes hcell ha hj
    go_enter Try.func11, Try.ntmps11
    go_wp2_with (first
      | (go_at_call 23; (with_reducible refine HM.out.mono ?_); rintro r w1 ⟨rfl, hb0⟩; obtain ⟨c0, c1, c2⟩ := HC.out _ hb0; have HB := Lib.hid hb0; clear hb0)
      | (go_at_call 24; (with_reducible refine (HU.out _).mono ?_); rintro r w2 ⟨rfl, rfl⟩)
      | (go_at_call 31; (with_reducible refine (HH.out _).mono ?_); rintro r w2 ⟨rfl, rfl⟩)
      | (go_at_call 32; (with_reducible refine (HW.out _ HB.out).mono ?_); rintro r w2 ⟨a2, cc, rfl, hS⟩))
    go_ret2
    rw [HE.out.1, HE.out.2]
    refine ⟨a2, cc, by rw [List.length_set, ← HL.out]; rfl, ?_⟩
    rw [List.length_set, ← HL.out]
    rw [← HL.out] at hS
    exact At.under HB.out hS
  | false =>
    rw [show ptL es k x = [] by unfold ptL; rw [ho]; rfl, show ptE es k x = 1600 by unfold ptE; rw [ho]; rfl]
    have hcase : poMay es = false ∨ (poMay es = true ∧ poUser x = false) ∨ (poMay es = true ∧ poUser x = true ∧ (decide (0 ≤ k) && decide (k < n)) = false) ∨ (poMay es = true ∧ poUser x = true ∧ ∃ j : Nat, k = j ∧ j < n ∧ (es.getD j .none).b = true) := by
      cases h1 : poMay es with
      | false => exact .inl rfl
      | true =>
        right
        cases hu : poUser x with
        | false => exact .inl ⟨rfl, rfl⟩
        | true =>
          right
          cases hk : (decide (0 ≤ k) && decide (k < (n : Int))) with
          | false => exact .inl ⟨rfl, rfl, rfl⟩
          | true =>
            obtain ⟨k0, k1⟩ : 0 ≤ k ∧ k < (n : Int) := by simpa using hk
            obtain ⟨j, rfl⟩ := Int.eq_ofNat_of_zero_le k0
            refine .inr ⟨rfl, rfl, j, rfl, by omega, ?_⟩
            unfold ptOk at ho
            rw [h1, hu, show decide ((0 : Int) ≤ (j : Int)) = true from decide_eq_true (by omega), show decide ((j : Int) < (es.length : Int)) = true from decide_eq_true (by omega)] at ho
            simpa using ho
    clear ho
    rcases hcase with h1 | ⟨h1, h2⟩ | ⟨h1, h2, h3⟩ | ⟨h1, h2, j, rfl, h3, h4⟩
    · rw [h1] at hM
      have HM := Lib.hid hM
      clear hM hlen h1 hes
      go_enter Try.func11, Try.ntmps11
      go_wp2_with (go_at_call 23; (with_reducible refine HM.out.mono ?_); rintro r w1 ⟨rfl, hb0⟩)
      go_ret2
      exact PaOut.no hb0 _
    · rw [h1] at hM
      have HM := Lib.hid hM
      have HU := Lib.hid (fun w => puser x false h2.symm w)
      clear hM hlen h1 h2 hes
      go_enter Try.func11, Try.ntmps11
      go_wp2_with (first
        | (go_at_call 23; (with_reducible refine HM.out.mono ?_); rintro r w1 ⟨rfl, hb0⟩)
        | (go_at_call 24; (with_reducible refine (HU.out _).mono ?_); rintro r w2 ⟨rfl, rfl⟩))
      go_ret2
      exact PaOut.no hb0 _
    · rw [h1] at hM
      have HM := Lib.hid hM
      have HU := Lib.hid (fun w => puser x true h2.symm w)
      have HH := Lib.hid (fun w => phas ao n cap k false h3.symm w)
      clear hM hlen h1 h2 h3 hes
      go_enter Try.func11, Try.ntmps11
      go_wp2_with (first
        | (go_at_call 23; (with_reducible refine HM.out.mono ?_); rintro r w1 ⟨rfl, hb0⟩)
        | (go_at_call 24; (with_reducible refine (HU.out _).mono ?_); rintro r w2 ⟨rfl, rfl⟩)
        | (go_at_call 31; (with_reducible refine (HH.out _).mono ?_); rintro r w2 ⟨rfl, rfl⟩))
      go_ret2
      exact PaOut.no hb0 _
    · rw [h1] at hM
      obtain ⟨b, off, a, rfl, ha, hcell⟩ := hes.elem (k := j) h3
      rw [ha] at h4
      have HC := Lib.hid hcell
      have HM := Lib.hid hM
      have HU := Lib.hid (fun w => puser x true h2.symm w)
      have HH := Lib.hid (fun w => phas (some ⟨b, off, none⟩) n cap (j : Int) true (by simp; omega) w)
      have hjI : (j : Int) < (n : Int) := by omega
      clear hM hlen h1 h2 hes hcell ha h3
      go_enter Try.func11, Try.ntmps11
      go_wp2_with (first
        | (go_at_call 23; (with_reducible refine HM.out.mono ?_); rintro r w1 ⟨rfl, hb0⟩; obtain ⟨c0, c1, c2⟩ := HC.out _ hb0)
        | (go_at_call 24; (with_reducible refine (HU.out _).mono ?_); rintro r w2 ⟨rfl, rfl⟩)
        | (go_at_call 31; (with_reducible refine (HH.out _).mono ?_); rintro r w2 ⟨rfl, rfl⟩))
      go_ret2
      exact PaOut.no hb0 _
set_option maxRecDepth 100000 in
set_option maxHeartbeats 2000000 in
theorem pfree {w : World} {ao : Option Addr} {n cap : Nat} {es : List Pa} (hes : PaIn [] w ao n es) (hn : n ≤ 5864062014800) (k x : Int) :
    Calls Try.prog 13 #[.slice ao n cap, .int .i64 k, .int .i64 x] w (PaOut w (pfL es k x) (pfE es k x)) := by
  have hM := ppmay (cap := cap) hes
  have hlen := hes.len
  cases ho : pfOk es k x with
  | true =>
    obtain ⟨h1, h3, h4, h5, h6⟩ : poMay es = true ∧ 0 ≤ k ∧ k < es.length ∧ (es.getD k.toNat .none).b = true ∧ 0 ≤ x := by simpa [pfOk, and_assoc] using ho
    obtain ⟨j, rfl⟩ := Int.eq_ofNat_of_zero_le h3
    rw [h1] at hM
    have hj : j < es.length := by omega
    obtain ⟨b, off, a, rfl, ha, hcell⟩ := hes.elem (k := j) (by omega)
    rw [Int.toNat_natCast, ha] at h5
    have HC := Lib.hid hcell
    have HW := Lib.hid (fun w1 (hb : Below w.heap.size w w1) => pwith (cap := cap) (hes.tn (Tn.ofBelow hb [])) hn hj false a.l x)
    have HM := Lib.hid hM
    have HH := Lib.hid (fun w => phas (some ⟨b, off, none⟩) n cap (j : Int) true (by simp; omega) w)
    have hjI : (j : Int) < (n : Int) := by omega
    have HE := Lib.hid (show pfL es (j : Int) x = es.set j ⟨false, a.l, x⟩ ∧ pfE es (j : Int) x = 0 from by unfold pfL pfE; rw [if_pos ho, if_pos ho, Int.toNat_natCast, ha]; exact ⟨rfl, rfl⟩)
    have HL := Lib.hid hlen
    clear hM hlen ho h1 h3 h4 hes hcell ha hj
    go_enter Try.func13, Try.ntmps13
    go_wp2_with (first
      | (go_at_call 23; (with_reducible refine HM.out.mono ?_); rintro r w1 ⟨rfl, hb0⟩; obtain ⟨c0, c1, c2⟩ := HC.out _ hb0; have HB := Lib.hid hb0; clear hb0)
      | (go_at_call 31; (with_reducible refine (HH.out _).mono ?_); rintro r w2 ⟨rfl, rfl⟩)
      | (go_at_call 32; (with_reducible refine (HW.out _ HB.out).mono ?_); rintro r w2 ⟨a2, cc, rfl, hS⟩))
    go_ret2
    rw [HE.out.1, HE.out.2]
    refine ⟨a2, cc, by rw [List.length_set, ← HL.out]; rfl, ?_⟩
    rw [List.length_set, ← HL.out]
    rw [← HL.out] at hS
    exact At.under HB.out hS
  | false =>
    rw [show pfL es k x = [] by unfold pfL; rw [ho]; rfl, show pfE es k x = 1600 by unfold pfE; rw [ho]; rfl]
    have hcase : poMay es = false ∨ (poMay es = true ∧ (decide (0 ≤ k) && decide (k < n)) = false) ∨ (poMay es = true ∧ ∃ j : Nat, k = j ∧ j < n ∧ ((es.getD j .none).b = false ∨ (es.getD j .none).b = true ∧ x < 0)) := by
      cases h1 : poMay es with
      | false => exact .inl rfl
      | true =>
        right
        cases hk : (decide (0 ≤ k) && decide (k < (n : Int))) with
        | false => exact .inl ⟨rfl, rfl⟩
        | true =>
          obtain ⟨k0, k1⟩ : 0 ≤ k ∧ k < (n : Int) := by simpa using hk
          obtain ⟨j, rfl⟩ := Int.eq_ofNat_of_zero_le k0
          refine .inr ⟨rfl, j, rfl, by omega, ?_⟩
          unfold pfOk at ho
          rw [h1, show decide ((0 : Int) ≤ (j : Int)) = true from decide_eq_true (by omega), show decide ((j : Int) < (es.length : Int)) = true from decide_eq_true (by omega)] at ho
          by_cases hx : 0 ≤ x
          · left; simpa [hx] using ho
          · cases hb : (es.getD j .none).b with
            | false => exact .inl rfl
            | true => exact .inr ⟨rfl, by omega⟩
    clear ho
    rcases hcase with h1 | ⟨h1, h2⟩ | ⟨h1, j, rfl, h2, h3⟩
    · rw [h1] at hM
      have HM := Lib.hid hM
      clear hM hlen h1 hes
      go_enter Try.func13, Try.ntmps13
      go_wp2_with (go_at_call 23; (with_reducible refine HM.out.mono ?_); rintro r w1 ⟨rfl, hb0⟩)
      go_ret2
      exact PaOut.no hb0 _
    · rw [h1] at hM
      have HM := Lib.hid hM
      have HH := Lib.hid (fun w => phas ao n cap k false h2.symm w)
      clear hM hlen h1 h2 hes
      go_enter Try.func13, Try.ntmps13
      go_wp2_with (first
        | (go_at_call 23; (with_reducible refine HM.out.mono ?_); rintro r w1 ⟨rfl, hb0⟩)
        | (go_at_call 31; (with_reducible refine (HH.out _).mono ?_); rintro r w2 ⟨rfl, rfl⟩))
      go_ret2
      exact PaOut.no hb0 _
    · rw [h1] at hM
      obtain ⟨b, off, a, rfl, ha, hcell⟩ := hes.elem (k := j) h2
      rw [ha] at h3
      have HC := Lib.hid hcell
      have HM := Lib.hid hM
      have HH := Lib.hid (fun w => phas (some ⟨b, off, none⟩) n cap (j : Int) true (by simp; omega) w)
      have hjI : (j : Int) < (n : Int) := by omega
      clear hM hlen h1 hes hcell ha h2
      rcases h3 with h3 | ⟨h3, h4⟩
      all_goals
        go_enter Try.func13, Try.ntmps13
        go_wp2_with (first
          | (go_at_call 23; (with_reducible refine HM.out.mono ?_); rintro r w1 ⟨rfl, hb0⟩; obtain ⟨c0, c1, c2⟩ := HC.out _ hb0)
          | (go_at_call 31; (with_reducible refine (HH.out _).mono ?_); rintro r w2 ⟨rfl, rfl⟩))
        go_ret2
        exact PaOut.no hb0 _
end Go.Proofs.Ytamhjnjabjfgeaa
