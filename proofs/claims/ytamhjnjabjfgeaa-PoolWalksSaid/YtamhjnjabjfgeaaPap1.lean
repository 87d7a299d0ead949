/- Package pool's isSize, isUser, has and may: what they answer. Condition: the row's size. -/
import Derived.Test.YtamhjnjabjfgeaaPar
namespace Go.Proofs.Ytamhjnjabjfgeaa
open Go Go.RowKit

theorem psize (x : Int) (r : Bool) (h : r = (decide (1 ≤ x) && decide (x ≤ 16))) (w : World) : Calls Try.prog 34 #[.int .i64 x] w fun e w' => e = .returned (.bool r) ∧ w = w' := by
  subst h
  go_enter Try.func34, Try.ntmps34
  go_wp2
  all_goals (go_ret; refine ⟨?_, rfl⟩; congr 2; simp [*] <;> omega)
theorem puser (x : Int) (r : Bool) (h : r = poUser x) (w : World) : Calls Try.prog 24 #[.int .i64 x] w fun e w' => e = .returned (.bool r) ∧ w = w' := by
  unfold poUser at h
  subst h
  go_enter Try.func24, Try.ntmps24
  go_wp2
  all_goals (go_ret; refine ⟨?_, rfl⟩; congr 2; simp [*] <;> omega)
theorem phas (ao : Option Addr) (n cap : Nat) (x : Int) (r : Bool) (h : r = (decide (0 ≤ x) && decide (x < n))) (w : World) : Calls Try.prog 31 #[.slice ao n cap, .int .i64 x] w fun e w' => e = .returned (.bool r) ∧ w = w' := by
  subst h
  go_enter Try.func31, Try.ntmps31
  go_wp2
  all_goals (go_ret; refine ⟨?_, rfl⟩; congr 2; simp [*] <;> omega)
theorem poUser_of {l : Int} (h1 : -1 ≤ l) (h2 : l < 8) (h3 : ¬ l = -1) : poUser l = true := by
  rw [poUser_iff]; omega
set_option maxRecDepth 100000 in
set_option maxHeartbeats 8000000 in
theorem ppmay {w : World} {ao : Option Addr} {n cap : Nat} {es : List Pa} (hes : PaIn [] w ao n es) :
    Calls Try.prog 23 #[.slice ao n cap] w fun e w' => e = .returned (.bool (poMay es)) ∧ Below w.heap.size w w' := by
  have hb0 := Below.refl w.heap.size w
  have HL := Lib.hid hes.len
  have HE := Lib.hid (fun k (hk : k < n) => hes.elem (k := k) hk)
  have HU := Lib.hid (fun x r h w => puser x r h w)
  have hfew := hes.few
  by_cases hz : 1 ≤ n ∧ n ≤ 16
  · obtain ⟨z1, z2⟩ := hz
    have HZ := Lib.hid (fun w => psize (n : Int) true (by simp; omega) w)
    clear hes
    go_enter Try.func23, Try.ntmps23
    go_wp2_with (go_at_call 34; (with_reducible refine (HZ.out _).mono ?_); rintro e w1 ⟨rfl, rfl⟩)
    go_loopw [11] (fun i wr => ∃ k : Nat, k ≤ n ∧ i = .int .i64 (k : Int) ∧ (es.take k).all Pa.may = true ∧ Below w.heap.size w wr) (fun i _ => n - (intOf i).toNat)
    case atStart => exact ⟨0, Nat.zero_le _, rfl, rfl, hb0⟩
    case round =>
      clear hb0
      obtain ⟨k, hk, rfl, hall, hb⟩ := hrel
      by_cases hlt : k < n
      · obtain ⟨b, off, a, rfl, ha, hcell⟩ := HE.out k hlt
        obtain ⟨c0, c1, c2⟩ := hcell _ hb
        have hke : k < es.length := by rw [← HL.out]; exact hlt
        have htk := poAll_take hke
        have HMAY := Lib.hid (fun (h : (es.getD k .none).may = false) => show poMay es = false from by
          rw [Bool.eq_false_iff]
          intro c
          have h3 := ((poMay_iff es).1 c).2.2 (es.getD k .none) (by rw [List.getD, List.getElem?_eq_getElem hke]; exact List.getElem_mem _)
          rw [h] at h3
          cases h3)
        rw [ha] at htk HMAY
        rw [hall, Bool.true_and] at htk
        have HT := Lib.hid htk
        have HB := Lib.hid (fun cs => hb.alloc hb.size (.cells cs TPa))
        clear ha hcell htk hke hall hb
        cases hm : a.may with
        | true =>
          obtain ⟨m1, m2, m3⟩ := (Pa.may_iff a).1 hm
          have HM := Lib.hid hm
          clear hm
          by_cases e1 : a.l = -1
          · go_wp2
            go_roundw
            case rel => exact ⟨k + 1, by omega, by go_num, by rw [HT.out, HM.out], HB.out _⟩
            case measure => simp [intOf]; omega
          · go_wp2_with (go_at_call 24; (with_reducible refine (HU.out _ true (by rw [poUser_of m1 m2 e1]) _).mono ?_); rintro e w1 ⟨rfl, rfl⟩)
            go_roundw
            case rel => exact ⟨k + 1, by omega, by go_num, by rw [HT.out, HM.out], HB.out _⟩
            case measure => simp [intOf]; omega
        | false =>
          have hcase : (¬ a.l = -1 ∧ poUser a.l = false) ∨ (a.l = -1 ∧ a.u < 0) ∨ (¬ a.l = -1 ∧ poUser a.l = true ∧ a.u < 0) := by
            by_cases e1 : a.l = -1
            · by_cases h3 : 0 ≤ a.u
              · rw [(Pa.may_iff a).2 ⟨by omega, by omega, h3⟩] at hm; cases hm
              · exact .inr (.inl ⟨e1, by omega⟩)
            · cases hu : poUser a.l with
              | false => exact .inl ⟨e1, rfl⟩
              | true =>
                obtain ⟨u1, u2⟩ := (poUser_iff _).1 hu
                by_cases h3 : 0 ≤ a.u
                · rw [(Pa.may_iff a).2 ⟨by omega, u2, h3⟩] at hm; cases hm
                · exact .inr (.inr ⟨e1, rfl, by omega⟩)
          have HF := Lib.hid (HMAY.out hm)
          clear hm
          rcases hcase with ⟨h1, h2⟩ | ⟨h1, h2⟩ | ⟨h1, h2, h3⟩
          · go_wp2_with (go_at_call 24; (with_reducible refine (HU.out _ false h2.symm _).mono ?_); rintro e w1 ⟨rfl, rfl⟩)
            go_ret
            exact ⟨by rw [HF.out]; rfl, HB.out _⟩
          · go_wp2
            go_ret
            exact ⟨by rw [HF.out]; rfl, HB.out _⟩
          · go_wp2_with (go_at_call 24; (with_reducible refine (HU.out _ true h2.symm _).mono ?_); rintro e w1 ⟨rfl, rfl⟩)
            go_ret
            exact ⟨by rw [HF.out]; rfl, HB.out _⟩
      · obtain rfl : k = n := by omega
        have hV : poMay es = true := by
          have h2 : es.all Pa.may = true := by rw [← hall, HL.out, List.take_length]
          unfold poMay
          rw [h2, Bool.and_true, ← HL.out]
          simp; omega
        have HV := Lib.hid hV
        clear hlt hk hall hV
        go_wp2
        go_ret
        exact ⟨by rw [HV.out]; rfl, hb⟩
  · have HZ := Lib.hid (fun w => psize (n : Int) false (by by_cases h1 : 1 ≤ n <;> simp <;> omega) w)
    have HV := Lib.hid (show poMay es = false by
      unfold poMay
      rw [← hes.len]
      by_cases h1 : 1 ≤ n
      · rw [decide_eq_false (show ¬ n ≤ 16 by omega), Bool.and_false, Bool.false_and]
      · rw [decide_eq_false h1, Bool.false_and, Bool.false_and])
    clear hes hz
    go_enter Try.func23, Try.ntmps23
    go_wp2_with (go_at_call 34; (with_reducible refine (HZ.out _).mono ?_); rintro e w1 ⟨rfl, rfl⟩)
    go_ret
    exact ⟨by rw [HV.out]; rfl, hb0⟩
end Go.Proofs.Ytamhjnjabjfgeaa
