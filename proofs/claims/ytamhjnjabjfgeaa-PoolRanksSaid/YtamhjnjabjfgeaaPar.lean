/- The reference's poolMay and Lease: what they answer. Condition: the row's size. -/
import Derived.Test.YtamhjnjabjfgeaaParow
import Derived.LoopN
namespace Go.Proofs.Ytamhjnjabjfgeaa
open Go Go.RowKit

theorem patick (x : Int) (r : Bool) (h : r = (decide (0 ≤ x) && decide (x ≤ 1048575))) (w : World) : Calls Try.prog 30 #[.int .i64 x] w fun e w' => e = .returned (.bool r) ∧ w = w' := by
  subst h
  go_enter Try.func30, Try.ntmps30
  go_wp2
  all_goals (go_ret; refine ⟨?_, rfl⟩; congr 2; simp [*] <;> omega)
theorem poAll_take {es : List Pa} {k : Nat} (hk : k < es.length) : (es.take (k + 1)).all Pa.may = ((es.take k).all Pa.may && (es.getD k .none).may) := by
  rw [List.take_succ_eq_append_getElem hk, List.all_append]
  simp [List.getD, hk]
set_option maxRecDepth 100000 in
set_option maxHeartbeats 8000000 in
theorem rpoolmay {w : World} {ao : Option Addr} {n cap : Nat} {es : List Pa} (hes : PaIn [] w ao n es) (x : Int) :
    Calls Try.prog 29 #[.slice ao n cap, .int .i64 x] w fun e w' => e = .returned (.bool (poMay es && poUser x)) ∧ Below w.heap.size w w' := by
  obtain ⟨hlen, hrow, hfew⟩ := hes
  have hb0 := Below.refl w.heap.size w
  have HR := Lib.hid hrow
  have HL := Lib.hid hlen
  clear hrow hlen
  go_enter Try.func29, Try.ntmps29
  go_wp2
  go_loopw [5] (fun i wr => ∃ k : Nat, k ≤ n ∧ i = .int .i64 (k : Int) ∧ (es.take k).all Pa.may = true ∧ Below w.heap.size w wr) (fun i _ => n - (intOf i).toNat)
  case atStart => exact ⟨0, Nat.zero_le _, rfl, rfl, hb0⟩
  case round =>
    clear hb0
    obtain ⟨k, hk, rfl, hall, hb⟩ := hrel
    by_cases hlt : k < n
    · obtain ⟨b, off, rfl, hat, _, hlb⟩ : ∃ b off, ao = some ⟨b, off, none⟩ ∧ PaAt w b off es ∧ b ∉ ([] : List Nat) ∧ b < w.heap.size := by
        rcases HR.out with c | c
        · omega
        · exact c
      have hke : k < es.length := by rw [← HL.out]; exact hlt
      obtain ⟨c0, c1, c2⟩ := (hat.same (hb.block b hlb)).elem hke
      have htk := poAll_take hke
      have HMAY := Lib.hid (fun (h : (es.getD k .none).may = false) => show poMay es = false from by
        rw [Bool.eq_false_iff]
        intro c
        have h3 := ((poMay_iff es).1 c).2.2 (es.getD k .none) (by rw [List.getD, List.getElem?_eq_getElem hke]; exact List.getElem_mem _)
        rw [h] at h3
        cases h3)
      obtain ⟨a, ha⟩ : ∃ a, es.getD k Pa.none = a := ⟨_, rfl⟩
      rw [ha] at c0 c1 c2 htk HMAY
      rw [hall, Bool.true_and] at htk
      have HT := Lib.hid htk
      have HB := Lib.hid hb
      clear ha hat htk hke hall hlb
      cases hm : a.may with
      | true =>
        obtain ⟨m1, m2, m3⟩ := (Pa.may_iff a).1 hm
        have HM := Lib.hid hm
        clear hm
        go_wp2
        go_roundw
        case rel => exact ⟨k + 1, by omega, by go_num, by rw [HT.out, HM.out], HB.out⟩
        case measure => simp [intOf]; omega
      | false =>
        have hcase : a.l < -1 ∨ (-1 ≤ a.l ∧ 8 ≤ a.l) ∨ (-1 ≤ a.l ∧ a.l < 8 ∧ a.u < 0) := by
          by_cases h1 : -1 ≤ a.l
          · by_cases h2 : a.l < 8
            · by_cases h3 : 0 ≤ a.u
              · rw [(Pa.may_iff a).2 ⟨h1, h2, h3⟩] at hm; cases hm
              · exact .inr (.inr ⟨h1, h2, by omega⟩)
            · exact .inr (.inl ⟨h1, by omega⟩)
          · exact .inl (by omega)
        have HF := Lib.hid (HMAY.out hm)
        clear hm
        rcases hcase with h1 | ⟨h1, h2⟩ | ⟨h1, h2, h3⟩
        all_goals
          go_wp2
          go_ret
          exact ⟨by rw [HF.out, Bool.false_and]; rfl, HB.out⟩
    · obtain rfl : k = n := by omega
      have hV : poMay es = (decide (1 ≤ k) && decide (k ≤ 16)) := by
        have h2 : es.all Pa.may = true := by rw [← hall, HL.out, List.take_length]
        unfold poMay
        rw [h2, Bool.and_true, HL.out]
      have HV := Lib.hid hV
      clear hlt hk hall hV
      go_wp2
      all_goals (go_ret; refine ⟨?_, hb⟩; rw [HV.out]; unfold poUser; congr 2; simp [*] <;> omega)
/-- The cells of one of them, in every world that follows. -/
theorem PaIn.elem {w : World} {ao : Option Addr} {n : Nat} {es : List Pa} (h : PaIn [] w ao n es) {k : Nat} (hk : k < n) : ∃ b off a, ao = some ⟨b, off, none⟩ ∧ es.getD k Pa.none = a ∧ ∀ W, Below w.heap.size w W → W.cell? ⟨b, off + k * 3, none⟩ = some (.bool a.b) ∧ W.cell? ⟨b, off + k * 3 + 1, none⟩ = some (.int .i64 a.l) ∧ W.cell? ⟨b, off + k * 3 + 2, none⟩ = some (.int .i64 a.u) := by
  obtain ⟨hlen, hrow, _⟩ := h
  rcases hrow with c | ⟨b, off, rfl, hat, _, hlb⟩
  · omega
  · exact ⟨b, off, _, rfl, rfl, fun W hW => (hat.same (hW.block b hlb)).elem (by rw [← hlen]; exact hk)⟩
theorem poWalk_take {es : List Pa} {k : Nat} (hk : k < es.length) (x t : Int) : poWalk x t (es.take (k + 1)) = poStep x t (poWalk x t (es.take k)) (es.getD k .none) := by
  rw [List.take_succ_eq_append_getElem hk, poWalk_snoc]
  simp [List.getD, hk]
set_option maxRecDepth 100000 in
set_option maxHeartbeats 8000000 in
theorem rlease_ok {w : World} {ao : Option Addr} {n cap : Nat} {es : List Pa} (hes : PaIn [] w ao n es) (x t : Int) (ho : plOk es x t = true) :
    Calls Try.prog 10 #[.slice ao n cap, .int .i64 x, .int .i64 t] w fun e w' => e = .returned (.tuple #[.int .i64 (plX es x t), .int .i64 (plE es x t)]) ∧ Below w.heap.size w w' := by
  obtain ⟨h1, h2, h3, h4⟩ : poMay es = true ∧ poUser x = true ∧ 0 ≤ t ∧ t ≤ 1048575 := by simpa [plOk, and_assoc] using ho
  have hx := ((poUser_iff x).1 h2).1
  have hM := rpoolmay (cap := cap) hes x
  rw [h1, h2] at hM
  have hT := fun w => patick t true (by simp [h3, h4]) w
  have hw := poWalk_best x t hx es
  have hlen := hes.len
  have hat : ∀ m : Nat, m ≤ es.length → (poWalk x t (es.take m)).2.2 = (m : Int) := fun m hm => by rw [poWalk_at, List.length_take]; omega
  have HM := Lib.hid hM
  have HT := Lib.hid hT
  have HW := Lib.hid hw
  have HL := Lib.hid hlen
  have HE := Lib.hid (fun k (hk : k < n) => hes.elem (k := k) hk)
  have HA := Lib.hid hat
  have hfew := hes.few
  have HO := Lib.hid ho
  clear hM hT hw hlen hes hat h1 h2 h3 h4 ho hx
  go_enter Try.func10, Try.ntmps10
  go_wp2_with (first
    | (go_at_call 29; (with_reducible refine HM.out.mono ?_); rintro r w1 ⟨rfl, hb0⟩)
    | (go_at_call 30; (with_reducible refine (HT.out _).mono ?_); rintro r w2 ⟨rfl, rfl⟩))
  go_loopw [8, 9, 10] (fun p q i wr => ∃ (k : Nat) (B R : Int), k ≤ n ∧ i = .int .i64 (k : Int) ∧ p = .int .i64 B ∧ q = .int .i64 R ∧ poWalk x t (es.take k) = (B, R, (k : Int)) ∧ Below w.heap.size w wr) (fun _ _ i _ => n - (intOf i).toNat)
  case atStart => exact ⟨0, -1, 3, Nat.zero_le _, rfl, rfl, rfl, rfl, hb0⟩
  case round =>
    clear hb0
    obtain ⟨k, B, R, hk, rfl, rfl, rfl, hwk, hb⟩ := hrel
    by_cases hlt : k < n
    · obtain ⟨b, off, a, rfl, ha, hcell⟩ := HE.out k hlt
      obtain ⟨c0, c1, c2⟩ := hcell _ hb
      have hke : k < es.length := by rw [← HL.out]; exact hlt
      have hst := poWalk_take hke x t
      rw [hwk, ha] at hst
      unfold poStep Pa.free Pa.rank at hst
      obtain ⟨ab, al, au⟩ := a
      dsimp only at hst c0 c1 c2
      have HST := Lib.hid hst
      have HB := Lib.hid hb
      clear hst hwk ha hcell hke hb
      go_wp2
      all_goals
        go_roundw
        case rel => exact ⟨k + 1, _, _, by omega, by go_num, rfl, rfl, by rw [HST.out]; (repeat' split) <;> simp_all <;> omega, HB.out⟩
        case measure => simp [intOf]; omega
    · obtain rfl : k = n := by omega
      have hfin : (B, R, (k : Int)) = (match poBest x t es with | some k => k | Option.none => -1, if (fstP (poOwn x t) es 0).isSome then 0 else if (fstP (poOwn (-1) t) es 0).isSome then 1 else if (fstP (fun a => a.free t) es 0).isSome then 2 else 3, (es.length : Int)) := by
        have h1 := HW.out
        have h2 : poWalk x t (es.take k) = poWalk x t es := by rw [HL.out, List.take_length]
        exact hwk.symm.trans (h2.trans h1)
      have hB : B = match poBest x t es with | some k => k | Option.none => -1 := congrArg (·.1) hfin
      have hX : plX es x t = (poBest x t es).getD 0 := by unfold plX; rw [if_pos HO.out]
      have hE : plE es x t = if (poBest x t es).isSome then 0 else 1601 := by unfold plE; rw [if_pos HO.out]
      cases hb2 : poBest x t es with
      | none =>
        rw [hb2] at hB hX hE
        have HX := Lib.hid hX
        have HE2 := Lib.hid hE
        have hneg : B < 0 := by rw [hB]; decide
        clear hX hE hfin hwk hlt hk hB hb2
        go_wp2
        go_ret2
        exact ⟨by rw [HX.out, HE2.out]; rfl, hb⟩
      | some j =>
        rw [hb2] at hB hX hE
        have hj : B = j := hB
        have hneg : 0 ≤ B := by rw [hj]; exact (poBest_pos hb2).1
        have HX := Lib.hid hX
        have HE2 := Lib.hid hE
        have HJ := Lib.hid hj
        clear hX hE hfin hwk hlt hk hB hb2 hj
        go_wp2
        go_ret2
        exact ⟨by rw [HX.out, HE2.out, HJ.out]; rfl, hb⟩
theorem rlease {w : World} {ao : Option Addr} {n cap : Nat} {es : List Pa} (hes : PaIn [] w ao n es) (x t : Int) :
    Calls Try.prog 10 #[.slice ao n cap, .int .i64 x, .int .i64 t] w fun e w' => e = .returned (.tuple #[.int .i64 (plX es x t), .int .i64 (plE es x t)]) ∧ Below w.heap.size w w' := by
  cases ho : plOk es x t with
  | true => exact rlease_ok hes x t ho
  | false =>
    rw [show plX es x t = 0 by unfold plX; rw [ho]; rfl, show plE es x t = 1600 by unfold plE; rw [ho]; rfl]
    have hM := rpoolmay (cap := cap) hes x
    have hT := fun w => patick t _ rfl w
    have hcase : (poMay es && poUser x) = false ∨ ((poMay es && poUser x) = true ∧ (decide (0 ≤ t) && decide (t ≤ 1048575)) = false) := by
      unfold plOk at ho
      cases h1 : (poMay es && poUser x) with
      | false => exact .inl rfl
      | true => rw [h1] at ho; exact .inr ⟨rfl, by simpa [Bool.and_assoc] using ho⟩
    clear ho hes
    rcases hcase with h1 | ⟨h1, h2⟩
    · rw [h1] at hM
      have HM := Lib.hid hM
      clear hM hT h1
      go_enter Try.func10, Try.ntmps10
      go_wp2_with (go_at_call 29; (with_reducible refine HM.out.mono ?_); rintro r w1 ⟨rfl, hb0⟩)
      go_ret2
      exact ⟨rfl, hb0⟩
    · rw [h1] at hM
      rw [h2] at hT
      have HM := Lib.hid hM
      have HT := Lib.hid hT
      clear hM hT h1 h2
      go_enter Try.func10, Try.ntmps10
      go_wp2_with (first
        | (go_at_call 29; (with_reducible refine HM.out.mono ?_); rintro r w1 ⟨rfl, hb0⟩)
        | (go_at_call 30; (with_reducible refine (HT.out _).mono ?_); rintro r w2 ⟨rfl, rfl⟩))
      go_ret2
      exact ⟨rfl, hb0⟩
end Go.Proofs.Ytamhjnjabjfgeaa
