/- Package pool's closures, slices.IndexFunc over them: what they answer. Condition: the row's size. -/
import Derived.Test.YtamhjnjabjfgeaaPar
namespace Go.Proofs.Ytamhjnjabjfgeaa
open Go Go.RowKit

theorem fstP_hit {p : Pa → Bool} {es : List Pa} {k : Nat} (hk : k < es.length) (h : fstP p (es.take k) 0 = Option.none) (hp : p (es.getD k .none) = true) : fstP p es 0 = some (k : Int) := by
  have key : ∀ (es : List Pa) (k : Nat) (i : Int), k < es.length → fstP p (es.take k) i = Option.none → p (es.getD k .none) = true → fstP p es i = some (i + (k : Int)) := by
    intro es
    induction es with
    | nil => intro k i hk; cases hk
    | cons c r ih =>
      intro k i hk h hp
      cases k with
      | zero => simp only [fstP]; rw [show p c = true from hp]; simp
      | succ k =>
        rw [List.take_succ_cons] at h
        simp only [fstP] at h ⊢
        cases hc : p c with
        | true => rw [hc] at h; simp at h
        | false =>
          rw [hc] at h
          simp only [Bool.false_eq_true, if_false] at h ⊢
          rw [ih k (i + 1) (by simpa using hk) h hp]
          congr 1
          omega
  rw [key es k 0 hk h hp, Int.zero_add]
theorem fstP_take {p : Pa → Bool} {es : List Pa} {k : Nat} (hk : k < es.length) (h : fstP p (es.take k) 0 = Option.none) (hp : p (es.getD k .none) = false) : fstP p (es.take (k + 1)) 0 = Option.none := by
  rw [List.take_succ_eq_append_getElem hk, fstP_snoc, h]
  have : p es[k] = false := by rw [List.getD, List.getElem?_eq_getElem hk] at hp; exact hp
  simp [this]
/-- What a call is handed for an address. -/
abbrev Pa.arg (a : Pa) : Value := .agg #[.bool a.b, .int .i64 a.l, .int .i64 a.u]
theorem pa_box {W : World} (a : Pa) {q : Nat} {v : Value} (hq : W.cell? ⟨q, 0, none⟩ = some v) : (W.alloc (.cells #[.bool a.b, .int .i64 a.l, .int .i64 a.u] TPa)).cell? ⟨q, 0, none⟩ = some v := by
  have hlt : q < W.heap.size := by
    unfold World.cell? at hq
    cases h : W.heap[q]? with
    | none => simp [h] at hq
    | some o => exact (Array.getElem?_eq_some_iff.1 h).1
  rw [((Below.refl W.heap.size W).alloc (Nat.le_refl _) _).cell (p := ⟨q, 0, none⟩) hlt]
  exact hq
theorem pdue (q : Nat) (t : Int) (a : Pa) (W : World) (hq : W.cell? ⟨q, 0, none⟩ = some (.int .i64 t)) : Calls Try.prog 25 #[.agg #[.bool a.b, .int .i64 a.l, .int .i64 a.u], .pointer (some ⟨q, 0, none⟩)] W fun e w' => e = .returned (.bool (a.free t)) ∧ Below W.heap.size W w' := by
  have hq2 := pa_box a hq
  have hb := (Below.refl W.heap.size W).alloc (Nat.le_refl _) (.cells #[.bool a.b, .int .i64 a.l, .int .i64 a.u] TPa)
  have HB := Lib.hid hb
  unfold Pa.free
  obtain ⟨ab, al, au⟩ := a
  dsimp only at *
  clear hb hq
  cases ab with
  | true =>
    go_enter Try.func25, Try.ntmps25
    go_wp2
    go_ret
    exact ⟨rfl, HB.out⟩
  | false =>
    go_enter Try.func25, Try.ntmps25
    go_wp2
    go_ret
    exact ⟨by simp, HB.out⟩
theorem pdueof (d q q2 : Nat) (t l : Int) (a : Pa) (W : World) (hd : W.cell? ⟨d, 0, none⟩ = some (.func (.func 25) #[] #[.pointer (some ⟨q, 0, none⟩)])) (hq : W.cell? ⟨q, 0, none⟩ = some (.int .i64 t)) (hq2 : W.cell? ⟨q2, 0, none⟩ = some (.int .i64 l)) : Calls Try.prog 27 #[.agg #[.bool a.b, .int .i64 a.l, .int .i64 a.u], .pointer (some ⟨d, 0, none⟩), .pointer (some ⟨q2, 0, none⟩)] W fun e w' => e = .returned (.bool (poOwn l t a)) ∧ Below W.heap.size W w' := by
  have hd3 := pa_box a hd
  have hq3 := pa_box a hq
  have hq4 := pa_box a hq2
  have HB := Lib.hid ((Below.refl W.heap.size W).alloc (Nat.le_refl _) (.cells #[.bool a.b, .int .i64 a.l, .int .i64 a.u] TPa))
  have hlt2 : q2 < (W.alloc (.cells #[.bool a.b, .int .i64 a.l, .int .i64 a.u] TPa)).heap.size := by
    have := hq4
    unfold World.cell? at this
    cases h : (W.alloc (.cells #[.bool a.b, .int .i64 a.l, .int .i64 a.u] TPa)).heap[q2]? with
    | none => simp [h] at this
    | some o => exact (Array.getElem?_eq_some_iff.1 h).1
  have HN := Lib.hid (show ∀ W', Below (W.alloc (.cells #[.bool a.b, .int .i64 a.l, .int .i64 a.u] TPa)).heap.size (W.alloc (.cells #[.bool a.b, .int .i64 a.l, .int .i64 a.u] TPa)) W' → W'.cell? ⟨q2, 0, none⟩ = some (.int .i64 l) ∧ W'.cell? ⟨W.heap.size, 1, none⟩ = some (.int .i64 a.l) ∧ Below W.heap.size W W' from fun W' hb => ⟨(hb.cell (p := ⟨q2, 0, none⟩) hlt2).trans hq4, (hb.cell (p := ⟨W.heap.size, 1, none⟩) (by simp)).trans (by rw [cell_of_row _ W.heap.size 1 _ TPa _ (heap_alloc_new W _)]; rfl), HB.out.trans (hb.mono HB.out.size)⟩)
  have HD := Lib.hid (fun W' h => pdue q t a W' h)
  unfold poOwn
  clear hd hq hq2 hlt2
  cases hf : a.free t with
  | false =>
    rw [hf] at HD
    clear hf
    go_enter Try.func27, Try.ntmps27
    go_wp2_with (go_at_call 25; (with_reducible refine (HD.out _ hq3).mono ?_); rintro e w1 ⟨rfl, hb⟩; obtain ⟨n1, n2, n3⟩ := HN.out _ hb; clear hb)
    go_ret
    exact ⟨rfl, n3⟩
  | true =>
    rw [hf] at HD
    clear hf
    go_enter Try.func27, Try.ntmps27
    go_wp2_with (go_at_call 25; (with_reducible refine (HD.out _ hq3).mono ?_); rintro e w1 ⟨rfl, hb⟩; obtain ⟨n1, n2, n3⟩ := HN.out _ hb; clear hb)
    go_ret
    exact ⟨by rw [Bool.true_and]; rfl, n3⟩
theorem pdueofs (d : Nat) (x : Int) (W : World) : Calls Try.prog 26 #[.int .i64 x, .pointer (some ⟨d, 0, none⟩)] W fun e w' => e = .returned (.func (.func 27) #[] #[.pointer (some ⟨d, 0, none⟩), .pointer (some ⟨W.heap.size, 0, none⟩)]) ∧ w' = W.alloc (.cells #[.int .i64 x] 3) := by
  go_enter Try.func26, Try.ntmps26
  go_wp2
  go_ret
  exact ⟨rfl, rfl⟩
set_option maxRecDepth 100000 in
set_option maxHeartbeats 4000000 in
theorem pidx1 (p : Pa → Bool) (q : Nat) {w : World} {ao : Option Addr} {n cap : Nat} {es : List Pa} (hes : PaIn [] w ao n es)
    (hp : ∀ (W : World) (a : Pa), Below w.heap.size w W → Calls Try.prog 25 #[.agg #[.bool a.b, .int .i64 a.l, .int .i64 a.u], .pointer (some ⟨q, 0, none⟩)] W fun e w' => e = .returned (.bool (p a)) ∧ Below W.heap.size W w') :
    Calls Try.prog 28 #[.slice ao n cap, .func (.func 25) #[] #[.pointer (some ⟨q, 0, none⟩)]] w fun e w' => e = .returned (.int .i64 ((fstP p es 0).getD (-1))) ∧ Below w.heap.size w w' := by
  have hb0 := Below.refl w.heap.size w
  have HL := Lib.hid hes.len
  have HE := Lib.hid (fun k (hk : k < n) => hes.elem (k := k) hk)
  have HP := Lib.hid hp
  have hfew := hes.few
  clear hes hp
  go_enter Try.func28, Try.ntmps28
  go_wp2
  go_loopw [5, 8] (fun _ i wr => ∃ k : Nat, k ≤ n ∧ i = .int .i64 (k : Int) ∧ Aside (fstP p (es.take k) 0 = Option.none) ∧ Below w.heap.size w wr) (fun _ i _ => n - (intOf i).toNat)
  case atStart => exact ⟨0, Nat.zero_le _, rfl, by rw [List.take_zero]; exact (rfl : fstP p [] 0 = Option.none), hb0⟩
  case round =>
    clear hb0
    obtain ⟨k, hk, rfl, hno, hb⟩ := hrel
    have HNO := Lib.hid hno.out
    clear hno
    by_cases hlt : k < n
    · obtain ⟨b, off, a, rfl, ha, hcell⟩ := HE.out k hlt
      obtain ⟨c0, c1, c2⟩ := hcell _ hb
      have hke : k < es.length := by rw [← HL.out]; exact hlt
      have hpa := HP.out wr a hb
      have HB := Lib.hid (fun w' (h : Below wr.heap.size wr w') => hb.trans (h.mono hb.size))
      have HA := Lib.hid ha
      clear ha hcell hb
      cases hq : p a with
      | true =>
        rw [hq] at hpa
        have HPA := Lib.hid hpa
        have HF := Lib.hid (fstP_hit hke HNO.out (by rw [HA.out]; exact hq))
        clear hpa hq hke
        go_wp2_with (go_at_call 25; (with_reducible refine HPA.out.mono ?_); rintro e w1 ⟨rfl, hb1⟩)
        go_ret
        exact ⟨by rw [HF.out]; rfl, HB.out _ hb1⟩
      | false =>
        rw [hq] at hpa
        have HPA := Lib.hid hpa
        have HF := Lib.hid (fstP_take hke HNO.out (by rw [HA.out]; exact hq))
        clear hpa hq hke
        go_wp2_with (go_at_call 25; (with_reducible refine HPA.out.mono ?_); rintro e w1 ⟨rfl, hb1⟩)
        go_roundw
        case rel => exact ⟨k + 1, by omega, by go_num, HF.out, HB.out _ hb1⟩
        case measure => simp [intOf]; omega
    · obtain rfl : k = n := by omega
      have HF := Lib.hid (show fstP p es 0 = Option.none by have := HNO.out; rwa [HL.out, List.take_length] at this)
      clear hlt hk
      go_wp2
      go_ret
      exact ⟨by rw [HF.out]; rfl, hb⟩
set_option maxRecDepth 100000 in
set_option maxHeartbeats 4000000 in
theorem pidx2 (p : Pa → Bool) (d q2 : Nat) {w : World} {ao : Option Addr} {n cap : Nat} {es : List Pa} (hes : PaIn [] w ao n es)
    (hp : ∀ (W : World) (a : Pa), Below w.heap.size w W → Calls Try.prog 27 #[.agg #[.bool a.b, .int .i64 a.l, .int .i64 a.u], .pointer (some ⟨d, 0, none⟩), .pointer (some ⟨q2, 0, none⟩)] W fun e w' => e = .returned (.bool (p a)) ∧ Below W.heap.size W w') :
    Calls Try.prog 28 #[.slice ao n cap, .func (.func 27) #[] #[.pointer (some ⟨d, 0, none⟩), .pointer (some ⟨q2, 0, none⟩)]] w fun e w' => e = .returned (.int .i64 ((fstP p es 0).getD (-1))) ∧ Below w.heap.size w w' := by
  have hb0 := Below.refl w.heap.size w
  have HL := Lib.hid hes.len
  have HE := Lib.hid (fun k (hk : k < n) => hes.elem (k := k) hk)
  have HP := Lib.hid hp
  have hfew := hes.few
  clear hes hp
  go_enter Try.func28, Try.ntmps28
  go_wp2
  go_loopw [5, 8] (fun _ i wr => ∃ k : Nat, k ≤ n ∧ i = .int .i64 (k : Int) ∧ Aside (fstP p (es.take k) 0 = Option.none) ∧ Below w.heap.size w wr) (fun _ i _ => n - (intOf i).toNat)
  case atStart => exact ⟨0, Nat.zero_le _, rfl, by rw [List.take_zero]; exact (rfl : fstP p [] 0 = Option.none), hb0⟩
  case round =>
    clear hb0
    obtain ⟨k, hk, rfl, hno, hb⟩ := hrel
    have HNO := Lib.hid hno.out
    clear hno
    by_cases hlt : k < n
    · obtain ⟨b, off, a, rfl, ha, hcell⟩ := HE.out k hlt
      obtain ⟨c0, c1, c2⟩ := hcell _ hb
      have hke : k < es.length := by rw [← HL.out]; exact hlt
      have hpa := HP.out wr a hb
      have HB := Lib.hid (fun w' (h : Below wr.heap.size wr w') => hb.trans (h.mono hb.size))
      have HA := Lib.hid ha
      clear ha hcell hb
      cases hq : p a with
      | true =>
        rw [hq] at hpa
        have HPA := Lib.hid hpa
        have HF := Lib.hid (fstP_hit hke HNO.out (by rw [HA.out]; exact hq))
        clear hpa hq hke
        go_wp2_with (go_at_call 27; (with_reducible refine HPA.out.mono ?_); rintro e w1 ⟨rfl, hb1⟩)
        go_ret
        exact ⟨by rw [HF.out]; rfl, HB.out _ hb1⟩
      | false =>
        rw [hq] at hpa
        have HPA := Lib.hid hpa
        have HF := Lib.hid (fstP_take hke HNO.out (by rw [HA.out]; exact hq))
        clear hpa hq hke
        go_wp2_with (go_at_call 27; (with_reducible refine HPA.out.mono ?_); rintro e w1 ⟨rfl, hb1⟩)
        go_roundw
        case rel => exact ⟨k + 1, by omega, by go_num, HF.out, HB.out _ hb1⟩
        case measure => simp [intOf]; omega
    · obtain rfl : k = n := by omega
      have HF := Lib.hid (show fstP p es 0 = Option.none by have := HNO.out; rwa [HL.out, List.take_length] at this)
      clear hlt hk
      go_wp2
      go_ret
      exact ⟨by rw [HF.out]; rfl, hb⟩
end Go.Proofs.Ytamhjnjabjfgeaa
