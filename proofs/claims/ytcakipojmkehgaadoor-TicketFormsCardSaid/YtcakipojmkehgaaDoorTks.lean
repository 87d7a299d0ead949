/- Package ticket's open, find, Get, seal, Put: what they answer and leave. Conditions: the handle of the type error (Get), numbers of 64 bits. -/
import Derived.Test.YtcakipojmkehgaaDoorTkq
namespace Go.Proofs.YtcakipojmkehgaaDoor
open Go Go.RowKit

theorem bookA_len {p : Nat} {most : Int} {ts : List ByteArray} {w : World} {F : List Nat} (h : bookA p most ts w F) : ts.length ≤ 65536 := by
  obtain ⟨v, bm, D, hb, rfl⟩ := h
  have h1 := hb.lm
  have h2 := hb.m2
  omega
theorem tmS_size {ts : List ByteArray} (h : ∀ t ∈ ts, okT t = true) (n : Int) : (tmS ts n).size ≤ 512 := by
  unfold tmS
  split
  · rename_i c
    have hl : n.toNat < ts.length := by omega
    rw [List.getD, List.getElem?_eq_getElem hl]
    exact ((okT_iff _).1 (h _ (List.getElem_mem hl))).2
  · simp [ByteArray.size]
theorem opS_size {ts : List ByteArray} (h : ∀ t ∈ ts, okT t = true) (k n : Int) : (opS ts k n).size ≤ 512 := by
  have := tmS_size h n
  unfold opS
  split
  · rw [ByteArray.size_extract]; omega
  · simp [ByteArray.size]
theorem opE_of (ts : List ByteArray) (k n : Int) : opE ts k n = 0 ∨ opE ts k n = 301 := by
  unfold opE
  split
  · exact .inl rfl
  · exact .inr rfl
theorem balloc2 (w : World) (o : Obj) : Below w.heap.size w (w.alloc o) := (Below.refl _ _).alloc (Nat.le_refl _) o
/-- Within a call that keeps its result in a block of its own. -/
structure TO (w W : World) : Prop where
  gr : Gr w W
  b0 : Blk W w.heap.size #[.int .i64 0, .int .i64 0, .int .i64 0, .int .i64 0, .int .i64 0]
theorem TO.start {w : World} (hg : Gd w) : TO w (w.alloc (.cells #[.int .i64 0, .int .i64 0, .int .i64 0, .int .i64 0, .int .i64 0] 34)) := ⟨(Gr.refl hg).alloc _, Blk.new _ _ _⟩
theorem TO.step {w W W' : World} (h : TO w W) (hb : Below W.heap.size W W') : TO w W' := ⟨h.gr.step hb, h.b0.step hb⟩

theorem TO.done {w W : World} (h : TO w W) (x0 x1 x2 x3 x4 : Value) (o : Obj) : Below w.heap.size w ((((((W.setCell ⟨w.heap.size, 0, none⟩ x0).setCell ⟨w.heap.size, 1, none⟩ x1).setCell ⟨w.heap.size, 2, none⟩ x2).setCell ⟨w.heap.size, 3, none⟩ x3).setCell ⟨w.heap.size, 4, none⟩ x4).alloc o) := by
  refine Below.alloc ?_ (by have := h.b0.lt; simp; omega) o
  repeat (with_reducible refine Below.setCell ?_ (by simp) _)
  exact h.gr.below
theorem er_five {W : World} {q : Nat} {v : Value} {n : Int} (x0 x1 x2 x3 x4 : Value) (h : Er W v n) (hq : Blk W q #[.int .i64 0, .int .i64 0, .int .i64 0, .int .i64 0, .int .i64 0]) :
    Er (((((W.setCell ⟨q, 0, none⟩ x0).setCell ⟨q, 1, none⟩ x1).setCell ⟨q, 2, none⟩ x2).setCell ⟨q, 3, none⟩ x3).setCell ⟨q, 4, none⟩ x4) v n := by
  rcases h with h | ⟨h0, b, e, h1⟩
  · exact .inl h
  · exact .inr ⟨h0, b, e, five_far _ _ _ _ _ h1 hq (by simp)⟩
set_option maxRecDepth 100000 in
set_option maxHeartbeats 8000000 in
theorem tkopen (p : Nat) (most : Int) (ts : List ByteArray) (e tag : Int) (he : okNum e = true) (w : World) (F : List Nat) (h : bookA p most ts w F) (hg : Gd w) :
    Calls Tryd.prog 47 #[.pointer (some ⟨p, 0, none⟩), .int .i64 e, .int .i64 tag] w fun r w' => ∃ v n, r = .returned (.tuple #[((tkO ts e tag).getD .zero).val, v]) ∧ Er w' v n ∧ (n = 0 ↔ (tkO ts e tag).isSome = true) ∧ okN n ∧ Below w.heap.size w w' := by
  have hlen := bookA_len h
  have hA : ∀ W, Below w.heap.size w W → Calls Tryd.prog 58 #[.pointer (some ⟨p, 0, none⟩), .int .i64 e] W fun r w' => r = .returned (.tuple #[.int .i64 (fnd ts (epK e)), .bool (isB ts (epK e))]) ∧ Below W.heap.size W w' := fun W hb =>
    tkask p most ts e he W F ((bookA_good p most ts).below h hb)
  have hT := TO.start hg
  by_cases hi : isB ts (epK e) = true
  · have hidx := idx_lt ((isB_iff _ _).1 hi)
    have hf : fnd ts (epK e) = ((idx ts (epK e) : Nat) : Int) := by unfold fnd; rw [if_pos hi]
    rw [hf, hi] at hA
    have hsz := opS_size (bookA_ok h) (idx ts (epK e)) tag
    have hO : ∀ W, Below w.heap.size w W → Calls Tryd.prog 59 #[.pointer (some ⟨p, 0, none⟩), .int .i64 ((idx ts (epK e) : Nat) : Int), .int .i64 tag] W fun r w' => r = .returned (.tuple #[.string (opS ts (idx ts (epK e)) tag), .int .i64 (opE ts (idx ts (epK e)) tag)]) ∧ Below W.heap.size W w' := fun W hb =>
      copenB p most ts _ tag (by omega) (by omega) W F ((bookA_good p most ts).below h hb)
    by_cases ho : opE ts (idx ts (epK e)) tag = 0
    · have hk : tkO ts e tag = tkG (opS ts (idx ts (epK e)) tag) := by unfold tkO; rw [if_pos ⟨hi, ho⟩]
      rw [hk]
      rw [ho] at hO
      generalize opS ts (idx ts (epK e)) tag = S at *
      generalize ((idx ts (epK e) : Nat) : Int) = K at *
      have hR := fun W hg => tkread S W (by omega) hg
      have hn := @tkN_some S
      have hn2 := tkN_ok S
      generalize tkN S = n at *
      generalize tkG S = G at *
      have HN := Lib.hid hn
      have HN2 := Lib.hid hn2
      obtain ⟨D, hD⟩ : ∃ D, G.getD Bd.zero = D := ⟨_, rfl⟩
      obtain ⟨u, g, x, s, k⟩ := D
      rw [hD] at hR ⊢
      unfold Bd.val at hR ⊢
      dsimp only at hR ⊢
      have HR := Lib.hid hR
      have HA := Lib.hid hA
      have HO := Lib.hid hO
      clear hD hR hA hO hn hn2 hk hf hi ho hidx h hg hsz
      go_enter Tryd.func47, Tryd.ntmps47
      go_wp2_with (first
        | (go_at_call 58; (with_reducible refine (HA.out _ hT.gr.below).mono ?_); rintro r w1 ⟨rfl, hb⟩; replace hT := hT.step hb; clear hb)
        | (go_at_call 59; (with_reducible refine (HO.out _ hT.gr.below).mono ?_); rintro r w2 ⟨rfl, hb⟩; replace hT := hT.step hb; clear hb)
        | (go_at_call 39; (with_reducible refine (fltof _ _ _ _).mono ?_); rintro r w3 ⟨er, rfl, hEr, hb⟩; obtain rfl := tker_nil hEr; clear hEr; replace hT := hT.step hb; clear hb)
        | (go_at_call 60; (with_reducible refine (HR.out _ hT.gr.good).mono ?_); rintro r w4 ⟨v, rfl, hEr, hb⟩; replace hT := hT.step hb; clear hb; have e0 := hT.b0.cell; have g0 := hT.b0.froz; have l0 := hT.b0.lt))
      refine bodyPost_ret (v := .tuple #[.agg #[.int .i64 u, .int .i64 g, .int .i64 x, .int .i64 s, .int .i64 k], v]) (by simp [results, Tryd.results47, go_sem, e0]) rfl ⟨_, _, rfl, ?_, HN.out, HN2.out, ?_⟩
      · exact er_five _ _ _ _ _ hEr hT.b0
      · repeat (with_reducible refine Below.setCell ?_ (by simp) _)
        with_reducible exact hT.gr.below
    · have h3 : opE ts (idx ts (epK e)) tag = 301 := (opE_of _ _ _).resolve_left ho
      have hk : tkO ts e tag = none := by unfold tkO; rw [if_neg (fun c => ho c.2)]
      rw [hk]
      rw [h3] at hO
      generalize opS ts (idx ts (epK e)) tag = S at *
      generalize ((idx ts (epK e) : Nat) : Int) = K at *
      have HA := Lib.hid hA
      have HO := Lib.hid hO
      clear hA hO h3 hk hf hi ho hidx h hg hsz
      go_enter Tryd.func47, Tryd.ntmps47
      go_wp2_with (first
        | (go_at_call 58; (with_reducible refine (HA.out _ hT.gr.below).mono ?_); rintro r w1 ⟨rfl, hb⟩; replace hT := hT.step hb; clear hb)
        | (go_at_call 59; (with_reducible refine (HO.out _ hT.gr.below).mono ?_); rintro r w2 ⟨rfl, hb⟩; replace hT := hT.step hb; clear hb)
        | (go_at_call 39; (with_reducible refine (fltof _ _ _ _).mono ?_); rintro r w3 ⟨er, rfl, hEr, hb⟩; obtain ⟨fb, rfl, hfc⟩ := tker_ne hEr (by decide); clear hEr; replace hT := hT.step hb; clear hb; have e0 := hT.b0.cell; have g0 := hT.b0.froz; have l0 := hT.b0.lt))
      refine bodyPost_ret (v := .tuple #[.agg #[.int .i64 0, .int .i64 0, .int .i64 0, .int .i64 0, .int .i64 0], .iface 97 (.pointer (some ⟨fb, 0, none⟩))]) (by simp [results, Tryd.results47, go_sem, e0]) rfl ⟨_, 301, rfl, tker_mk (by decide) (five_far _ _ _ _ _ hfc hT.b0 (by simp)), by decide, by unfold okN; omega, ?_⟩
      repeat (with_reducible refine Below.setCell ?_ (by simp) _)
      with_reducible exact hT.gr.below
  · have hi' : isB ts (epK e) = false := by simpa using hi
    have hk : tkO ts e tag = none := by unfold tkO; rw [if_neg (fun c => hi c.1)]
    rw [hk]
    rw [hi'] at hA
    generalize fnd ts (epK e) = K at *
    have HA := Lib.hid hA
    clear hA hk hi hi' h hg hlen
    go_enter Tryd.func47, Tryd.ntmps47
    go_wp2_with (first
      | (go_at_call 58; (with_reducible refine (HA.out _ hT.gr.below).mono ?_); rintro r w1 ⟨rfl, hb⟩; replace hT := hT.step hb; clear hb)
      | (go_at_call 36; (with_reducible refine (tkflt _ _ _ _).mono ?_); rintro e w3 ⟨fb, rfl, hfc, hb⟩; replace hT := hT.step hb; have e0 := hT.b0.cell; have g0 := hT.b0.froz; have l0 := hT.b0.lt; clear hb))
    refine bodyPost_ret (v := .tuple #[.agg #[.int .i64 0, .int .i64 0, .int .i64 0, .int .i64 0, .int .i64 0], .iface 97 (.pointer (some ⟨fb, 0, none⟩))]) (by simp [results, Tryd.results47, go_sem, e0]) rfl ⟨_, 202, rfl, tker_mk (by decide) (five_far _ _ _ _ _ hfc hT.b0 (by simp)), by decide, by unfold okN; omega, ?_⟩
    repeat (with_reducible refine Below.setCell ?_ (by simp) _)
    with_reducible exact hT.gr.below
/-- Live, one epoch further down. -/
theorem rgL_down {now keep : Int} {k : Nat} (h : tgB now keep = true) (hk : k ≤ tkM now keep) : rgL (now - (k : Int) - 1) now keep = decide (k < tkM now keep) := by
  obtain ⟨n0, n1, k0, k1⟩ := (tgB_iff _ _).1 h
  unfold tkM at hk ⊢
  unfold rgL
  by_cases c : k < (min now keep).toNat
  · rw [(okNum_iff _).2 ⟨by omega, by omega⟩, (okNum_iff now).2 ⟨n0, n1⟩, (okNum_iff keep).2 ⟨k0, by omega⟩]
    simp [c]; omega
  · rw [decide_eq_false c]
    by_cases d : 0 ≤ now - (k : Int) - 1
    · rw [decide_eq_false (p := now - (now - (k : Int) - 1) ≤ keep) (by omega), Bool.and_false]
    · rw [show okNum (now - (k : Int) - 1) = false by cases e : okNum (now - (k : Int) - 1) with
        | false => rfl
        | true => exact absurd ((okNum_iff _).1 e).1 d]
      rfl
set_option maxRecDepth 100000 in
set_option maxHeartbeats 8000000 in
theorem tkfind_ok (p : Nat) (most : Int) (ts : List ByteArray) (now keep tag : Int) (hB : tgB now keep = true) (w : World) (F : List Nat) (h : bookA p most ts w F) (hg : Gd w) :
    Calls Tryd.prog 28 #[.pointer (some ⟨p, 0, none⟩), .int .i64 now, .int .i64 keep, .int .i64 tag] w fun r w' => ∃ v n, r = .returned (.tuple #[((tgF ts now keep tag).getD .zero).val, v]) ∧ Er w' v n ∧ (n = 0 ↔ (tgF ts now keep tag).isSome = true) ∧ okN n ∧ Below w.heap.size w w' := by
  obtain ⟨n0, n1, k0, k1⟩ := (tgB_iff _ _).1 hB
  have hO : ∀ (k : Nat) W, k ≤ tkM now keep → Below w.heap.size w W → Calls Tryd.prog 47 #[.pointer (some ⟨p, 0, none⟩), .int .i64 (now - k), .int .i64 tag] W fun r w' => ∃ v n, r = .returned (.tuple #[((tkO ts (now - k) tag).getD .zero).val, v]) ∧ Er w' v n ∧ (n = 0 ↔ (tkO ts (now - k) tag).isSome = true) ∧ okN n ∧ Below W.heap.size W w' := fun k W hk hb =>
    tkopen p most ts (now - k) tag ((okNum_iff _).2 ⟨by unfold tkM at hk; omega, by omega⟩) W F ((bookA_good p most ts).below h hb) (hg.below hb hg.pos)
  have hL : ∀ (k : Nat) W, k ≤ tkM now keep → Calls Tryd.prog 48 #[.int .i64 (now - (k : Int) - 1), .int .i64 now, .int .i64 keep] W fun e w' => e = .returned (.bool (decide (k < tkM now keep))) ∧ W = w' := fun k W hk =>
    pglive _ now keep _ (rgL_down hB hk).symm W
  have hM : (tkM now keep : Int) ≤ now ∧ (tkM now keep : Int) ≤ 4 := by unfold tkM; omega
  have hU1 := fun w => tkupN now true ((okNum_iff now).2 ⟨n0, n1⟩) w
  have hU2 := fun w => tkup keep 4 true (by simp [k0, k1]) w
  have hT := TO.start hg
  unfold tgF
  have hF0 : tkF ts tag (tkM now keep + 1) now = tkF ts tag (tkM now keep + 1 - 0) (now - ((0 : Nat) : Int)) := by simp
  generalize tkF ts tag (tkM now keep + 1) now = R at *
  generalize tkM now keep = M at *
  have HO := Lib.hid hO
  have HL := Lib.hid hL
  have HU1 := Lib.hid hU1
  have HU2 := Lib.hid hU2
  have HF0 := Lib.hid hF0
  clear hO hL hU1 hU2 hF0 hB h hg
  go_enter Tryd.func28, Tryd.ntmps28
  go_wp2_with (go_at_call 46; (first | (with_reducible refine (HU1.out _).mono ?_) | (with_reducible refine (HU2.out _).mono ?_)); rintro r w1 ⟨rfl, rfl⟩)
  go_loopw [10] (fun i wr => ∃ k : Nat, i = .int .i64 (now - k) ∧ k ≤ M ∧ R = tkF ts tag (M + 1 - k) (now - k) ∧ TO w wr) (fun i _ => (intOf i).toNat)
  case atStart => exact ⟨0, by simp, by omega, HF0.out, hT⟩
  case round =>
    clear hT HF0
    obtain ⟨k, rfl, hk, hF, hT⟩ := hrel
    have hO := HO.out k _ hk hT.gr.below
    have hL := fun W => HL.out k W hk
    rw [show M + 1 - k = (M - k) + 1 by omega] at hF
    cases ho : tkO ts (now - k) tag with
    | some D =>
      have hR : R = some D := by rw [hF, tkF, ho]; rfl
      subst hR
      rw [ho] at hO
      obtain ⟨u, g, x, s, kk⟩ := D
      simp only [Option.getD_some, Option.isSome_some, Bd.val] at hO
      have HO1 := Lib.hid hO
      clear hO hF ho
      go_wp2_with (first
        | (go_at_call 47; (with_reducible refine HO1.out.mono ?_); rintro r w2 ⟨v, n, rfl, hEr, hn, hok, hb⟩; obtain rfl := hn.2 trivial; obtain rfl := tker_nil hEr; replace hT := hT.step hb; clear hb hEr hn hok; have e0 := hT.b0.cell; have g0 := hT.b0.froz; have l0 := hT.b0.lt))
      refine bodyPost_ret (v := .tuple #[.agg #[.int .i64 u, .int .i64 g, .int .i64 x, .int .i64 s, .int .i64 kk], .nilIface]) (by simp [results, Tryd.results28, go_sem, e0, l0]) rfl ⟨_, 0, rfl, .inl ⟨rfl, rfl⟩, by simp, .inl rfl, hT.done _ _ _ _ _ _⟩
    | none =>
      simp only [ho, Option.getD_none, Option.isSome_none, Bd.val, Bd.zero] at hO
      have HO1 := Lib.hid hO
      have hF1 : tkF ts tag ((M - k) + 1) (now - k) = tkF ts tag (M - k) (now - k - 1) := by rw [tkF, ho]; rfl
      rw [hF1] at hF
      clear hO ho hF1
      by_cases hlt : k < M
      · rw [decide_eq_true hlt] at hL
        have HL1 := Lib.hid hL
        have HF := Lib.hid hF
        clear hL hF
        go_wp2_with (first
          | (go_at_call 47; (with_reducible refine HO1.out.mono ?_); rintro r w2 ⟨v, n, rfl, hEr, hn, hok, hb⟩; obtain ⟨fb, rfl, hfc⟩ := tker_ne hEr (fun c => absurd (hn.1 c) (by simp)); replace hT := hT.step hb; clear hb hEr hn hok)
          | (go_at_call 48; (with_reducible refine (HL1.out _).mono ?_); rintro r w3 ⟨rfl, rfl⟩))
        go_roundw
        case rel => exact ⟨k + 1, by congr 1; omega, by omega, by rw [HF.out, show M + 1 - (k + 1) = M - k by omega]; congr 1; omega, hT.step (balloc2 _ _)⟩
        case measure => simp [intOf]; omega
      · obtain rfl : k = M := by omega
        rw [decide_eq_false hlt] at hL
        have HL1 := Lib.hid hL
        have hR : R = none := by rw [hF, Nat.sub_self]; rfl
        subst hR
        clear hL hF
        go_wp2_with (first
          | (go_at_call 47; (with_reducible refine HO1.out.mono ?_); rintro r w2 ⟨v, n, rfl, hEr, hn, hok, hb⟩; obtain ⟨fb, rfl, hfc⟩ := tker_ne hEr (fun c => absurd (hn.1 c) (by simp)); replace hT := hT.step hb; clear hb; have e0 := hT.b0.cell; have g0 := hT.b0.froz; have l0 := hT.b0.lt)
          | (go_at_call 48; (with_reducible refine (HL1.out _).mono ?_); rintro r w3 ⟨rfl, rfl⟩))
        refine bodyPost_ret (v := .tuple #[.agg #[.int .i64 0, .int .i64 0, .int .i64 0, .int .i64 0, .int .i64 0], .iface 97 (.pointer (some ⟨fb, 0, none⟩))]) (by simp [results, Tryd.results28, go_sem, e0, l0]) rfl ⟨_, n, rfl, (er_five _ _ _ _ _ hEr hT.b0).below (balloc2 _ _), by simpa using hn, hok, hT.done _ _ _ _ _ _⟩
end Go.Proofs.YtcakipojmkehgaaDoor
