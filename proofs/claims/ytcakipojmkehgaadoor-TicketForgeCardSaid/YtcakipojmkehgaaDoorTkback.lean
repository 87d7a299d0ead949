/- The walk of TicketBack: a ticket opens to its body while its epoch is live; of unlike ones names are unlike. Condition: the handle of the type error. -/
import Derived.Test.YtcakipojmkehgaaDoorTkaw
import Derived.Test.YtcakipojmkehgaaDoorTkz
import Derived.Test.YtcakipojmkehgaaDoorBfp
namespace Go.Proofs.YtcakipojmkehgaaDoor
open Go Go.RowKit Go.Maps

theorem dtput_to {p : Nat} {most : Int} {ts T : List ByteArray} {e X E : Int} {u g x s k : Int} (s0 : -9223372036854775808 ≤ e) (s1 : e ≤ 9223372036854775807) (h1 : tpX most ts e ⟨u, g, x, s, k⟩ = X) (h2 : tpE most ts e ⟨u, g, x, s, k⟩ = E) (h3 : tpT most ts e ⟨u, g, x, s, k⟩ = T) :
    Does Tryd.prog (bookA p most ts) 10 #[.pointer (some ⟨p, 0, none⟩), .int .i64 e, .agg #[.int .i64 u, .int .i64 g, .int .i64 x, .int .i64 s, .int .i64 k]] (.returned (.tuple #[.int .i64 X, .int .i64 E])) (bookA p most T) := by
  subst h1; subst h2; subst h3
  exact dtput p most ts e ⟨u, g, x, s, k⟩ s0 s1
theorem dtget_to {p : Nat} {most : Int} {ts : List ByteArray} {now keep tag E : Int} {u g x s k : Int} (h1 : tgX ts now keep tag = ⟨u, g, x, s, k⟩) (h2 : tgE ts now keep tag = E) :
    DoesG Tryd.prog (bookA p most ts) 12 #[.pointer (some ⟨p, 0, none⟩), .int .i64 now, .int .i64 keep, .int .i64 tag] (.returned (.tuple #[.agg #[.int .i64 u, .int .i64 g, .int .i64 x, .int .i64 s, .int .i64 k], .int .i64 E])) (bookA p most ts) :=
  (dtget p most ts now keep tag).to (by rw [h1, h2]; rfl) rfl
/-- What is known of the two, where both may be. -/
theorem tkb_two {e : Int} {a c : Bd} (e0 : 0 ≤ e) (e1 : e ≤ 1023) (ha : a.may = true) (hc : c.may = true) : ∃ (T1 T2 : List ByteArray) (x y : Int), tpX 20 [] e a = x ∧ tpE 20 [] e a = 0 ∧ tpT 20 [] e a = T1 ∧ tpX 20 T1 e c = y ∧ tpE 20 T1 e c = 0 ∧ tpT 20 T1 e c = T2 ∧ TkAt T2 e x a ∧ T2.length ≤ 4 ∧ (x = y ↔ a = c) := by
  obtain ⟨l1, q1, q2, q3, q4, q5, q6⟩ := tp_ok (most := 20) (ts := []) (e := e) (t := a) (by simp) (by simp) e0 (by omega) ha
  have hl1 : (tpT 20 [] e a).length ≤ 2 := by rw [q1]; simpa using q2
  obtain ⟨l2, r1, r2, r3, r4, r5, r6⟩ := tp_ok (most := 20) (ts := tpT 20 [] e a) (e := e) (t := c) (by omega) (by omega) e0 (by omega) hc
  obtain ⟨i1, i2⟩ := tmS_idx q5
  have hA : TkAt (tpT 20 [] e a) e (tpX 20 [] e a) a := ⟨q4, by rw [q6, i1], by rw [q6, i2]⟩
  have hA2 : TkAt (tpT 20 (tpT 20 [] e a) e c) e (tpX 20 [] e a) a := by rw [r1]; exact hA.ext
  obtain ⟨j1, j2⟩ := tmS_idx r5
  refine ⟨_, _, _, _, rfl, q3, rfl, rfl, r3, rfl, hA2, by rw [r1, List.length_append]; omega, fun h => ?_, fun h => ?_⟩
  · have h1 := hA2.tm
    rw [h, r6, j1] at h1
    have hi := idx_lt hA2.key
    have hlen : (tpT 20 (tpT 20 [] e a) e c).length ≤ 4 := by rw [r1, List.length_append]; omega
    exact (Bd.enc_inj hc ha (tm_inj1 (by omega) (by omega) (by omega) (by omega) h1).2).symm
  · subst h
    have hS : tkS (tpT 20 (tpT 20 [] e a) e a) e a = tkS (tpT 20 [] e a) e a := by unfold tkS; rw [r1, idx_ext q4]
    rw [r6, hS, q6, r1, idx_ext q5]
set_option maxRecDepth 100000 in
set_option maxHeartbeats 16000000 in
/-- One of them may not be. -/
theorem tkback_bad (a0 a1 a2 a3 a4 c0 c1 c2 c3 c4 epoch now keep : Int) (w : World) (hg : Gd w) (e k : Int) (he : bits .and .i64 epoch 1023 = e) (e0 : 0 ≤ e) (e1 : e ≤ 1023) (hk : (IntKind.u64.wrap keep).tmod 5 = k) (k0 : 0 ≤ k) (k1 : k ≤ 4)
    (h : (Bd.mk a0 a1 a2 a3 a4).may = false ∨ (Bd.mk c0 c1 c2 c3 c4).may = false) :
    Calls Tryd.prog 4 #[.agg #[.int .i64 a0, .int .i64 a1, .int .i64 a2, .int .i64 a3, .int .i64 a4], .agg #[.int .i64 c0, .int .i64 c1, .int .i64 c2, .int .i64 c3, .int .i64 c4], .int .i64 epoch, .int .i64 now, .int .i64 keep] w fun e w' => e = .returned (.bool true) ∧ Below w.heap.size w w' := by
  have hE : ∃ E1 E2 X1 X2 T1 T2, (¬ E1 = 0 ∨ ¬ E2 = 0) ∧ (∀ p, Does Tryd.prog (bookA p 20 []) 10 #[.pointer (some ⟨p, 0, none⟩), .int .i64 e, .agg #[.int .i64 a0, .int .i64 a1, .int .i64 a2, .int .i64 a3, .int .i64 a4]] (.returned (.tuple #[.int .i64 X1, .int .i64 E1])) (bookA p 20 T1)) ∧
      (∀ p, Does Tryd.prog (bookA p 20 T1) 10 #[.pointer (some ⟨p, 0, none⟩), .int .i64 e, .agg #[.int .i64 c0, .int .i64 c1, .int .i64 c2, .int .i64 c3, .int .i64 c4]] (.returned (.tuple #[.int .i64 X2, .int .i64 E2])) (bookA p 20 T2)) := by
    refine ⟨_, _, _, _, _, _, ?_, fun p => dtput_to (by omega) (by omega) rfl rfl rfl, fun p => dtput_to (by omega) (by omega) rfl rfl rfl⟩
    rcases h with h | h
    · exact .inl (by rw [(tp_bad h).2.1]; decide)
    · exact .inr (by rw [(tp_bad h).2.1]; decide)
  obtain ⟨E1, E2, X1, X2, T1, T2, hne, P1, P2⟩ := hE
  have H1 := Lib.hid P1
  have H2 := Lib.hid P2
  have HG := Lib.hid hg
  have hb0 := (balloc2 w (.cells #[.int .i64 a0, .int .i64 a1, .int .i64 a2, .int .i64 a3, .int .i64 a4] 34)).trans ((balloc2 _ (.cells #[.int .i64 c0, .int .i64 c1, .int .i64 c2, .int .i64 c3, .int .i64 c4] 34)).mono (by simp))
  have ka := (Blk.new w #[.int .i64 a0, .int .i64 a1, .int .i64 a2, .int .i64 a3, .int .i64 a4] 34).alloc (.cells #[.int .i64 c0, .int .i64 c1, .int .i64 c2, .int .i64 c3, .int .i64 c4] 34)
  have kc := Blk.new' (w.alloc (.cells #[.int .i64 a0, .int .i64 a1, .int .i64 a2, .int .i64 a3, .int .i64 a4] 34)) (w.heap.size + 1) (by simp) #[.int .i64 c0, .int .i64 c1, .int .i64 c2, .int .i64 c3, .int .i64 c4] 34
  clear P1 P2 h hg
  go_enter Tryd.func4, Tryd.ntmps4
  go_wp2_with (first
    | (go_at_call 9; (with_reducible refine (awake15 _ (HG.out.below hb0 HG.out.pos)).mono ?_); rintro r w1 ⟨rfl, hb1⟩; replace hb0 := hb0.trans (hb1.mono hb0.size); replace ka := ka.step hb1; replace kc := kc.step hb1; clear hb1)
    | (go_at_call 8; (with_reducible refine (twin_none15 20 _ (by omega) (by omega)).mono ?_); rintro r w2 ⟨p, q, rfl, hb⟩; have hS := LA.start (At.start hb); clear hb; have ea := (ka.step hS.bel).cell; have la := (ka.step hS.bel).lt)
    | (go_at_call 10; first
      | ((with_reducible refine (LA.op1 (H1.out _) (refA_good _ _ _) emp_good hS).mono ?_); rintro r w3 ⟨rfl, hS1⟩; replace hS := hS1; clear hS1; have ec := (kc.step hS.bel).cell; have lc := (kc.step hS.bel).lt)
      | ((with_reducible refine (LA.op1 (H2.out _) (refA_good _ _ _) emp_good hS).mono ?_); rintro r w4 ⟨rfl, hS1⟩; replace hS := hS1; clear hS1))
    | (go_at_call 14; (with_reducible refine (lnum _ _).mono ?_); rintro r w9 ⟨rfl, rfl⟩))
  all_goals
    go_ret
    exact ⟨rfl, hb0.trans (hS.bel.mono hb0.size)⟩
set_option maxRecDepth 100000 in
set_option maxHeartbeats 16000000 in
/-- Both may be. -/
theorem tkback_good (a0 a1 a2 a3 a4 c0 c1 c2 c3 c4 epoch now keep : Int) (w : World) (hg : Gd w) (e k o : Int) (he : bits .and .i64 epoch 1023 = e) (e0 : 0 ≤ e) (e1 : e ≤ 1023) (hk : (IntKind.u64.wrap keep).tmod 5 = k) (k0 : 0 ≤ k) (k1 : k ≤ 4) (ho : bits .and .i64 now 7 = o) (o0 : 0 ≤ o) (o1 : o ≤ 7)
    (hA : (Bd.mk a0 a1 a2 a3 a4).may = true) (hC : (Bd.mk c0 c1 c2 c3 c4).may = true) :
    Calls Tryd.prog 4 #[.agg #[.int .i64 a0, .int .i64 a1, .int .i64 a2, .int .i64 a3, .int .i64 a4], .agg #[.int .i64 c0, .int .i64 c1, .int .i64 c2, .int .i64 c3, .int .i64 c4], .int .i64 epoch, .int .i64 now, .int .i64 keep] w fun e w' => e = .returned (.bool true) ∧ Below w.heap.size w w' := by
  obtain ⟨T1, T2, x, y, t1, t2, t3, t4, t5, t6, hT, hlen, hxy⟩ := tkb_two e0 e1 hA hC
  have P1 := fun p => dtput_to (p := p) (by omega) (by omega) t1 t2 t3
  have P2 := fun p => dtput_to (p := p) (by omega) (by omega) t4 t5 t6
  have hF := fun m (m0 : 0 ≤ m) (m1 : m ≤ 1073741823) => tk_find (now := m) (keep := k) hT (by omega) e0 (by omega) hA m0 m1 k0 k1
  have H1 := Lib.hid P1
  have H2 := Lib.hid P2
  have HG := Lib.hid hg
  have hb0 := (balloc2 w (.cells #[.int .i64 a0, .int .i64 a1, .int .i64 a2, .int .i64 a3, .int .i64 a4] 34)).trans ((balloc2 _ (.cells #[.int .i64 c0, .int .i64 c1, .int .i64 c2, .int .i64 c3, .int .i64 c4] 34)).mono (by simp))
  have ka := (Blk.new w #[.int .i64 a0, .int .i64 a1, .int .i64 a2, .int .i64 a3, .int .i64 a4] 34).alloc (.cells #[.int .i64 c0, .int .i64 c1, .int .i64 c2, .int .i64 c3, .int .i64 c4] 34)
  have kc := Blk.new' (w.alloc (.cells #[.int .i64 a0, .int .i64 a1, .int .i64 a2, .int .i64 a3, .int .i64 a4] 34)) (w.heap.size + 1) (by simp) #[.int .i64 c0, .int .i64 c1, .int .i64 c2, .int .i64 c3, .int .i64 c4] 34
  simp only [Bd.mk.injEq] at hxy
  clear P1 P2 hg t1 t2 t3 t4 t5 t6 hT hlen hA hC
  by_cases hm : e + o - 2 < 0
  · clear hF hxy
    go_enter Tryd.func4, Tryd.ntmps4
    go_wp2_with (first
      | (go_at_call 9; (with_reducible refine (awake15 _ (HG.out.below hb0 HG.out.pos)).mono ?_); rintro r w1 ⟨rfl, hb1⟩; replace hb0 := hb0.trans (hb1.mono hb0.size); replace ka := ka.step hb1; replace kc := kc.step hb1; clear hb1)
      | (go_at_call 8; (with_reducible refine (twin_none15 20 _ (by omega) (by omega)).mono ?_); rintro r w2 ⟨p, q, rfl, hb⟩; have hS := LA.start (At.start hb); clear hb; have ea := (ka.step hS.bel).cell; have la := (ka.step hS.bel).lt)
      | (go_at_call 10; first
        | ((with_reducible refine (LA.op1 (H1.out _) (refA_good _ _ _) emp_good hS).mono ?_); rintro r w3 ⟨rfl, hS1⟩; replace hS := hS1; clear hS1; have ec := (kc.step hS.bel).cell; have lc := (kc.step hS.bel).lt)
        | ((with_reducible refine (LA.op1 (H2.out _) (refA_good _ _ _) emp_good hS).mono ?_); rintro r w4 ⟨rfl, hS1⟩; replace hS := hS1; clear hS1))
      | (go_at_call 14; (with_reducible refine (lnum _ _).mono ?_); rintro r w9 ⟨rfl, rfl⟩))
    go_ret
    exact ⟨rfl, hb0.trans (hS.bel.mono hb0.size)⟩
  · obtain ⟨f1, f2⟩ := hF (e + o - 2) (by omega) (by omega)
    clear hF
    by_cases hl : e ≤ e + o - 2 ∧ e + o - 2 - e ≤ k
    · obtain ⟨g1, g2⟩ := f1 hl
      obtain ⟨hl1, hl2⟩ := hl
      have P3 := fun p => dtget_to (p := p) (most := 20) g1 g2
      have H3 := Lib.hid P3
      clear P3 f1 f2 g1 g2
      by_cases heq : x = y
      · obtain ⟨e1, e2, e3, e4, e5⟩ := hxy.1 heq
        subst e1; subst e2; subst e3; subst e4; subst e5
        subst heq
        clear hxy
        go_enter Tryd.func4, Tryd.ntmps4
        go_wp2_with (first
      | (go_at_call 9; (with_reducible refine (awake15 _ (HG.out.below hb0 HG.out.pos)).mono ?_); rintro r w1 ⟨rfl, hb1⟩; replace hb0 := hb0.trans (hb1.mono hb0.size); replace ka := ka.step hb1; replace kc := kc.step hb1; clear hb1)
      | (go_at_call 8; (with_reducible refine (twin_none15 20 _ (by omega) (by omega)).mono ?_); rintro r w2 ⟨p, q, rfl, hb⟩; have hS := LA.start (At.start hb); clear hb; have ea := (ka.step hS.bel).cell; have la := (ka.step hS.bel).lt)
      | (go_at_call 10; first
        | ((with_reducible refine (LA.op1 (H1.out _) (refA_good _ _ _) emp_good hS).mono ?_); rintro r w3 ⟨rfl, hS1⟩; replace hS := hS1; clear hS1; have ec := (kc.step hS.bel).cell; have lc := (kc.step hS.bel).lt)
        | ((with_reducible refine (LA.op1 (H2.out _) (refA_good _ _ _) emp_good hS).mono ?_); rintro r w4 ⟨rfl, hS1⟩; replace hS := hS1; clear hS1))
      | (go_at_call 12; (with_reducible refine (LA.op1G (H3.out _) (refA_good _ _ _) emp_good (HG.out.below hb0 HG.out.pos) hS).mono ?_); rintro r w5 ⟨rfl, hS1⟩; have ea := (ka.step hS1.bel).cell; have la := (ka.step hS1.bel).lt; have ec := (kc.step hS1.bel).cell; have lc := (kc.step hS1.bel).lt; replace hS := hS1; clear hS1)
      | (go_at_call 14; (with_reducible refine (lnum _ _).mono ?_); rintro r w9 ⟨rfl, rfl⟩))
        all_goals
          go_ret
          exact ⟨rfl, hb0.trans ((hS.step (rb_good _ _ _ _ _ _) (balloc2 _ _)).bel.mono hb0.size)⟩
      · have hx1 : (x == y) = false := by simpa using heq
        have hne := fun c => heq (hxy.2 c)
        clear hxy
        have HN := Lib.hid hne
        clear hne
        go_enter Tryd.func4, Tryd.ntmps4
        go_wp2_with (first
      | (go_at_call 9; (with_reducible refine (awake15 _ (HG.out.below hb0 HG.out.pos)).mono ?_); rintro r w1 ⟨rfl, hb1⟩; replace hb0 := hb0.trans (hb1.mono hb0.size); replace ka := ka.step hb1; replace kc := kc.step hb1; clear hb1)
      | (go_at_call 8; (with_reducible refine (twin_none15 20 _ (by omega) (by omega)).mono ?_); rintro r w2 ⟨p, q, rfl, hb⟩; have hS := LA.start (At.start hb); clear hb; have ea := (ka.step hS.bel).cell; have la := (ka.step hS.bel).lt)
      | (go_at_call 10; first
        | ((with_reducible refine (LA.op1 (H1.out _) (refA_good _ _ _) emp_good hS).mono ?_); rintro r w3 ⟨rfl, hS1⟩; replace hS := hS1; clear hS1; have ec := (kc.step hS.bel).cell; have lc := (kc.step hS.bel).lt)
        | ((with_reducible refine (LA.op1 (H2.out _) (refA_good _ _ _) emp_good hS).mono ?_); rintro r w4 ⟨rfl, hS1⟩; replace hS := hS1; clear hS1))
      | (go_at_call 12; (with_reducible refine (LA.op1G (H3.out _) (refA_good _ _ _) emp_good (HG.out.below hb0 HG.out.pos) hS).mono ?_); rintro r w5 ⟨rfl, hS1⟩; have ea := (ka.step hS1.bel).cell; have la := (ka.step hS1.bel).lt; have ec := (kc.step hS1.bel).cell; have lc := (kc.step hS1.bel).lt; replace hS := hS1; clear hS1)
      | (go_at_call 14; (with_reducible refine (lnum _ _).mono ?_); rintro r w9 ⟨rfl, rfl⟩))
        all_goals first
          | exact absurd ⟨by assumption, by assumption, by assumption, by assumption, by assumption⟩ HN.out
          | (go_ret; exact ⟨rfl, hb0.trans ((hS.step (rb_good _ _ _ _ _ _) (balloc2 _ _)).bel.mono hb0.size)⟩)
    · obtain ⟨g1, g2⟩ := f2 hl
      have P3 := fun p => dtget_to (p := p) (most := 20) g1 g2
      have H3 := Lib.hid P3
      clear P3 f1 f2 g1 g2
      by_cases hge : e ≤ e + o - 2
      · have hk2 : ¬ e + o - 2 - e ≤ k := fun c => hl ⟨hge, c⟩
        clear hl
        by_cases heq : x = y
        · obtain ⟨e1, e2, e3, e4, e5⟩ := hxy.1 heq
          subst e1; subst e2; subst e3; subst e4; subst e5
          subst heq
          clear hxy
          go_enter Tryd.func4, Tryd.ntmps4
          go_wp2_with (first
        | (go_at_call 9; (with_reducible refine (awake15 _ (HG.out.below hb0 HG.out.pos)).mono ?_); rintro r w1 ⟨rfl, hb1⟩; replace hb0 := hb0.trans (hb1.mono hb0.size); replace ka := ka.step hb1; replace kc := kc.step hb1; clear hb1)
        | (go_at_call 8; (with_reducible refine (twin_none15 20 _ (by omega) (by omega)).mono ?_); rintro r w2 ⟨p, q, rfl, hb⟩; have hS := LA.start (At.start hb); clear hb; have ea := (ka.step hS.bel).cell; have la := (ka.step hS.bel).lt)
        | (go_at_call 10; first
          | ((with_reducible refine (LA.op1 (H1.out _) (refA_good _ _ _) emp_good hS).mono ?_); rintro r w3 ⟨rfl, hS1⟩; replace hS := hS1; clear hS1; have ec := (kc.step hS.bel).cell; have lc := (kc.step hS.bel).lt)
          | ((with_reducible refine (LA.op1 (H2.out _) (refA_good _ _ _) emp_good hS).mono ?_); rintro r w4 ⟨rfl, hS1⟩; replace hS := hS1; clear hS1))
        | (go_at_call 12; (with_reducible refine (LA.op1G (H3.out _) (refA_good _ _ _) emp_good (HG.out.below hb0 HG.out.pos) hS).mono ?_); rintro r w5 ⟨rfl, hS1⟩; have ea := (ka.step hS1.bel).cell; have la := (ka.step hS1.bel).lt; have ec := (kc.step hS1.bel).cell; have lc := (kc.step hS1.bel).lt; replace hS := hS1; clear hS1)
        | (go_at_call 14; (with_reducible refine (lnum _ _).mono ?_); rintro r w9 ⟨rfl, rfl⟩))
          all_goals
            go_ret
            exact ⟨rfl, hb0.trans ((hS.step (rb_good _ _ _ _ _ _) (balloc2 _ _)).bel.mono hb0.size)⟩
        · have hx1 : (x == y) = false := by simpa using heq
          have hne := fun c => heq (hxy.2 c)
          clear hxy
          have HN := Lib.hid hne
          clear hne
          go_enter Tryd.func4, Tryd.ntmps4
          go_wp2_with (first
        | (go_at_call 9; (with_reducible refine (awake15 _ (HG.out.below hb0 HG.out.pos)).mono ?_); rintro r w1 ⟨rfl, hb1⟩; replace hb0 := hb0.trans (hb1.mono hb0.size); replace ka := ka.step hb1; replace kc := kc.step hb1; clear hb1)
        | (go_at_call 8; (with_reducible refine (twin_none15 20 _ (by omega) (by omega)).mono ?_); rintro r w2 ⟨p, q, rfl, hb⟩; have hS := LA.start (At.start hb); clear hb; have ea := (ka.step hS.bel).cell; have la := (ka.step hS.bel).lt)
        | (go_at_call 10; first
          | ((with_reducible refine (LA.op1 (H1.out _) (refA_good _ _ _) emp_good hS).mono ?_); rintro r w3 ⟨rfl, hS1⟩; replace hS := hS1; clear hS1; have ec := (kc.step hS.bel).cell; have lc := (kc.step hS.bel).lt)
          | ((with_reducible refine (LA.op1 (H2.out _) (refA_good _ _ _) emp_good hS).mono ?_); rintro r w4 ⟨rfl, hS1⟩; replace hS := hS1; clear hS1))
        | (go_at_call 12; (with_reducible refine (LA.op1G (H3.out _) (refA_good _ _ _) emp_good (HG.out.below hb0 HG.out.pos) hS).mono ?_); rintro r w5 ⟨rfl, hS1⟩; have ea := (ka.step hS1.bel).cell; have la := (ka.step hS1.bel).lt; have ec := (kc.step hS1.bel).cell; have lc := (kc.step hS1.bel).lt; replace hS := hS1; clear hS1)
        | (go_at_call 14; (with_reducible refine (lnum _ _).mono ?_); rintro r w9 ⟨rfl, rfl⟩))
          all_goals first
            | exact absurd ⟨by assumption, by assumption, by assumption, by assumption, by assumption⟩ HN.out
            | (go_ret; exact ⟨rfl, hb0.trans ((hS.step (rb_good _ _ _ _ _ _) (balloc2 _ _)).bel.mono hb0.size)⟩)
      · clear hl
        by_cases heq : x = y
        · obtain ⟨e1, e2, e3, e4, e5⟩ := hxy.1 heq
          subst e1; subst e2; subst e3; subst e4; subst e5
          subst heq
          clear hxy
          go_enter Tryd.func4, Tryd.ntmps4
          go_wp2_with (first
        | (go_at_call 9; (with_reducible refine (awake15 _ (HG.out.below hb0 HG.out.pos)).mono ?_); rintro r w1 ⟨rfl, hb1⟩; replace hb0 := hb0.trans (hb1.mono hb0.size); replace ka := ka.step hb1; replace kc := kc.step hb1; clear hb1)
        | (go_at_call 8; (with_reducible refine (twin_none15 20 _ (by omega) (by omega)).mono ?_); rintro r w2 ⟨p, q, rfl, hb⟩; have hS := LA.start (At.start hb); clear hb; have ea := (ka.step hS.bel).cell; have la := (ka.step hS.bel).lt)
        | (go_at_call 10; first
          | ((with_reducible refine (LA.op1 (H1.out _) (refA_good _ _ _) emp_good hS).mono ?_); rintro r w3 ⟨rfl, hS1⟩; replace hS := hS1; clear hS1; have ec := (kc.step hS.bel).cell; have lc := (kc.step hS.bel).lt)
          | ((with_reducible refine (LA.op1 (H2.out _) (refA_good _ _ _) emp_good hS).mono ?_); rintro r w4 ⟨rfl, hS1⟩; replace hS := hS1; clear hS1))
        | (go_at_call 12; (with_reducible refine (LA.op1G (H3.out _) (refA_good _ _ _) emp_good (HG.out.below hb0 HG.out.pos) hS).mono ?_); rintro r w5 ⟨rfl, hS1⟩; have ea := (ka.step hS1.bel).cell; have la := (ka.step hS1.bel).lt; have ec := (kc.step hS1.bel).cell; have lc := (kc.step hS1.bel).lt; replace hS := hS1; clear hS1)
        | (go_at_call 14; (with_reducible refine (lnum _ _).mono ?_); rintro r w9 ⟨rfl, rfl⟩))
          all_goals
            go_ret
            exact ⟨rfl, hb0.trans ((hS.step (rb_good _ _ _ _ _ _) (balloc2 _ _)).bel.mono hb0.size)⟩
        · have hx1 : (x == y) = false := by simpa using heq
          have hne := fun c => heq (hxy.2 c)
          clear hxy
          have HN := Lib.hid hne
          clear hne
          go_enter Tryd.func4, Tryd.ntmps4
          go_wp2_with (first
        | (go_at_call 9; (with_reducible refine (awake15 _ (HG.out.below hb0 HG.out.pos)).mono ?_); rintro r w1 ⟨rfl, hb1⟩; replace hb0 := hb0.trans (hb1.mono hb0.size); replace ka := ka.step hb1; replace kc := kc.step hb1; clear hb1)
        | (go_at_call 8; (with_reducible refine (twin_none15 20 _ (by omega) (by omega)).mono ?_); rintro r w2 ⟨p, q, rfl, hb⟩; have hS := LA.start (At.start hb); clear hb; have ea := (ka.step hS.bel).cell; have la := (ka.step hS.bel).lt)
        | (go_at_call 10; first
          | ((with_reducible refine (LA.op1 (H1.out _) (refA_good _ _ _) emp_good hS).mono ?_); rintro r w3 ⟨rfl, hS1⟩; replace hS := hS1; clear hS1; have ec := (kc.step hS.bel).cell; have lc := (kc.step hS.bel).lt)
          | ((with_reducible refine (LA.op1 (H2.out _) (refA_good _ _ _) emp_good hS).mono ?_); rintro r w4 ⟨rfl, hS1⟩; replace hS := hS1; clear hS1))
        | (go_at_call 12; (with_reducible refine (LA.op1G (H3.out _) (refA_good _ _ _) emp_good (HG.out.below hb0 HG.out.pos) hS).mono ?_); rintro r w5 ⟨rfl, hS1⟩; have ea := (ka.step hS1.bel).cell; have la := (ka.step hS1.bel).lt; have ec := (kc.step hS1.bel).cell; have lc := (kc.step hS1.bel).lt; replace hS := hS1; clear hS1)
        | (go_at_call 14; (with_reducible refine (lnum _ _).mono ?_); rintro r w9 ⟨rfl, rfl⟩))
          all_goals first
            | exact absurd ⟨by assumption, by assumption, by assumption, by assumption, by assumption⟩ HN.out
            | (go_ret; exact ⟨rfl, hb0.trans ((hS.step (rb_good _ _ _ _ _ _) (balloc2 _ _)).bel.mono hb0.size)⟩)
theorem tkback_walk (a c : Bd) (epoch now keep : Int) (w : World) (hg : Gd w) :
    Calls Tryd.prog 4 #[.agg #[.int .i64 a.u, .int .i64 a.g, .int .i64 a.x, .int .i64 a.s, .int .i64 a.k], .agg #[.int .i64 c.u, .int .i64 c.g, .int .i64 c.x, .int .i64 c.s, .int .i64 c.k], .int .i64 epoch, .int .i64 now, .int .i64 keep] w fun e w' => e = .returned (.bool true) ∧ Below w.heap.size w w' := by
  obtain ⟨a0, a1, a2, a3, a4⟩ := a
  obtain ⟨c0, c1, c2, c3, c4⟩ := c
  have hu0 : 0 ≤ IntKind.u64.wrap keep := by rw [IntKind.wrap_u64]; omega
  have he := i64_mask epoch 10 (by omega)
  have ho := i64_mask now 3 (by omega)
  rw [show ((2 ^ 10 - 1 : Nat) : Int) = 1023 from by decide, show ((2 ^ 10 : Nat) : Int) = 1024 from by decide] at he
  rw [show ((2 ^ 3 - 1 : Nat) : Int) = 7 from by decide, show ((2 ^ 3 : Nat) : Int) = 8 from by decide] at ho
  have hk := Int.tmod_eq_emod_of_nonneg (b := 5) hu0
  cases h1 : (Bd.mk a0 a1 a2 a3 a4).may with
  | false => exact tkback_bad a0 a1 a2 a3 a4 c0 c1 c2 c3 c4 epoch now keep w hg _ _ he (by omega) (by omega) hk (by omega) (by omega) (.inl h1)
  | true =>
    cases h2 : (Bd.mk c0 c1 c2 c3 c4).may with
    | false => exact tkback_bad a0 a1 a2 a3 a4 c0 c1 c2 c3 c4 epoch now keep w hg _ _ he (by omega) (by omega) hk (by omega) (by omega) (.inr h2)
    | true => exact tkback_good a0 a1 a2 a3 a4 c0 c1 c2 c3 c4 epoch now keep w hg _ _ _ he (by omega) (by omega) hk (by omega) (by omega) ho (by omega) (by omega) h1 h2
end Go.Proofs.YtcakipojmkehgaaDoor
