/- Package ticket's seal and Put: what they answer and leave. Condition: numbers of 64 bits. -/
import Derived.Test.YtcakipojmkehgaaDoorTkt
namespace Go.Proofs.YtcakipojmkehgaaDoor
open Go Go.RowKit

/-- Within a call that keeps an argument in a block of its own, beside the assertion that it turns. -/
structure PS (F : List Nat) (A : Ass) (w W : World) (c : Array Value) : Prop where
  ex : ∃ F', A W F' ∧ Tn F w W ∧ (∀ k ∈ F', k ∈ F ∨ w.heap.size ≤ k) ∧ w.heap.size ∉ F'
  b0 : Blk W w.heap.size c
theorem PS.start {F : List Nat} {A : Ass} {w : World} (hA : A.Good) (h : A w F) (c : Array Value) (T : TypeId) : PS F A w (w.alloc (.cells c T)) c :=
  ⟨⟨F, hA.below h (balloc2 _ _), (Tn.refl F w).alloc _, fun _ hk => .inl hk, fun hk => absurd ((hA w F h).1 _ hk) (Nat.lt_irrefl _)⟩, Blk.new _ _ _⟩
theorem PS.step {F : List Nat} {A : Ass} {w W W' : World} {c : Array Value} (hA : A.Good) (h : PS F A w W c) (hb : Below W.heap.size W W') : PS F A w W' c := by
  obtain ⟨⟨F', h1, h2, h3, h4⟩, hk⟩ := h
  exact ⟨⟨F', hA.below h1 hb, h2.trans (Tn.ofBelow hb []) (fun x hx => by cases hx), h3, h4⟩, hk.step hb⟩
theorem PS.op {P : Program} {F : List Nat} {A A' : Ass} {f : FuncId} {args : Array Value} {v : Ending} (hd : Does P A f args v A') {w W : World} {c : Array Value} (h : PS F A w W c) : Calls P f args W fun e w' => e = v ∧ PS F A' w w' c := by
  obtain ⟨⟨F', h1, h2, h3, h4⟩, hk⟩ := h
  refine (hd W F' h1).mono ?_
  rintro e w' ⟨he, F2, g1, g2, g3⟩
  have hlt := hk.lt
  refine ⟨he, ⟨F2, g1, h2.trans g2 h3, fun k hm => ?_, fun hm => ?_⟩, ⟨fun i => ?_, fun i => ?_, Nat.lt_of_lt_of_le hlt g2.size⟩⟩
  · rcases g3 k hm with e | e
    · exact h3 k e
    · exact .inr (Nat.le_trans h2.size e)
  · rcases g3 _ hm with e | e
    · exact h4 e
    · omega
  · exact (World.cell?_of_block (w := W) (a := ⟨w.heap.size, i, none⟩) (g2.block _ hlt h4)).trans (hk.cell i)
  · exact (World.frozen?_of_block (w := W) (a := ⟨w.heap.size, i, none⟩) (g2.block _ hlt h4)).trans (hk.froz i)
theorem PS.done {F : List Nat} {A : Ass} {w W : World} {c : Array Value} (h : PS F A w W c) : Becomes F A w W := by
  obtain ⟨⟨F', h1, h2, h3, _⟩, _⟩ := h
  exact ⟨F', h1, h2, h3⟩
theorem bookA_pre {F : List Nat} {A : Ass} {w w1 w' : World} (hb : Below w.heap.size w w1) (h : Becomes F A w1 w') : Becomes F A w w' := Becomes.pre hb h
theorem rgX_bd (most : Int) (ts : List ByteArray) (e : Int) : 0 ≤ rgX most ts e ∧ rgX most ts e ≤ ts.length := by
  unfold rgX ckX
  have := nmX_bd most ts (epK e)
  split
  · split <;> omega
  · omega
theorem rgE_of (most : Int) (ts : List ByteArray) (e : Int) : rgE most ts e = 0 ∨ rgE most ts e = 1400 := by
  unfold rgE
  split
  · exact .inl rfl
  · exact .inr rfl
theorem ckE_of (most : Int) (ts : List ByteArray) (ok : Bool) (t : ByteArray) : ckE most ts ok t = 0 ∨ ckE most ts ok t = 300 := by
  unfold ckE
  split
  · exact .inl rfl
  · exact .inr rfl
/-- What Put answers and leaves, by ways. -/
theorem tp_bad {most : Int} {ts : List ByteArray} {e : Int} {t : Bd} (h : t.may = false) : tpX most ts e t = 0 ∧ tpE most ts e t = 1500 ∧ tpT most ts e t = ts := by
  unfold tpX tpE tpT tpB
  rw [h]
  exact ⟨rfl, rfl, rfl⟩
theorem tp_ring {most : Int} {ts : List ByteArray} {e : Int} {t : Bd} (h : t.may = true) (hr : rgE most ts e = 1400) : tpX most ts e t = 0 ∧ tpE most ts e t = 1500 ∧ tpT most ts e t = rgT most ts e := by
  unfold tpX tpE tpT tpB
  rw [h, hr]
  exact ⟨rfl, rfl, rfl⟩
theorem tp_seal {most : Int} {ts : List ByteArray} {e : Int} {t : Bd} (h : t.may = true) (hr : rgE most ts e = 0) :
    tpX most ts e t = ckX most (rgT most ts e) (okK (some (rgX most ts e))) (tpS most ts e t) ∧ tpE most ts e t = tkEn (ckE most (rgT most ts e) (okK (some (rgX most ts e))) (tpS most ts e t)) ∧ tpT most ts e t = ckT most (rgT most ts e) (okK (some (rgX most ts e))) (tpS most ts e t) := by
  unfold tpX tpE tpT tpB
  rw [h, hr]
  refine ⟨rfl, ?_, rfl⟩
  rcases ckE_of most (rgT most ts e) (okK (some (rgX most ts e))) (tpS most ts e t) with c | c <;> rw [c] <;> rfl
/-- What seal leaves. -/
def SealP (most : Int) (p : Nat) (X E : Int) (T : List ByteArray) (F : List Nat) (w : World) (r : Ending) (w' : World) : Prop :=
  ∃ v n, r = .returned (.tuple #[.int .i64 X, v]) ∧ Er w' v n ∧ (okN n ∨ n = 1 ∨ n = 1500 ∨ n = 1400 ∨ n = 300) ∧ tkEn n = E ∧ Becomes F (bookA p most T) w w'
set_option maxRecDepth 100000 in
set_option maxHeartbeats 8000000 in
theorem tkseal_ok (p : Nat) (most : Int) (ts : List ByteArray) (e : Int) (t : Bd) (s0 : -9223372036854775808 ≤ e) (s1 : e ≤ 9223372036854775807) (hm : t.may = true) (hr : rgE most ts e = 0) (w : World) (F : List Nat) (h : bookA p most ts w F) :
    Calls Tryd.prog 23 #[.pointer (some ⟨p, 0, none⟩), .int .i64 e, t.val] w (SealP most p (tpX most ts e t) (tpE most ts e t) (tpT most ts e t) F w) := by
  obtain ⟨q1, q2, q3⟩ := tp_seal (ts := ts) (most := most) (e := e) hm hr
  rw [q1, q2, q3]
  have hlen := bookA_len h
  obtain ⟨x0, x1⟩ := rgX_bd most ts e
  have hK := pgkey p most ts e s0 s1
  rw [hr] at hK
  have hS := dseal p most (rgT most ts e) (rgX most ts e) t.enc (by have := t.enc_size; omega) (by omega) (by omega)
  have hM := fun w => tkmay t w
  have hJ := fun w => tkjoin t w
  have hce := ckE_of most (rgT most ts e) (okK (some (rgX most ts e))) (tpS most ts e t)
  have h0 := PS.start (bookA_good p most ts) h #[.int .i64 t.u, .int .i64 t.g, .int .i64 t.x, .int .i64 t.s, .int .i64 t.k] 34
  rw [hm] at hM
  unfold tpS at hce ⊢
  generalize ckX most (rgT most ts e) (okK (some (rgX most ts e))) (tmK cS (some (rgX most ts e)) t.enc) = X at *
  generalize ckE most (rgT most ts e) (okK (some (rgX most ts e))) (tmK cS (some (rgX most ts e)) t.enc) = E at *
  generalize ckT most (rgT most ts e) (okK (some (rgX most ts e))) (tmK cS (some (rgX most ts e)) t.enc) = T3 at *
  generalize rgT most ts e = T2 at *
  generalize rgX most ts e = K at *
  generalize t.enc = S at *
  obtain ⟨u, g, x, s, k⟩ := t
  simp only [Bd.val] at hM hJ h0 ⊢
  have HK := Lib.hid hK
  have HS := Lib.hid hS
  have HM := Lib.hid hM
  have HJ := Lib.hid hJ
  have HE := Lib.hid hce
  clear hK hS hM hJ hce hlen x0 x1 q1 q2 q3 hm hr h
  go_enter Tryd.func23, Tryd.ntmps23
  go_wp2_with (first
    | (go_at_call 37; (with_reducible refine (HM.out _).mono ?_); rintro r w1 ⟨rfl, hb⟩; replace h0 := h0.step (bookA_good _ _ _) hb; clear hb)
    | (go_at_call 38; (with_reducible refine (PS.op HK.out h0).mono ?_); rintro r w2 ⟨rfl, h1⟩; replace h0 := h1; clear h1)
    | (go_at_call 39; (with_reducible refine (fltof _ _ _ _).mono ?_); rintro r w3 ⟨er, rfl, hEr, hb⟩; replace h0 := h0.step (bookA_good _ _ _) hb; clear hb; first | (have q := tker_nil hEr; subst q; clear hEr; have e0 := h0.b0.cell) | skip)
    | (go_at_call 41; (with_reducible refine (HJ.out _).mono ?_); rintro r w4 ⟨rfl, hb⟩; replace h0 := h0.step (bookA_good _ _ _) hb; clear hb)
    | (go_at_call 40; (with_reducible refine (PS.op HS.out h0).mono ?_); rintro r w5 ⟨rfl, h1⟩; replace h0 := h1; clear h1))
  go_ret2
  refine ⟨_, E, rfl, hEr, ?_, rfl, h0.done⟩
  rcases HE.out with c | c
  · exact .inl (.inl c)
  · exact .inr (.inr (.inr (.inr c)))
set_option maxRecDepth 100000 in
set_option maxHeartbeats 8000000 in
theorem tkseal_ring (p : Nat) (most : Int) (ts : List ByteArray) (e : Int) (t : Bd) (s0 : -9223372036854775808 ≤ e) (s1 : e ≤ 9223372036854775807) (hm : t.may = true) (hr : rgE most ts e = 1400) (w : World) (F : List Nat) (h : bookA p most ts w F) :
    Calls Tryd.prog 23 #[.pointer (some ⟨p, 0, none⟩), .int .i64 e, t.val] w (SealP most p (tpX most ts e t) (tpE most ts e t) (tpT most ts e t) F w) := by
  obtain ⟨q1, q2, q3⟩ := tp_ring (ts := ts) (most := most) (e := e) hm hr
  rw [q1, q2, q3]
  have hK := pgkey p most ts e s0 s1
  rw [hr] at hK
  have hM := fun w => tkmay t w
  rw [hm] at hM
  have h0 := PS.start (bookA_good p most ts) h #[.int .i64 t.u, .int .i64 t.g, .int .i64 t.x, .int .i64 t.s, .int .i64 t.k] 34
  generalize rgT most ts e = T2 at *
  generalize rgX most ts e = K at *
  obtain ⟨u, g, x, s, k⟩ := t
  simp only [Bd.val] at hM h0 ⊢
  have HK := Lib.hid hK
  have HM := Lib.hid hM
  clear hK hM q1 q2 q3 hm hr h
  go_enter Tryd.func23, Tryd.ntmps23
  go_wp2_with (first
    | (go_at_call 37; (with_reducible refine (HM.out _).mono ?_); rintro r w1 ⟨rfl, hb⟩; replace h0 := h0.step (bookA_good _ _ _) hb; clear hb)
    | (go_at_call 38; (with_reducible refine (PS.op HK.out h0).mono ?_); rintro r w2 ⟨rfl, h1⟩; replace h0 := h1; clear h1)
    | (go_at_call 39; (with_reducible refine (fltof _ _ _ _).mono ?_); rintro r w3 ⟨er, rfl, hEr, hb⟩; replace h0 := h0.step (bookA_good _ _ _) hb; clear hb; obtain ⟨fb, rfl, hfc⟩ := tker_ne hEr (by decide)))
  go_ret2
  exact ⟨_, 1400, rfl, hEr, .inr (.inr (.inr (.inl rfl))), rfl, h0.done⟩
set_option maxRecDepth 100000 in
set_option maxHeartbeats 8000000 in
theorem tkseal_bad (p : Nat) (most : Int) (ts : List ByteArray) (e : Int) (t : Bd) (hm : t.may = false) (w : World) (F : List Nat) (h : bookA p most ts w F) :
    Calls Tryd.prog 23 #[.pointer (some ⟨p, 0, none⟩), .int .i64 e, t.val] w (SealP most p (tpX most ts e t) (tpE most ts e t) (tpT most ts e t) F w) := by
  obtain ⟨q1, q2, q3⟩ := tp_bad (ts := ts) (most := most) (e := e) hm
  rw [q1, q2, q3]
  have hM := fun w => tkmay t w
  rw [hm] at hM
  have h0 := PS.start (bookA_good p most ts) h #[.int .i64 t.u, .int .i64 t.g, .int .i64 t.x, .int .i64 t.s, .int .i64 t.k] 34
  obtain ⟨u, g, x, s, k⟩ := t
  simp only [Bd.val] at hM h0 ⊢
  have HM := Lib.hid hM
  clear hM q1 q2 q3 hm h
  go_enter Tryd.func23, Tryd.ntmps23
  go_wp2_with (first
    | (go_at_call 37; (with_reducible refine (HM.out _).mono ?_); rintro r w1 ⟨rfl, hb⟩; replace h0 := h0.step (bookA_good _ _ _) hb; clear hb; have e0 := h0.b0.cell)
    | (go_at_call 36; (with_reducible refine (tkflt _ _ _ _).mono ?_); rintro e w3 ⟨fb, rfl, hfc, hb⟩; replace h0 := h0.step (bookA_good _ _ _) hb; clear hb))
  go_ret2
  exact ⟨_, 1500, rfl, tker_mk (by decide) hfc, .inr (.inr (.inl rfl)), rfl, h0.done⟩
theorem tkseal (p : Nat) (most : Int) (ts : List ByteArray) (e : Int) (t : Bd) (s0 : -9223372036854775808 ≤ e) (s1 : e ≤ 9223372036854775807) (w : World) (F : List Nat) (h : bookA p most ts w F) :
    Calls Tryd.prog 23 #[.pointer (some ⟨p, 0, none⟩), .int .i64 e, t.val] w (SealP most p (tpX most ts e t) (tpE most ts e t) (tpT most ts e t) F w) := by
  cases hm : t.may with
  | false => exact tkseal_bad p most ts e t hm w F h
  | true =>
    rcases rgE_of most ts e with hr | hr
    · exact tkseal_ok p most ts e t s0 s1 hm hr w F h
    · exact tkseal_ring p most ts e t s0 s1 hm hr w F h
theorem tkseal_nil (e : Int) (t : Bd) (w : World) :
    Calls Tryd.prog 23 #[.pointer none, .int .i64 e, t.val] w fun r w' => ∃ v, r = .returned (.tuple #[.int .i64 0, v]) ∧ Er w' v 1 ∧ Below w.heap.size w w' := by
  obtain ⟨u, g, x, s, k⟩ := t
  simp only [Bd.val]
  have h0 := balloc2 w (.cells #[.int .i64 u, .int .i64 g, .int .i64 x, .int .i64 s, .int .i64 k] 34)
  go_enter Tryd.func23, Tryd.ntmps23
  go_wp2_with (first
    | (go_at_call 36; (with_reducible refine (tkflt _ _ _ _).mono ?_); rintro e w3 ⟨fb, rfl, hfc, hb⟩))
  go_ret2
  exact ⟨_, rfl, tker_mk (by decide) hfc, h0.trans (hb.mono h0.size)⟩
set_option maxRecDepth 100000 in
set_option maxHeartbeats 8000000 in
/-- Put. -/
theorem dtput (p : Nat) (most : Int) (ts : List ByteArray) (e : Int) (t : Bd) (s0 : -9223372036854775808 ≤ e) (s1 : e ≤ 9223372036854775807) :
    Does Tryd.prog (bookA p most ts) 10 #[.pointer (some ⟨p, 0, none⟩), .int .i64 e, t.val] (.returned (.tuple #[.int .i64 (tpX most ts e t), .int .i64 (tpE most ts e t)])) (bookA p most (tpT most ts e t)) := by
  intro w F h
  have h0 := PS.start (bookA_good p most ts) h #[.int .i64 t.u, .int .i64 t.g, .int .i64 t.x, .int .i64 t.s, .int .i64 t.k] 34
  have hS := fun W F h => tkseal p most ts e t s0 s1 W F h
  have hg := bookA_good p most ts
  have hg2 := bookA_good p most (tpT most ts e t)
  generalize tpX most ts e t = X at *
  generalize tpE most ts e t = E at *
  generalize tpT most ts e t = T at *
  obtain ⟨u, g, x, s, k⟩ := t
  simp only [Bd.val] at hS h0 ⊢
  have hb0 := balloc2 w (.cells #[.int .i64 u, .int .i64 g, .int .i64 x, .int .i64 s, .int .i64 k] 34)
  have hS1 := hS _ F (hg.below h hb0)
  have HS := Lib.hid hS1
  clear hS hS1 h
  go_enter Tryd.func10, Tryd.ntmps10
  go_wp2_with (first
    | (go_at_call 23; (with_reducible refine HS.out.mono ?_); rintro r w1 ⟨v, n, rfl, hEr, hn, rfl, hB⟩)
    | (go_at_call 24; (with_reducible refine (tkerr hEr hn).mono ?_); rintro r w2 ⟨rfl, rfl⟩))
  go_ret2
  exact ⟨rfl, bookA_pre hb0 hB⟩
theorem dtput_nil (e : Int) (t : Bd) (w : World) : Calls Tryd.prog 10 #[.pointer none, .int .i64 e, t.val] w fun r w' => r = .returned (.tuple #[.int .i64 0, .int .i64 1]) ∧ Below w.heap.size w w' := by
  have hS := fun W => tkseal_nil e t W
  obtain ⟨u, g, x, s, k⟩ := t
  simp only [Bd.val] at hS ⊢
  have hb0 := balloc2 w (.cells #[.int .i64 u, .int .i64 g, .int .i64 x, .int .i64 s, .int .i64 k] 34)
  have HS := Lib.hid hS
  clear hS
  go_enter Tryd.func10, Tryd.ntmps10
  go_wp2_with (first
    | (go_at_call 23; (with_reducible refine (HS.out _).mono ?_); rintro r w1 ⟨v, rfl, hEr, hb⟩)
    | (go_at_call 24; (with_reducible refine (tkerr hEr (.inr (.inl rfl))).mono ?_); rintro r w2 ⟨rfl, rfl⟩))
  go_ret2
  exact ⟨rfl, hb0.trans (hb.mono hb0.size)⟩
end Go.Proofs.YtcakipojmkehgaaDoor
