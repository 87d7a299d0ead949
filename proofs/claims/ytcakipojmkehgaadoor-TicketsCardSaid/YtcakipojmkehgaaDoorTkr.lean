/- The reference's PutTicket and GetTicket: what they answer and leave. Conditions: numbers of 64 bits; GetTicket: the book's terms may be. -/
import Derived.Test.YtcakipojmkehgaaDoorTku
import Derived.Test.YtcakipojmkehgaaDoorTkb2
import Derived.Test.YtcakipojmkehgaaDoorBbk
namespace Go.Proofs.YtcakipojmkehgaaDoor
open Go Go.RowKit

/-- The same, without what stands in the block. -/
def PX (F : List Nat) (A : Ass) (w W : World) : Prop := ∃ F', A W F' ∧ Tn F w W ∧ (∀ k ∈ F', k ∈ F ∨ w.heap.size ≤ k) ∧ w.heap.size ∉ F'
theorem PX.set {F : List Nat} {A : Ass} {w W : World} (hA : A.Good) (h : PX F A w W) (i : Nat) (v : Value) : PX F A w (W.setCell ⟨w.heap.size, i, none⟩ v) := by
  obtain ⟨F', h1, h2, h3, h4⟩ := h
  exact ⟨F', (hA W F' h1).2 _ (fun k hk => Below.heap_setCell W ⟨w.heap.size, i, none⟩ v k (fun e => by subst e; exact h4 hk)), h2.setCell (.inr (Nat.le_refl _)) v, h3, h4⟩
theorem PX.step {F : List Nat} {A : Ass} {w W W' : World} (hA : A.Good) (h : PX F A w W) (hb : Below W.heap.size W W') : PX F A w W' := by
  obtain ⟨F', h1, h2, h3, h4⟩ := h
  exact ⟨F', hA.below h1 hb, h2.trans (Tn.ofBelow hb []) (fun x hx => by cases hx), h3, h4⟩
theorem PX.done {F : List Nat} {A : Ass} {w W : World} (h : PX F A w W) : Becomes F A w W := by
  obtain ⟨F', h1, h2, h3, _⟩ := h
  exact ⟨F', h1, h2, h3⟩
theorem PX.five {F : List Nat} {A : Ass} {w W : World} (hA : A.Good) (h : PX F A w W) (x0 x1 x2 x3 x4 : Value) : PX F A w (((((W.setCell ⟨w.heap.size, 0, none⟩ x0).setCell ⟨w.heap.size, 1, none⟩ x1).setCell ⟨w.heap.size, 2, none⟩ x2).setCell ⟨w.heap.size, 3, none⟩ x3).setCell ⟨w.heap.size, 4, none⟩ x4) := by
  have h0 := PX.set hA h 0 x0
  have h1 := PX.set hA h0 1 x1
  have h2 := PX.set hA h1 2 x2
  have h3 := PX.set hA h2 3 x3
  exact PX.set hA h3 4 x4
theorem refA_len {p : Nat} {most : Int} {ts : List ByteArray} {w : World} {F : List Nat} (h : refA p most ts w F) : ts.length ≤ 65536 := by
  obtain ⟨v, hb, rfl⟩ := h
  have h1 := hb.lm
  have h2 := hb.m2
  omega
theorem rnums5 (t : Bd) (hm : t.may = true) (W : World) (T : TypeId) :
    Calls Tryd.prog 18 #[.slice (some ⟨W.heap.size, 0, none⟩) 5 5] (W.alloc (.cells #[.int .i64 t.u, .int .i64 t.g, .int .i64 t.x, .int .i64 t.s, .int .i64 t.k] T)) fun e w' => e = .returned (.string t.enc) ∧ Below W.heap.size W w' := by
  have hb0 := balloc2 W (.cells #[.int .i64 t.u, .int .i64 t.g, .int .i64 t.x, .int .i64 t.s, .int .i64 t.k] T)
  have hK := Blk.new W #[.int .i64 t.u, .int .i64 t.g, .int .i64 t.x, .int .i64 t.s, .int .i64 t.k] T
  have hr := Bd.row_ok hm
  have := rnums t.row W.heap.size 5 _ rfl (by omega) (fun j hj => (hK.cell j).trans (five_at _ _ _ _ _ j hj)) (fun j hj => by
    have hz := hr (t.row.getD j 0) (by rw [List.getD, List.getElem?_eq_getElem (show j < t.row.length from hj)]; exact List.getElem_mem _)
    omega) hK.lt
  exact this.mono fun e w' ⟨a, b⟩ => ⟨a, hb0.trans (b.mono hb0.size)⟩
set_option maxRecDepth 100000 in
set_option maxHeartbeats 8000000 in
theorem rtput_seal (p : Nat) (most : Int) (ts : List ByteArray) (e : Int) (t : Bd) (s0 : -9223372036854775808 ≤ e) (s1 : e ≤ 9223372036854775807) (hm : t.may = true) (hr : rgE most ts e = 0) :
    Does Tryd.prog (refA p most ts) 11 #[.pointer (some ⟨p, 0, none⟩), .int .i64 e, t.val] (.returned (.tuple #[.int .i64 (tpX most ts e t), .int .i64 (tpE most ts e t)])) (refA p most (tpT most ts e t)) := by
  intro w F h
  obtain ⟨q1, q2, q3⟩ := tp_seal (ts := ts) (most := most) (e := e) hm hr
  rw [q1, q2, q3]
  have hlen := refA_len h
  obtain ⟨x0, x1⟩ := rgX_bd most ts e
  have hK := rgkey p most ts e s0 s1
  rw [hr] at hK
  have hS := drseal p most (rgT most ts e) (rgX most ts e) t.enc (by have := t.enc_size; omega) (by omega) (by omega)
  have hM := fun w => rbmay t w
  have hJ := fun W => rnums5 t hm W 3
  have hce := ckE_of most (rgT most ts e) (okK (some (rgX most ts e))) (tpS most ts e t)
  have hcx := rg_ckX_ne (most := most) (ts := rgT most ts e) (ok := okK (some (rgX most ts e))) (t := tpS most ts e t)
  have h0 := PS.start (refA_good p most ts) h #[.int .i64 t.u, .int .i64 t.g, .int .i64 t.x, .int .i64 t.s, .int .i64 t.k] 34
  rw [hm] at hM
  unfold tpS at hce hcx ⊢
  generalize ckX most (rgT most ts e) (okK (some (rgX most ts e))) (tmK cS (some (rgX most ts e)) t.enc) = X at *
  generalize ckE most (rgT most ts e) (okK (some (rgX most ts e))) (tmK cS (some (rgX most ts e)) t.enc) = E at *
  generalize ckT most (rgT most ts e) (okK (some (rgX most ts e))) (tmK cS (some (rgX most ts e)) t.enc) = T3 at *
  generalize rgT most ts e = T2 at *
  generalize rgX most ts e = K at *
  generalize t.enc = S at *
  obtain ⟨u, g, x, s, k⟩ := t
  simp only [Bd.val] at hM hJ h0 ⊢
  have HK := Lib.hid hK
  have HM := Lib.hid hM
  have HJ := Lib.hid hJ
  clear hK hM hJ hlen x0 x1 q1 q2 q3 hm hr h
  rcases hce with rfl | rfl
  · have HS := Lib.hid hS
    clear hS hcx
    go_enter Tryd.func11, Tryd.ntmps11
    go_wp2_with (first
      | (go_at_call 25; (with_reducible refine (HM.out _).mono ?_); rintro r w1 ⟨rfl, hb⟩; replace h0 := h0.step (refA_good _ _ _) hb; clear hb)
      | (go_at_call 26; (with_reducible refine (PS.op HK.out h0).mono ?_); rintro r w2 ⟨rfl, h1⟩; replace h0 := h1; clear h1; have e0 := h0.b0.cell)
      | (go_at_call 18; (with_reducible refine (HJ.out _).mono ?_); rintro r w4 ⟨rfl, hb⟩; replace h0 := h0.step (refA_good _ _ _) hb; clear hb)
      | (go_at_call 27; (with_reducible refine (PS.op HS.out h0).mono ?_); rintro r w5 ⟨rfl, h1⟩; replace h0 := h1; clear h1))
    go_ret2
    exact ⟨rfl, h0.done⟩
  · obtain ⟨rfl, -⟩ := hcx (by decide)
    have HS := Lib.hid hS
    clear hS hcx
    go_enter Tryd.func11, Tryd.ntmps11
    go_wp2_with (first
      | (go_at_call 25; (with_reducible refine (HM.out _).mono ?_); rintro r w1 ⟨rfl, hb⟩; replace h0 := h0.step (refA_good _ _ _) hb; clear hb)
      | (go_at_call 26; (with_reducible refine (PS.op HK.out h0).mono ?_); rintro r w2 ⟨rfl, h1⟩; replace h0 := h1; clear h1; have e0 := h0.b0.cell)
      | (go_at_call 18; (with_reducible refine (HJ.out _).mono ?_); rintro r w4 ⟨rfl, hb⟩; replace h0 := h0.step (refA_good _ _ _) hb; clear hb)
      | (go_at_call 27; (with_reducible refine (PS.op HS.out h0).mono ?_); rintro r w5 ⟨rfl, h1⟩; replace h0 := h1; clear h1))
    go_ret2
    exact ⟨rfl, h0.done⟩
set_option maxRecDepth 100000 in
set_option maxHeartbeats 8000000 in
theorem rtput_ring (p : Nat) (most : Int) (ts : List ByteArray) (e : Int) (t : Bd) (s0 : -9223372036854775808 ≤ e) (s1 : e ≤ 9223372036854775807) (hm : t.may = true) (hr : rgE most ts e = 1400) :
    Does Tryd.prog (refA p most ts) 11 #[.pointer (some ⟨p, 0, none⟩), .int .i64 e, t.val] (.returned (.tuple #[.int .i64 (tpX most ts e t), .int .i64 (tpE most ts e t)])) (refA p most (tpT most ts e t)) := by
  intro w F h
  obtain ⟨q1, q2, q3⟩ := tp_ring (ts := ts) (most := most) (e := e) hm hr
  rw [q1, q2, q3]
  have hK := rgkey p most ts e s0 s1
  rw [hr] at hK
  have hM := fun w => rbmay t w
  rw [hm] at hM
  have h0 := PS.start (refA_good p most ts) h #[.int .i64 t.u, .int .i64 t.g, .int .i64 t.x, .int .i64 t.s, .int .i64 t.k] 34
  generalize rgT most ts e = T2 at *
  generalize rgX most ts e = K at *
  obtain ⟨u, g, x, s, k⟩ := t
  simp only [Bd.val] at hM h0 ⊢
  have HK := Lib.hid hK
  have HM := Lib.hid hM
  clear hK hM q1 q2 q3 hm hr h
  go_enter Tryd.func11, Tryd.ntmps11
  go_wp2_with (first
    | (go_at_call 25; (with_reducible refine (HM.out _).mono ?_); rintro r w1 ⟨rfl, hb⟩; replace h0 := h0.step (refA_good _ _ _) hb; clear hb)
    | (go_at_call 26; (with_reducible refine (PS.op HK.out h0).mono ?_); rintro r w2 ⟨rfl, h1⟩; replace h0 := h1; clear h1))
  go_ret2
  exact ⟨rfl, h0.done⟩
set_option maxRecDepth 100000 in
set_option maxHeartbeats 8000000 in
theorem rtput_bad (p : Nat) (most : Int) (ts : List ByteArray) (e : Int) (t : Bd) (hm : t.may = false) :
    Does Tryd.prog (refA p most ts) 11 #[.pointer (some ⟨p, 0, none⟩), .int .i64 e, t.val] (.returned (.tuple #[.int .i64 (tpX most ts e t), .int .i64 (tpE most ts e t)])) (refA p most (tpT most ts e t)) := by
  intro w F h
  obtain ⟨q1, q2, q3⟩ := tp_bad (ts := ts) (most := most) (e := e) hm
  rw [q1, q2, q3]
  have hM := fun w => rbmay t w
  rw [hm] at hM
  have h0 := PS.start (refA_good p most ts) h #[.int .i64 t.u, .int .i64 t.g, .int .i64 t.x, .int .i64 t.s, .int .i64 t.k] 34
  obtain ⟨u, g, x, s, k⟩ := t
  simp only [Bd.val] at hM h0 ⊢
  have HM := Lib.hid hM
  clear hM q1 q2 q3 hm h
  go_enter Tryd.func11, Tryd.ntmps11
  go_wp2_with (first
    | (go_at_call 25; (with_reducible refine (HM.out _).mono ?_); rintro r w1 ⟨rfl, hb⟩; replace h0 := h0.step (refA_good _ _ _) hb; clear hb))
  go_ret2
  exact ⟨rfl, h0.done⟩
/-- PutTicket. -/
theorem drtput (p : Nat) (most : Int) (ts : List ByteArray) (e : Int) (t : Bd) (s0 : -9223372036854775808 ≤ e) (s1 : e ≤ 9223372036854775807) :
    Does Tryd.prog (refA p most ts) 11 #[.pointer (some ⟨p, 0, none⟩), .int .i64 e, t.val] (.returned (.tuple #[.int .i64 (tpX most ts e t), .int .i64 (tpE most ts e t)])) (refA p most (tpT most ts e t)) := by
  cases hm : t.may with
  | false => exact rtput_bad p most ts e t hm
  | true =>
    rcases rgE_of most ts e with hr | hr
    · exact rtput_seal p most ts e t s0 s1 hm hr
    · exact rtput_ring p most ts e t s0 s1 hm hr
theorem epK_lit (e : Int) : (⟨#[65, 101, 112, 111, 99, 104]⟩ : ByteArray) ++ numS e = epK e := by
  show _ = (cA ++ (epW ++ numS e))
  rw [← ba_assoc]; rfl
theorem rbody5 (s : ByteArray) (w : World) (hs : s.size ≤ 9223372036854770000) (b : Bool) (hb : (tkG s).isSome = b) :
    Calls Tryd.prog 32 #[.string s] w fun e w' => ∃ u g x y k : Int, e = .returned (.tuple #[.agg #[.int .i64 u, .int .i64 g, .int .i64 x, .int .i64 y, .int .i64 k], .bool b]) ∧ (b = true → tkG s = some ⟨u, g, x, y, k⟩) ∧ Below w.heap.size w w' := by
  subst hb
  refine (rbody s w hs).mono ?_
  rintro e w' ⟨⟨u, g, x, y, k⟩, h1, h2, h3⟩
  exact ⟨u, g, x, y, k, h1, h2, h3⟩
set_option maxRecDepth 100000 in
set_option maxHeartbeats 8000000 in
theorem rtget_ok (p : Nat) (most : Int) (ts : List ByteArray) (now keep tag : Int) (hok : ∀ t ∈ ts, okT t = true) (hB : tgB now keep = true) :
    Does Tryd.prog (refA p most ts) 13 #[.pointer (some ⟨p, 0, none⟩), .int .i64 now, .int .i64 keep, .int .i64 tag] (.returned (.tuple #[((tgF ts now keep tag).getD .zero).val, .int .i64 (if (tgF ts now keep tag).isSome then 0 else 1501)])) (refA p most ts) := by
  intro w F h
  obtain ⟨n0, n1, k0, k1⟩ := (tgB_iff _ _).1 hB
  have hlen := refA_len h
  have hM : (tkM now keep : Int) ≤ now ∧ (tkM now keep : Int) ≤ keep ∧ (tkM now keep : Int) ≤ 4 ∧ (now ≤ keep → (tkM now keep : Int) = now) ∧ (keep ≤ now → (tkM now keep : Int) = keep) := by unfold tkM; omega
  have hU := fun w => rgnum now true ((okNum_iff now).2 ⟨n0, n1⟩).symm w
  have hN := fun (e : Int) (e0 : 0 ≤ e) (e1 : e ≤ 1073741823) W => rnums1 e W (by omega) (by omega) 3
  have hF := fun e => drfind p most ts (epK e)
  have hgd := refA_good p most ts
  have h0 := PS.start (refA_good p most ts) h #[.int .i64 0, .int .i64 0, .int .i64 0, .int .i64 0, .int .i64 0] 34
  unfold tgF
  have hF0 : tkF ts tag (tkM now keep + 1) now = tkF ts tag (tkM now keep + 1 - 0) (now - ((0 : Nat) : Int)) := by simp
  generalize tkF ts tag (tkM now keep + 1) now = R at *
  generalize tkM now keep = M at *
  have HU := Lib.hid hU
  have HN := Lib.hid hN
  have HF := Lib.hid hF
  have HF0 := Lib.hid hF0
  have HOK := Lib.hid hok
  clear hU hN hF hF0 hB h hok
  go_enter Tryd.func13, Tryd.ntmps13
  go_wp2_with (go_at_call 29; (with_reducible refine (HU.out _).mono ?_); rintro r w1 ⟨rfl, rfl⟩)
  go_loopw [10] (fun i wr => ∃ k : Nat, i = .int .i64 (now - k) ∧ k ≤ M + 1 ∧ R = tkF ts tag (M + 1 - k) (now - k) ∧ PS F (refA p most ts) w wr #[.int .i64 0, .int .i64 0, .int .i64 0, .int .i64 0, .int .i64 0]) (fun i _ => (intOf i + 1).toNat)
  case atStart => exact ⟨0, by simp, by omega, HF0.out, h0⟩
  case round =>
    clear h0 HF0
    obtain ⟨k, rfl, hk, hF, h0⟩ := hrel
    by_cases hlt : k ≤ M
    · have c0 : 0 ≤ now - (k : Int) := by omega
      have c1 : now - (k : Int) ≤ 1073741823 := by omega
      have c2 : now - (now - (k : Int)) ≤ keep := by omega
      have hN1 := HN.out _ c0 c1
      have hF1 := HF.out (now - (k : Int))
      rw [← epK_lit] at hF1
      rw [show M + 1 - k = (M - k) + 1 by omega] at hF
      have hstep : tkO ts (now - k) tag = none → R = tkF ts tag (M - k) (now - k - 1) := fun ho => by rw [hF, tkF, ho]; rfl
      have hdone : ∀ D, tkO ts (now - k) tag = some D → R = some D := fun D ho => by rw [hF, tkF, ho]; rfl
      have hO := fun K (a : (-9223372036854775808 : Int) ≤ K) (b : K ≤ 9223372036854775807) => dropen p most ts K tag a b
      have hn5 := numS_size5 (now - k)
      cases hi : isB ts (⟨#[65, 101, 112, 111, 99, 104]⟩ ++ numS (now - k)) with
      | false =>
        have hR := hstep (by unfold tkO; rw [← epK_lit, hi, if_neg (fun c => by cases c.1)])
        rw [hi] at hF1
        generalize fnd ts (⟨#[65, 101, 112, 111, 99, 104]⟩ ++ numS (now - k)) = X at *
        generalize numS (now - k) = NS at *
        have HN1 := Lib.hid hN1
        have HF1 := Lib.hid hF1
        have HR := Lib.hid hR
        clear hN1 hF1 hR hF hstep hdone hO hi
        go_wp2_with (first
          | (go_at_call 18; (with_reducible refine (HN1.out _).mono ?_); rintro r w2 ⟨rfl, hb⟩; replace h0 := h0.step (refA_good _ _ _) hb; clear hb)
          | (go_at_call 30; (with_reducible refine (PS.op HF1.out h0).mono ?_); rintro r w3 ⟨rfl, h1⟩; replace h0 := h1; clear h1))
        go_roundw
        case rel => exact ⟨k + 1, by congr 1; omega, by omega, by rw [HR.out, show M + 1 - (k + 1) = M - k by omega]; congr 1; omega, h0⟩
        case measure => simp [intOf]; omega
      | true =>
        have hidx := idx_lt ((isB_iff _ _).1 hi)
        have hf : fnd ts (⟨#[65, 101, 112, 111, 99, 104]⟩ ++ numS (now - k)) = ((idx ts (epK (now - k)) : Nat) : Int) := by unfold fnd; rw [if_pos hi, ← epK_lit]
        rw [hi, hf] at hF1
        rw [epK_lit] at hi hidx
        have hO1 := hO ((idx ts (epK (now - k)) : Nat) : Int) (by omega) (by omega)
        have hbd := rbody5 (opS ts (idx ts (epK (now - k))) tag)
        have hsz := opS_size HOK.out (idx ts (epK (now - k))) tag
        by_cases ho : opE ts (idx ts (epK (now - k))) tag = 0
        · have hk2 : tkO ts (now - k) tag = tkG (opS ts (idx ts (epK (now - k))) tag) := by unfold tkO; rw [if_pos ⟨hi, ho⟩]
          rw [hk2] at hstep hdone
          rw [ho] at hO1
          generalize opS ts (idx ts (epK (now - k))) tag = S at *
          generalize ((idx ts (epK (now - k)) : Nat) : Int) = K at *
          cases hg : tkG S with
          | none =>
            have hR := hstep hg
            have hbd2 := fun W => hbd W (by omega) false (by rw [hg]; rfl)
            generalize numS (now - k) = NS at *
            have HN1 := Lib.hid hN1
            have HF1 := Lib.hid hF1
            have HO1 := Lib.hid hO1
            have HB := Lib.hid hbd2
            have HR := Lib.hid hR
            clear hN1 hF1 hR hF hstep hdone hO hi hO1 hbd hbd2 hg hk2 ho hf hidx hsz
            go_wp2_with (first
              | (go_at_call 18; (with_reducible refine (HN1.out _).mono ?_); rintro r w2 ⟨rfl, hb⟩; replace h0 := h0.step (refA_good _ _ _) hb; clear hb)
              | (go_at_call 30; (with_reducible refine (PS.op HF1.out h0).mono ?_); rintro r w3 ⟨rfl, h1⟩; replace h0 := h1; clear h1)
              | (go_at_call 31; (with_reducible refine (PS.op HO1.out h0).mono ?_); rintro r w4 ⟨rfl, h1⟩; replace h0 := h1; clear h1)
              | (go_at_call 32; (with_reducible refine (HB.out _).mono ?_); rintro r w5 ⟨u, g, x, s, kk, rfl, hT, hb⟩; replace h0 := h0.step (refA_good _ _ _) hb; clear hb hT))
            go_roundw
            case rel => exact ⟨k + 1, by congr 1; omega, by omega, by rw [HR.out, show M + 1 - (k + 1) = M - k by omega]; congr 1; omega, h0.step (refA_good _ _ _) (balloc2 _ _)⟩
            case measure => simp [intOf]; omega
          | some D =>
            have hR := hdone D hg
            subst hR
            have hbd2 := fun W => hbd W (by omega) true (by rw [hg]; rfl)
            rw [hg] at hbd2
            obtain ⟨du, dg, dx, ds, dk⟩ := D
            generalize numS (now - k) = NS at *
            have HN1 := Lib.hid hN1
            have HF1 := Lib.hid hF1
            have HO1 := Lib.hid hO1
            have HB := Lib.hid hbd2
            clear hN1 hF1 hF hstep hdone hO hi hO1 hbd hbd2 hg hk2 ho hf hidx hsz
            go_wp2_with (first
              | (go_at_call 18; (with_reducible refine (HN1.out _).mono ?_); rintro r w2 ⟨rfl, hb⟩; replace h0 := h0.step (refA_good _ _ _) hb; clear hb)
              | (go_at_call 30; (with_reducible refine (PS.op HF1.out h0).mono ?_); rintro r w3 ⟨rfl, h1⟩; replace h0 := h1; clear h1)
              | (go_at_call 31; (with_reducible refine (PS.op HO1.out h0).mono ?_); rintro r w4 ⟨rfl, h1⟩; replace h0 := h1; clear h1)
              | (go_at_call 32; (with_reducible refine (HB.out _).mono ?_); rintro r w5 ⟨u, g, x, s, kk, rfl, hT, hb⟩; replace h0 := h0.step (refA_good _ _ _) hb; clear hb; have hT2 := hT trivial; simp only [Option.some.injEq, Bd.mk.injEq] at hT2; obtain ⟨rfl, rfl, rfl, rfl, rfl⟩ := hT2; have e0 := h0.b0.cell; have g0 := h0.b0.froz; have l0 := h0.b0.lt))
            refine bodyPost_ret (v := .tuple #[.agg #[.int .i64 du, .int .i64 dg, .int .i64 dx, .int .i64 ds, .int .i64 dk], .int .i64 0]) (by simp [results, Tryd.results13, go_sem, e0, l0]) rfl ⟨rfl, ?_⟩
            exact (PX.step hgd (PX.five hgd h0.ex _ _ _ _ _) (balloc2 _ _)).done
        · have h3 : opE ts (idx ts (epK (now - k))) tag = 301 := (opE_of _ _ _).resolve_left ho
          have hR := hstep (by unfold tkO; rw [if_neg (fun c => ho c.2)])
          rw [h3] at hO1
          have hbd2 := fun W => hbd W (by omega) _ rfl
          generalize opS ts (idx ts (epK (now - k))) tag = S at *
          generalize ((idx ts (epK (now - k)) : Nat) : Int) = K at *
          generalize (tkG S).isSome = B at *
          generalize numS (now - k) = NS at *
          have HN1 := Lib.hid hN1
          have HF1 := Lib.hid hF1
          have HO1 := Lib.hid hO1
          have HB := Lib.hid hbd2
          have HR := Lib.hid hR
          clear hN1 hF1 hR hF hstep hdone hO hi hO1 hbd hbd2 ho h3 hf hidx hsz
          go_wp2_with (first
            | (go_at_call 18; (with_reducible refine (HN1.out _).mono ?_); rintro r w2 ⟨rfl, hb⟩; replace h0 := h0.step (refA_good _ _ _) hb; clear hb)
            | (go_at_call 30; (with_reducible refine (PS.op HF1.out h0).mono ?_); rintro r w3 ⟨rfl, h1⟩; replace h0 := h1; clear h1)
            | (go_at_call 31; (with_reducible refine (PS.op HO1.out h0).mono ?_); rintro r w4 ⟨rfl, h1⟩; replace h0 := h1; clear h1)
            | (go_at_call 32; (with_reducible refine (HB.out _).mono ?_); rintro r w5 ⟨u, g, x, s, kk, rfl, hT, hb⟩; replace h0 := h0.step (refA_good _ _ _) hb; clear hb hT))
          go_roundw
          case rel => exact ⟨k + 1, by congr 1; omega, by omega, by rw [HR.out, show M + 1 - (k + 1) = M - k by omega]; congr 1; omega, h0.step (refA_good _ _ _) (balloc2 _ _)⟩
          case measure => simp [intOf]; omega
    · obtain rfl : k = M + 1 := by omega
      have hR : R = none := by rw [hF, Nat.sub_self]; rfl
      subst hR
      have e0 := h0.b0.cell
      have g0 := h0.b0.froz
      have l0 := h0.b0.lt
      by_cases hneg : now - ((M + 1 : Nat) : Int) < 0
      · clear hF hlt
        go_wp2
        refine bodyPost_ret (v := .tuple #[.agg #[.int .i64 0, .int .i64 0, .int .i64 0, .int .i64 0, .int .i64 0], .int .i64 1501]) (by simp [results, Tryd.results13, go_sem, e0]) rfl ⟨rfl, ?_⟩
        exact (PX.five hgd h0.ex _ _ _ _ _).done
      · have hpos : 0 ≤ now - ((M + 1 : Nat) : Int) := by omega
        have hfar : ¬ now - (now - ((M + 1 : Nat) : Int)) ≤ keep := by omega
        clear hF hlt hneg
        go_wp2
        refine bodyPost_ret (v := .tuple #[.agg #[.int .i64 0, .int .i64 0, .int .i64 0, .int .i64 0, .int .i64 0], .int .i64 1501]) (by simp [results, Tryd.results13, go_sem, e0]) rfl ⟨rfl, ?_⟩
        exact (PX.five hgd h0.ex _ _ _ _ _).done
set_option maxRecDepth 100000 in
set_option maxHeartbeats 8000000 in
theorem rtget_bad (p : Nat) (most : Int) (ts : List ByteArray) (now keep tag : Int) (hB : tgB now keep = false) :
    Does Tryd.prog (refA p most ts) 13 #[.pointer (some ⟨p, 0, none⟩), .int .i64 now, .int .i64 keep, .int .i64 tag] (.returned (.tuple #[Bd.zero.val, .int .i64 1500])) (refA p most ts) := by
  intro w F h
  have hgd := refA_good p most ts
  have h0 := PS.start (refA_good p most ts) h #[.int .i64 0, .int .i64 0, .int .i64 0, .int .i64 0, .int .i64 0] 34
  have HU := Lib.hid (fun w => rgnum now _ rfl w)
  have hcase : okNum now = false ∨ (okNum now = true ∧ keep < 0) ∨ (okNum now = true ∧ 0 ≤ keep ∧ 4 < keep) := by
    unfold tgB at hB
    cases hn : okNum now with
    | false => exact .inl rfl
    | true =>
      rw [hn] at hB
      by_cases h1 : 0 ≤ keep
      · refine .inr (.inr ⟨rfl, h1, ?_⟩)
        by_cases h2 : keep ≤ 4
        · simp [h1, h2] at hB
        · omega
      · exact .inr (.inl ⟨rfl, by omega⟩)
  clear hB h
  unfold Bd.zero Bd.val
  rcases hcase with hn | ⟨hn, h1⟩ | ⟨hn, h1, h2⟩
  all_goals
    rw [hn] at HU
    go_enter Tryd.func13, Tryd.ntmps13
    go_wp2_with (go_at_call 29; (with_reducible refine (HU.out _).mono ?_); rintro r w1 ⟨rfl, rfl⟩)
    refine bodyPost_ret (v := .tuple #[.agg #[.int .i64 0, .int .i64 0, .int .i64 0, .int .i64 0, .int .i64 0], .int .i64 1500]) (by simp [results, Tryd.results13, go_sem]) rfl ⟨rfl, ?_⟩
    exact h0.done
/-- GetTicket. -/
theorem drtget (p : Nat) (most : Int) (ts : List ByteArray) (now keep tag : Int) (hok : ∀ t ∈ ts, okT t = true) : Does Tryd.prog (refA p most ts) 13 #[.pointer (some ⟨p, 0, none⟩), .int .i64 now, .int .i64 keep, .int .i64 tag] (.returned (.tuple #[(tgX ts now keep tag).val, .int .i64 (tgE ts now keep tag)])) (refA p most ts) := by
  cases hB : tgB now keep with
  | true =>
    rw [show tgX ts now keep tag = (tgF ts now keep tag).getD .zero by unfold tgX; rw [if_pos hB], show tgE ts now keep tag = if (tgF ts now keep tag).isSome then 0 else 1501 by unfold tgE; rw [if_pos hB]]
    exact rtget_ok p most ts now keep tag hok hB
  | false =>
    rw [show tgX ts now keep tag = .zero by unfold tgX; rw [hB]; rfl, show tgE ts now keep tag = 1500 by unfold tgE; rw [hB]; rfl]
    exact rtget_bad p most ts now keep tag hB
end Go.Proofs.YtcakipojmkehgaaDoor
