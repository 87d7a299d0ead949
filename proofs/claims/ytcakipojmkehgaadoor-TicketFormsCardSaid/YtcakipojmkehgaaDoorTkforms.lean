/- The walk of TicketForms: bodies, epochs, numbers that are none; full books. Condition: the handle of the type error. -/
import Derived.Test.YtcakipojmkehgaaDoorTkaw
import Derived.Test.YtcakipojmkehgaaDoorTkz
import Derived.Test.YtcakipojmkehgaaDoorBfp
namespace Go.Proofs.YtcakipojmkehgaaDoor
open Go Go.RowKit Go.Maps

abbrev tff3 : ByteArray := ⟨#[65, 101, 112, 111, 99, 104, 1, 3]⟩
abbrev tffs : ByteArray := ⟨#[83, 0, 1, 7, 4, 63, 255, 255, 255, 4, 63, 255, 255, 255, 4, 63, 255, 255, 255, 4, 63, 255, 255, 255]⟩
/-- What is refused there. -/
def TF (e u g x s k : Int) : Prop := (u < 0 ∨ 8 ≤ u ∨ g < 0 ∨ 1073741823 < g ∨ x < 0 ∨ 1073741823 < x ∨ s < 0 ∨ 1073741823 < s ∨ k < 0 ∨ 1073741823 < k) ∨ e < 0 ∨ (3 < e ∧ e ≤ 2000) ∨ (e = 3 ∧ g ≠ 1073741823)
theorem tff_put {e u g x s k : Int} (h : TF e u g x s k) : tpX 2 [tff3, tffs] e ⟨u, g, x, s, k⟩ = 0 ∧ tpE 2 [tff3, tffs] e ⟨u, g, x, s, k⟩ = 1500 ∧ tpT 2 [tff3, tffs] e ⟨u, g, x, s, k⟩ = [tff3, tffs] := by
  have h3 : tff3 = epK 3 := by kernel_rfl
  have hs : tffs = tmK cS (some 0) (Bd.enc ⟨7, 1073741823, 1073741823, 1073741823, 1073741823⟩) := by kernel_rfl
  have hm7 : (Bd.mk 7 1073741823 1073741823 1073741823 1073741823).may = true := by kernel_rfl
  cases hm : (Bd.mk u g x s k).may with
  | false => exact tp_bad hm
  | true =>
    obtain ⟨m1, m2, m3, m4, m5, m6⟩ := (Bd.may_iff _).1 hm
    rw [okNum_iff] at m1 m2 m3 m4 m5
    simp only at m1 m2 m3 m4 m5 m6
    have hnotin : ∀ ts : List ByteArray, tff3 ∈ ts ∨ True := fun _ => .inr trivial
    clear hnotin
    by_cases he : e < 0
    · have hk : okNum e = false := by rw [Bool.eq_false_iff, Ne, okNum_iff]; omega
      obtain ⟨g1, g2, g3⟩ := rg_bad (most := 2) (ts := [tff3, tffs]) hk
      obtain ⟨q1, q2, q3⟩ := tp_ring (ts := [tff3, tffs]) (most := 2) (e := e) hm g1
      exact ⟨q1, q2, q3.trans g3⟩
    · by_cases he3 : e = 3
      · have hg : g ≠ 1073741823 := by unfold TF at h; omega
        subst he3
        obtain ⟨g1, g2, g3⟩ := rg_old (most := 2) (ts := [tff3, tffs]) (k := 3) (by decide) (by decide) (by rw [h3]; simp)
        have g2' : rgX 2 [tff3, tffs] 3 = 0 := by rw [g2, ← h3]; simp [idx]
        have hS : tpS 2 [tff3, tffs] 3 ⟨u, g, x, s, k⟩ = tmK cS (some 0) (Bd.enc ⟨u, g, x, s, k⟩) := by unfold tpS; rw [g2']
        have hok : okT (tmK cS (some 0) (Bd.enc ⟨u, g, x, s, k⟩)) = true := tm_ok rfl _ (by have := Bd.enc_size ⟨u, g, x, s, k⟩; omega)
        have hn : tmK cS (some 0) (Bd.enc ⟨u, g, x, s, k⟩) ∉ [tff3, tffs] := by
          intro c
          rcases List.mem_cons.1 c with c | c
          · rw [h3] at c; exact epK_kind 3 _ _ c.symm
          · rcases List.mem_cons.1 c with c | c
            · rw [hs] at c
              have := Bd.enc_inj hm hm7 (tm_inj1 (by decide) (by decide) (by decide) (by decide) c).2
              simp only [Bd.mk.injEq] at this
              exact hg this.2.1
            · cases c
        obtain ⟨x1, x2, x3⟩ := ck_full (most := 2) (ts := [tff3, tffs]) hok hn (by decide)
        obtain ⟨q1, q2, q3⟩ := tp_seal (ts := [tff3, tffs]) (most := 2) (e := 3) hm g1
        rw [hS, g2', g3] at q1 q2 q3
        rw [show okK (some 0) = true from rfl] at q1 q2 q3
        rw [x1] at q1; rw [x2] at q2; rw [x3] at q3
        exact ⟨q1, q2, q3⟩
      · have he4 : 3 < e ∧ e ≤ 2000 := by unfold TF at h; omega
        have hn : epK e ∉ [tff3, tffs] := by
          intro c
          rcases List.mem_cons.1 c with c | c
          · rw [h3] at c; exact he3 (epK_inj (by omega) (by omega) (by decide) (by decide) c)
          · rcases List.mem_cons.1 c with c | c
            · rw [hs] at c; exact epK_kind e _ _ c
            · cases c
        obtain ⟨x1, x2, x3⟩ := ck_full (most := 2) (ts := [tff3, tffs]) (epK_ok e) hn (by decide)
        obtain ⟨g1, g2, g3⟩ := rg_no (most := 2) (ts := [tff3, tffs]) (k := e) ((okNum_iff e).2 ⟨by omega, by omega⟩) (by rw [x2]; decide)
        obtain ⟨q1, q2, q3⟩ := tp_ring (ts := [tff3, tffs]) (most := 2) (e := e) hm g1
        exact ⟨q1, q2, q3.trans (g3.trans x3)⟩
theorem tff1 (p : Nat) : Does Tryd.prog (bookA p 2 []) 10 #[.pointer (some ⟨p, 0, none⟩), .int .i64 3, .agg #[.int .i64 7, .int .i64 1073741823, .int .i64 1073741823, .int .i64 1073741823, .int .i64 1073741823]] (.returned (.tuple #[.int .i64 1, .int .i64 0])) (bookA p 2 [tff3, tffs]) :=
  (dtput p 2 [] 3 ⟨7, 1073741823, 1073741823, 1073741823, 1073741823⟩ (by decide) (by decide)).to (by kernel_rfl) (congrArg (bookA p 2) (by kernel_rfl))
theorem tff2 (p : Nat) (e u g x s k : Int) (h : TF e u g x s k) (s0 : -5000 ≤ e) (s1 : e ≤ 5000) : Does Tryd.prog (bookA p 2 [tff3, tffs]) 10 #[.pointer (some ⟨p, 0, none⟩), .int .i64 e, .agg #[.int .i64 u, .int .i64 g, .int .i64 x, .int .i64 s, .int .i64 k]] (.returned (.tuple #[.int .i64 0, .int .i64 1500])) (bookA p 2 [tff3, tffs]) := by
  obtain ⟨q1, q2, q3⟩ := tff_put h
  exact (dtput p 2 [tff3, tffs] e ⟨u, g, x, s, k⟩ (by omega) (by omega)).to (by rw [q1, q2]) (congrArg (bookA p 2) q3)
theorem tff4 (p : Nat) : DoesG Tryd.prog (bookA p 2 [tff3, tffs]) 12 #[.pointer (some ⟨p, 0, none⟩), .int .i64 3, .int .i64 0, .int .i64 1] (.returned (.tuple #[.agg #[.int .i64 7, .int .i64 1073741823, .int .i64 1073741823, .int .i64 1073741823, .int .i64 1073741823], .int .i64 0])) (bookA p 2 [tff3, tffs]) :=
  (dtget p 2 [tff3, tffs] 3 0 1).to (by kernel_rfl) rfl
theorem tff5 (p : Nat) (ts : List ByteArray) (now keep tag : Int) (h : now < 0 ∨ keep < 0 ∨ 4 < keep) : DoesG Tryd.prog (bookA p 2 ts) 12 #[.pointer (some ⟨p, 0, none⟩), .int .i64 now, .int .i64 keep, .int .i64 tag] (.returned (.tuple #[.agg #[.int .i64 0, .int .i64 0, .int .i64 0, .int .i64 0, .int .i64 0], .int .i64 1500])) (bookA p 2 ts) := by
  have hB : tgB now keep = false := by rw [Bool.eq_false_iff, Ne, tgB_iff]; omega
  exact (dtget p 2 ts now keep tag).to (by unfold tgX tgE; rw [hB]; rfl) rfl
theorem tff6 (now keep tag : Int) (w : World) (hg : Gd w) : Calls Tryd.prog 12 #[.pointer none, .int .i64 now, .int .i64 keep, .int .i64 tag] w fun r w' => r = .returned (.tuple #[.agg #[.int .i64 0, .int .i64 0, .int .i64 0, .int .i64 0, .int .i64 0], .int .i64 1]) ∧ Below w.heap.size w w' := tkget_nil now keep tag w hg
set_option maxRecDepth 100000 in
set_option maxHeartbeats 16000000 in
theorem tkforms_walk' (n x : Int) (j : Nat) (m : Int) (w : World) (hg : Gd w) (hj : (IntKind.u64.wrap n).tmod 9 = (j : Int)) (hjl : j < 9) (hm : bits .and .i64 x 1023 = m) (m0 : 0 ≤ m) (m1 : m ≤ 1023) :
    Calls Tryd.prog 5 #[.int .i64 n, .int .i64 x] w fun e w' => e = .returned (.bool true) ∧ Below w.heap.size w w' := by
  have HG := Lib.hid hg
  clear hg
  have P1 := tff1
  have P2 := tff2
  have P4 := tff4
  have P5 := fun p => tff5 p [tff3, tffs]
  have P7 := fun p => dlen p 2 [tff3, tffs]
  rw [show ((([tff3, tffs] : List ByteArray).length : Nat) : Int) = 2 from rfl] at P7
  generalize [tff3, tffs] = T2 at *
  have H7 := Lib.hid P7
  have H1 := Lib.hid P1
  have H2 := Lib.hid P2
  have H4 := Lib.hid P4
  have H5 := Lib.hid P5
  clear P1 P2 P4 P5 P7
  rcases (show j = 0 ∨ j = 1 ∨ j = 2 ∨ j = 3 ∨ j = 4 ∨ j = 5 ∨ j = 6 ∨ j = 7 ∨ j = 8 by omega) with h | h | h | h | h | h | h | h | h
  all_goals subst h
  all_goals clear hjl
  all_goals
    go_enter Tryd.func5, Tryd.ntmps5
    go_wp2_with (first
      | (go_at_call 9; (with_reducible refine (awake15 _ HG.out).mono ?_); rintro e w1 ⟨rfl, hb1⟩)
      | (go_at_call 8; (with_reducible refine (twin_none15 2 _ (by omega) (by omega)).mono ?_); rintro e w2 ⟨p, q, rfl, hb⟩; have hS := (LA.start ((At.start hb).under hb1)).hold (rb_good _ _ _ _ _ _) #[.int .i64 7, .int .i64 1073741823, .int .i64 1073741823, .int .i64 1073741823, .int .i64 1073741823] 34; clear hb hb1)
      | (go_at_call 10; first
        | ((with_reducible refine (LA.op1 (H1.out _) (refA_good _ _ _) emp_good hS).mono ?_); rintro e w3 ⟨rfl, hS1⟩; replace hS := hS1; clear hS1; have et := hS.b0.cell; have lt := hS.b0.lt)
        | ((with_reducible refine (LA.op1 (H2.out _ _ _ _ _ _ _ (by unfold TF; omega) (by omega) (by omega)) (refA_good _ _ _) emp_good (hS.step (rb_good _ _ _ _ _ _) (balloc2 _ _))).mono ?_); rintro e w4 ⟨rfl, hS1⟩; replace hS := hS1; clear hS1))
      | (go_at_call 12; first
        | ((with_reducible refine (tff6 _ _ _ _ (hS.gd HG.out)).mono ?_); rintro e w5 ⟨rfl, hb5⟩; replace hS := (hS.step (rb_good _ _ _ _ _ _) hb5).step (rb_good _ _ _ _ _ _) (balloc2 _ (.cells #[.int .i64 0, .int .i64 0, .int .i64 0, .int .i64 0, .int .i64 0] 34)); clear hb5)
        | ((with_reducible refine (LA.op1G (H4.out _) (refA_good _ _ _) emp_good HG.out hS).mono ?_); rintro e w6 ⟨rfl, hS1⟩; have et := hS1.b0.cell; have lt := hS1.b0.lt; replace hS := hS1.step (rb_good _ _ _ _ _ _) (balloc2 _ (.cells #[.int .i64 7, .int .i64 1073741823, .int .i64 1073741823, .int .i64 1073741823, .int .i64 1073741823] 34)); clear hS1)
        | ((with_reducible refine (LA.op1G (H5.out _ _ _ _ (by omega)) (refA_good _ _ _) emp_good HG.out hS).mono ?_); rintro e w7 ⟨rfl, hS1⟩; replace hS := hS1.step (rb_good _ _ _ _ _ _) (balloc2 _ (.cells #[.int .i64 0, .int .i64 0, .int .i64 0, .int .i64 0, .int .i64 0] 34)); clear hS1))
      | (go_at_call 16; (with_reducible refine (LA.op1 (H7.out _) (refA_good _ _ _) emp_good hS).mono ?_); rintro e w8 ⟨rfl, hS1⟩; replace hS := hS1; clear hS1)
      | (go_at_call 14; (with_reducible refine (lnum _ _).mono ?_); rintro e w9 ⟨rfl, rfl⟩))
  all_goals
    go_ret
    exact ⟨rfl, hS.bel⟩
theorem tkforms_walk (n x : Int) (w : World) (hg : Gd w) :
    Calls Tryd.prog 5 #[.int .i64 n, .int .i64 x] w fun e w' => e = .returned (.bool true) ∧ Below w.heap.size w w' := by
  have hu0 : 0 ≤ IntKind.u64.wrap n := by rw [IntKind.wrap_u64]; omega
  have hm := i64_mask x 10 (by omega)
  rw [show ((2 ^ 10 - 1 : Nat) : Int) = 1023 from by decide, show ((2 ^ 10 : Nat) : Int) = 1024 from by decide] at hm
  obtain ⟨j, hj, h9⟩ : ∃ j : Nat, (IntKind.u64.wrap n).tmod 9 = (j : Int) ∧ j < 9 := ⟨((IntKind.u64.wrap n) % 9).toNat, by rw [Int.tmod_eq_emod_of_nonneg hu0]; omega, by omega⟩
  exact tkforms_walk' n x j _ w hg hj h9 hm (by omega) (by omega)
end Go.Proofs.YtcakipojmkehgaaDoor
