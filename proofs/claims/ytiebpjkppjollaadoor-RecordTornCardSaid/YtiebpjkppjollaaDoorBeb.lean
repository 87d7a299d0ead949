/- Put together: Ep3, Ep4, Ep5, Ep6. Conditions: each theorem's own. -/
import Derived.Test.YtiebpjkppjollaaDoorBea
import Derived.Test.YtiebpjkppjollaaDoorBrk
import Derived.Test.YtiebpjkppjollaaDoorBpa
import Derived.Deep.RegionWith
namespace Go.Proofs.YtiebpjkppjollaaDoor
open Go Go.RowKit

theorem epok_of {k : Int} (U : Nat) (m0 m1 m2 m3 m4 m5 m6 : Int) (B0 B1 B2 B3 B4 B5 B6 : Bool) (hU : epU k = U) (hI : (epI k) = true) (hM : (epM k) = rowL [m0, m1, m2, m3, m4, m5, m6]) (e0 : pT U ((0 : Nat) : Int) = B0) (e1 : pT U ((1 : Nat) : Int) = B1) (e2 : pT U ((2 : Nat) : Int) = B2) (e3 : pT U ((3 : Nat) : Int) = B3) (e4 : pT U ((4 : Nat) : Int) = B4) (e5 : pT U ((5 : Nat) : Int) = B5) (e6 : pT U ((6 : Nat) : Int) = B6) (u s a x y z t : Int) :
    epok k u s a x y z t = true ↔ ((0 ≤ s ∧ s ≤ m0) ∧ (s = 0 ∨ B0 = true)) ∧ ((0 ≤ u ∧ u ≤ m1) ∧ (u = 0 ∨ B1 = true)) ∧ ((0 ≤ a ∧ a ≤ m2) ∧ (a = 0 ∨ B2 = true)) ∧ ((0 ≤ x ∧ x ≤ m3) ∧ (x = 0 ∨ B3 = true)) ∧ ((0 ≤ y ∧ y ≤ m4) ∧ (y = 0 ∨ B4 = true)) ∧ ((0 ≤ z ∧ z ≤ m5) ∧ (z = 0 ∨ B5 = true)) ∧ ((0 ≤ t ∧ t ≤ m6) ∧ (t = 0 ∨ B6 = true)) := by
  unfold epok okRow
  rw [hI, hU, hM, show List.range 7 = [0, 1, 2, 3, 4, 5, 6] from rfl]
  simp only [List.all_cons, List.all_nil, Bool.and_eq_true, Bool.or_eq_true, decide_eq_true_eq, Bool.and_true, true_and, e0, e1, e2, e3, e4, e5, e6]
  simp only [rowL, List.getD_cons_zero, List.getD_cons_succ]
theorem epmay_ok (k u s a x y z t : Int) : epok k u s a x y z t = (Ev.mk k u s a x y z t).may := by
  rw [Bool.eq_iff_iff, Ev.may_iff, Ev.rng_iff]
  simp only [okNum_iff]
  by_cases h0 : k = 0
  · subst h0
    rw [epok_of 64 1073741823 7 15 1073741823 1073741823 1048576 1048575 false false false false false false true rfl rfl rfl (by kernel_rfl) (by kernel_rfl) (by kernel_rfl) (by kernel_rfl) (by kernel_rfl) (by kernel_rfl) (by kernel_rfl)]
    simp [Ev.part, Ev.lim]
    grind
  by_cases h1 : k = 1
  · subst h1
    rw [epok_of 58 1073741823 7 15 1073741823 1073741823 1048576 1048575 false true false true true true false rfl rfl rfl (by kernel_rfl) (by kernel_rfl) (by kernel_rfl) (by kernel_rfl) (by kernel_rfl) (by kernel_rfl) (by kernel_rfl)]
    simp [Ev.part, Ev.lim]
    grind
  by_cases h2 : k = 2
  · subst h2
    rw [epok_of 66 1073741823 7 15 1073741823 1073741823 1048576 1048575 false true false false false false true rfl rfl rfl (by kernel_rfl) (by kernel_rfl) (by kernel_rfl) (by kernel_rfl) (by kernel_rfl) (by kernel_rfl) (by kernel_rfl)]
    simp [Ev.part, Ev.lim]
    grind
  by_cases h3 : k = 3
  · subst h3
    rw [epok_of 10 1073741823 7 15 1073741823 1073741823 1048576 1048575 false true false true false false false rfl rfl rfl (by kernel_rfl) (by kernel_rfl) (by kernel_rfl) (by kernel_rfl) (by kernel_rfl) (by kernel_rfl) (by kernel_rfl)]
    simp [Ev.part, Ev.lim]
    grind
  by_cases h4 : k = 4
  · subst h4
    rw [epok_of 2 1073741823 7 15 1073741823 1073741823 1048576 1048575 false true false false false false false rfl rfl rfl (by kernel_rfl) (by kernel_rfl) (by kernel_rfl) (by kernel_rfl) (by kernel_rfl) (by kernel_rfl) (by kernel_rfl)]
    simp [Ev.part, Ev.lim]
    grind
  by_cases h5 : k = 5
  · subst h5
    rw [epok_of 71 1073741823 7 15 1073741823 1073741823 1048576 1048575 true true true false false false true rfl rfl rfl (by kernel_rfl) (by kernel_rfl) (by kernel_rfl) (by kernel_rfl) (by kernel_rfl) (by kernel_rfl) (by kernel_rfl)]
    simp [Ev.part, Ev.lim]
    grind
  by_cases h6 : k = 6
  · subst h6
    rw [epok_of 89 1073741823 7 15 1073741823 4 1048576 1048575 true false false true true false true rfl rfl rfl (by kernel_rfl) (by kernel_rfl) (by kernel_rfl) (by kernel_rfl) (by kernel_rfl) (by kernel_rfl) (by kernel_rfl)]
    simp [Ev.part, Ev.lim]
    grind
  by_cases h7 : k = 7
  · subst h7
    rw [epok_of 2 1073741823 7 15 1073741823 1073741823 1048576 1048575 false true false false false false false rfl rfl rfl (by kernel_rfl) (by kernel_rfl) (by kernel_rfl) (by kernel_rfl) (by kernel_rfl) (by kernel_rfl) (by kernel_rfl)]
    simp [Ev.part, Ev.lim]
    grind
  by_cases h8 : k = 8
  · subst h8
    rw [epok_of 0 1073741823 7 15 1073741823 1073741823 1048576 1048575 false false false false false false false rfl rfl rfl (by kernel_rfl) (by kernel_rfl) (by kernel_rfl) (by kernel_rfl) (by kernel_rfl) (by kernel_rfl) (by kernel_rfl)]
    simp [Ev.part, Ev.lim]
    grind
  by_cases h9 : k = 9
  · subst h9
    rw [epok_of 1 1073741823 7 15 1073741823 1073741823 1048576 1048575 true false false false false false false rfl rfl rfl (by kernel_rfl) (by kernel_rfl) (by kernel_rfl) (by kernel_rfl) (by kernel_rfl) (by kernel_rfl) (by kernel_rfl)]
    simp [Ev.part, Ev.lim]
    grind
  have e2 : epok k u s a x y z t = false := by
    unfold epok
    rw [show epI k = false by unfold epI; simp [h0, h1, h2, h3, h4, h5, h6, h7, h8, h9]]
    rfl
  rw [e2]
  simp [Ev.part, h0, h1, h2, h3, h4, h5, h6, h7, h8, h9]
theorem epmay (p : Ev) (w : World) : Calls Tryd.prog 69 #[p.val] w fun e w' => e = .returned (.bool p.may) ∧ Below w.heap.size w w' := by
  obtain ⟨k, u, s, a, x, y, z, t⟩ := p
  rw [← epmay_ok]
  exact epmayR k u s a x y z t w
end Go.Proofs.YtiebpjkppjollaaDoor

namespace Go.Proofs.YtiebpjkppjollaaDoor
open Go Go.RowKit

def epout (k : Int) (U : Nat) (r : Nat → Int) : ByteArray := accP k U r 7
theorem epout_of {k : Int} (U : Nat) (r : Nat → Int) (l : List Bool) (h : ∀ j, j < 7 → pT U (j : Nat) = l.getD j false) :
    epout k U r = (let a1 := if l.getD 0 false then numS k ++ numS (r 0) else numS k
      let a2 := if l.getD 1 false then a1 ++ numS (r 1) else a1
      let a3 := if l.getD 2 false then a2 ++ numS (r 2) else a2
      let a4 := if l.getD 3 false then a3 ++ numS (r 3) else a3
      let a5 := if l.getD 4 false then a4 ++ numS (r 4) else a4
      let a6 := if l.getD 5 false then a5 ++ numS (r 5) else a5
      let a7 := if l.getD 6 false then a6 ++ numS (r 6) else a6
      a7) := by
  unfold epout
  simp only [accP, h 0 (by omega), h 1 (by omega), h 2 (by omega), h 3 (by omega), h 4 (by omega), h 5 (by omega), h 6 (by omega)]
theorem epout_ok {k u s a x y z t : Int} (hm : (Ev.mk k u s a x y z t).may = true) : epout k (epU k) (rowL [s, u, a, x, y, z, t]) = (Ev.mk k u s a x y z t).putS := by
  have hp : (Ev.mk k u s a x y z t).putS = encL (Ev.mk k u s a x y z t).fl := by unfold Ev.putS; rw [hm]; rfl
  rw [hp]
  obtain ⟨hr, hk, -⟩ := (Ev.may_iff _).1 hm
  have nl : ∀ x : ByteArray, x ++ (⟨#[]⟩ : ByteArray) = x := ba_nil
  rcases Ev.kinds hk with e | e | e | e | e | e | e | e | e | e <;> simp only at e <;> subst e
  · rw [show epU 0 = 64 from rfl, epout_of 64 _ [false, false, false, false, false, false, true] (fun j hj => by match j, hj with | 0, _ | 1, _ | 2, _ | 3, _ | 4, _ | 5, _ | 6, _ => show (_ : Bool) = _; kernel_rfl)]
    simp [Ev.fl, encL, Fld.enc, rowL, nl]
  · rw [show epU 1 = 58 from rfl, epout_of 58 _ [false, true, false, true, true, true, false] (fun j hj => by match j, hj with | 0, _ | 1, _ | 2, _ | 3, _ | 4, _ | 5, _ | 6, _ => show (_ : Bool) = _; kernel_rfl)]
    simp [Ev.fl, encL, Fld.enc, rowL, nl, ba_assoc]
  · rw [show epU 2 = 66 from rfl, epout_of 66 _ [false, true, false, false, false, false, true] (fun j hj => by match j, hj with | 0, _ | 1, _ | 2, _ | 3, _ | 4, _ | 5, _ | 6, _ => show (_ : Bool) = _; kernel_rfl)]
    simp [Ev.fl, encL, Fld.enc, rowL, nl, ba_assoc]
  · rw [show epU 3 = 10 from rfl, epout_of 10 _ [false, true, false, true, false, false, false] (fun j hj => by match j, hj with | 0, _ | 1, _ | 2, _ | 3, _ | 4, _ | 5, _ | 6, _ => show (_ : Bool) = _; kernel_rfl)]
    simp [Ev.fl, encL, Fld.enc, rowL, nl, ba_assoc]
  · rw [show epU 4 = 2 from rfl, epout_of 2 _ [false, true, false, false, false, false, false] (fun j hj => by match j, hj with | 0, _ | 1, _ | 2, _ | 3, _ | 4, _ | 5, _ | 6, _ => show (_ : Bool) = _; kernel_rfl)]
    simp [Ev.fl, encL, Fld.enc, rowL, nl]
  · rw [show epU 5 = 71 from rfl, epout_of 71 _ [true, true, true, false, false, false, true] (fun j hj => by match j, hj with | 0, _ | 1, _ | 2, _ | 3, _ | 4, _ | 5, _ | 6, _ => show (_ : Bool) = _; kernel_rfl)]
    simp [Ev.fl, encL, Fld.enc, rowL, nl, ba_assoc]
  · rw [show epU 6 = 89 from rfl, epout_of 89 _ [true, false, false, true, true, false, true] (fun j hj => by match j, hj with | 0, _ | 1, _ | 2, _ | 3, _ | 4, _ | 5, _ | 6, _ => show (_ : Bool) = _; kernel_rfl)]
    simp [Ev.fl, encL, Fld.enc, rowL, nl, ba_assoc]
  · rw [show epU 7 = 2 from rfl, epout_of 2 _ [false, true, false, false, false, false, false] (fun j hj => by match j, hj with | 0, _ | 1, _ | 2, _ | 3, _ | 4, _ | 5, _ | 6, _ => show (_ : Bool) = _; kernel_rfl)]
    simp [Ev.fl, encL, Fld.enc, rowL, nl]
  · rw [show epU 8 = 0 from rfl, epout_of 0 _ [false, false, false, false, false, false, false] (fun j hj => by match j, hj with | 0, _ | 1, _ | 2, _ | 3, _ | 4, _ | 5, _ | 6, _ => show (_ : Bool) = _; kernel_rfl)]
    simp [Ev.fl, encL, Fld.enc, nl]
  · rw [show epU 9 = 1 from rfl, epout_of 1 _ [true, false, false, false, false, false, false] (fun j hj => by match j, hj with | 0, _ | 1, _ | 2, _ | 3, _ | 4, _ | 5, _ | 6, _ => show (_ : Bool) = _; kernel_rfl)]
    simp [Ev.fl, encL, Fld.enc, rowL, nl]

theorem epput_no (p : Ev) (w : World) (hm : p.may = false) : Calls Tryd.prog 54 #[p.val] w fun e w' => e = .returned (.tuple #[.string ⟨#[]⟩, .int .i64 700]) ∧ Below w.heap.size w w' := by
  have HM := fun w => epmay p w
  rw [hm] at HM
  obtain ⟨k, u, s, a, x, y, z, t⟩ := p
  have HM := Lib.hid HM
  unfold Ev.val at HM
  unfold Ev.val
  clear hm
  go_enter Tryd.func54, Tryd.ntmps54
  go_wp2_with (go_at_call 69; (with_reducible refine (HM.out _).mono ?_); rintro e w1 ⟨rfl, hb⟩; have hB := ((Below.refl w.heap.size w).alloc (Nat.le_refl _) (.cells #[.int .i64 k, .int .i64 u, .int .i64 s, .int .i64 a, .int .i64 x, .int .i64 y, .int .i64 z, .int .i64 t] 32)).trans (hb.mono (by simp)))
  go_ret2
  exact ⟨rfl, hB⟩
end Go.Proofs.YtiebpjkppjollaaDoor

namespace Go.Proofs.YtiebpjkppjollaaDoor
open Go Go.RowKit

set_option maxRecDepth 100000 in
set_option maxHeartbeats 4000000 in
theorem epput_yes (k u s a x y z t : Int) (w : World) (hm : (Ev.mk k u s a x y z t).may = true) (hk0 : 0 ≤ k) (hk1 : k ≤ 9)
    (hr : ∀ j, j < 7 → -9223372036854775808 ≤ (rowL [s, u, a, x, y, z, t]) j ∧ (rowL [s, u, a, x, y, z, t]) j ≤ 9223372036854775807) :
    Calls Tryd.prog 54 #[.agg #[.int .i64 k, .int .i64 u, .int .i64 s, .int .i64 a, .int .i64 x, .int .i64 y, .int .i64 z, .int .i64 t]] w fun e w' => e = .returned (.tuple #[.string (epout k (epU k) (rowL [s, u, a, x, y, z, t])), .int .i64 0]) ∧ Below w.heap.size w w' := by
  have HM := fun w => epmay (Ev.mk k u s a x y z t) w
  rw [hm] at HM
  unfold Ev.val at HM
  have HM := Lib.hid HM
  clear hm
  have HN := Lib.hid (fun w => epnamed k w)
  have HR := Lib.hid (fun w => eprow k u s a x y z t w)
  have HA1 := Lib.hid (fun j hj => arrN_get 7 (rowL [s, u, a, x, y, z, t]) j hj)
  have HP := Lib.hid (fun b w hb hc => pPut (epU k) 7 k (rowL [s, u, a, x, y, z, t]) b w (by omega) (by omega) (by omega) hb hr hc)
  clear hr hk0 hk1
  have HO : Hid (epout k (epU k) (rowL [s, u, a, x, y, z, t]) = accP k (epU k) (rowL [s, u, a, x, y, z, t]) 7) := Lib.hid rfl
  have hz := accP_size k (epU k) (rowL [s, u, a, x, y, z, t]) 7
  generalize epout k (epU k) (rowL [s, u, a, x, y, z, t]) = O at *
  generalize accP k (epU k) (rowL [s, u, a, x, y, z, t]) 7 = ac at *
  generalize (rowL [s, u, a, x, y, z, t]) = r at *
  generalize epI k = I at *
  generalize epU k = U at *
  go_enter Tryd.func54, Tryd.ntmps54
  go_wp2_with (first
    | (go_at_call 69; (with_reducible refine (HM.out _).mono ?_); rintro e w1 ⟨rfl, hb⟩; have kp := (Blk.new _ _ _).step hb; have e1 := kp.cell; have g1 := kp.froz; have l1 := kp.lt; have hB := ((Below.refl w.heap.size w).alloc (Nat.le_refl _) (.cells #[.int .i64 k, .int .i64 u, .int .i64 s, .int .i64 a, .int .i64 x, .int .i64 y, .int .i64 z, .int .i64 t] 32)).trans (hb.mono (by simp)); clear hb)
    | (go_at_call 70; (with_reducible refine (HN.out _).mono ?_); rintro e w1 ⟨rfl, rfl⟩))
  replace kp := kp.drew
  have e1 := kp.cell
  replace hB : Below w.heap.size w _ := hB.trans (⟨rfl, rfl, rfl, Nat.le_refl _, fun _ _ => rfl⟩ : Below w.heap.size w1 w1.drew)
  first
    | (go_region_with (first
        | (go_at_call 72; (with_reducible refine (HR.out _).mono ?_); rintro e w2 ⟨x1, rfl, hb, -, k1⟩; replace kp := kp.step hb; have e1 := kp.cell; have g1 := kp.froz; have l1 := kp.lt; replace hB := hB.trans (hb.mono hB.size); clear hb)
        | (go_at_call 71; (with_reducible refine (HP.out _ _ k1.lt (fun j hj => (k1.cell j).trans (HA1.out j hj))).mono ?_); rintro e w3 ⟨rfl, hb⟩; replace kp := kp.step hb; have e1 := kp.cell; have g1 := kp.froz; have l1 := kp.lt; replace hB := hB.trans (hb.mono hB.size); clear hb)))
    | fail
  all_goals
    go_wp2
    go_ret2
    exact ⟨ret_s2 HO.out.symm, hB⟩
theorem epkind_bd {p : Ev} (h : p.may = true) : 0 ≤ p.kind ∧ p.kind ≤ 9 := by
  have := Ev.kinds ((Ev.may_iff p).1 h).2.1
  omega
theorem epput (p : Ev) (w : World) : Calls Tryd.prog 54 #[p.val] w fun e w' => e = .returned (.tuple #[.string p.putS, .int .i64 p.putE]) ∧ Below w.heap.size w w' := by
  cases hm : p.may with
  | false =>
    rw [show p.putS = ⟨#[]⟩ by unfold Ev.putS; rw [hm]; rfl, show p.putE = 700 by unfold Ev.putE; rw [hm]; rfl]
    exact epput_no p w hm
  | true =>
    have hb := epkind_bd hm
    have hr := (Ev.rng_iff p).1 ((Ev.may_iff p).1 hm).1
    simp only [okNum_iff] at hr
    rw [show p.putE = 0 by unfold Ev.putE; rw [hm]; rfl]
    obtain ⟨k, u, s, a, x, y, z, t⟩ := p
    simp only at hr
    rw [← epout_ok hm]
    exact epput_yes k u s a x y z t w hm hb.1 hb.2 (fun j hj => by
      match j, hj with
      | 0, _ | 1, _ | 2, _ | 3, _ | 4, _ | 5, _ | 6, _ => simp only [rowL, List.getD_cons_zero, List.getD_cons_succ]; omega)
end Go.Proofs.YtiebpjkppjollaaDoor

namespace Go.Proofs.YtiebpjkppjollaaDoor
open Go Go.RowKit

def epjoinP (k : Int) (r : Nat → Int) : Ev := Ev.mk k (r 1) (r 0) (r 2) (r 3) (r 4) (r 5) (r 6)
def epend (k : Int) : Option ((Nat → Int) × Int) → Option (Ev × Int)
  | none => none
  | some (r, a) => some (epjoinP k r, a)
def eprd (s : ByteArray) : Option (Ev × Int) := if getE s 0 = 0 then epend (getX s 0) (stP s (epU (getX s 0)) (getTo s 0) 7) else none
theorem epend_0 (s : ByteArray) (a : Int) : epend 0 (stP s 64 a 7) = (rdL s a [false]).map fun x => (Ev.mk' (.n 0 :: x.1), x.2) := by
  have p0 : pT 64 ((0 : Nat) : Int) = false := by kernel_rfl
  have p1 : pT 64 ((1 : Nat) : Int) = false := by kernel_rfl
  have p2 : pT 64 ((2 : Nat) : Int) = false := by kernel_rfl
  have p3 : pT 64 ((3 : Nat) : Int) = false := by kernel_rfl
  have p4 : pT 64 ((4 : Nat) : Int) = false := by kernel_rfl
  have p5 : pT 64 ((5 : Nat) : Int) = false := by kernel_rfl
  have p6 : pT 64 ((6 : Nat) : Int) = true := by kernel_rfl
  simp only [stP, p0, p1, p2, p3, p4, p5, p6, rdL, if_true, Bool.false_eq_true, if_false]
  by_cases h0 : getE s a = 0
  case neg => simp [h0, epend]
  simp [epend, epjoinP, updR, Ev.mk', h0]
theorem epend_1 (s : ByteArray) (a : Int) : epend 1 (stP s 58 a 7) = (rdL s a [false, false, false, false]).map fun x => (Ev.mk' (.n 1 :: x.1), x.2) := by
  have p0 : pT 58 ((0 : Nat) : Int) = false := by kernel_rfl
  have p1 : pT 58 ((1 : Nat) : Int) = true := by kernel_rfl
  have p2 : pT 58 ((2 : Nat) : Int) = false := by kernel_rfl
  have p3 : pT 58 ((3 : Nat) : Int) = true := by kernel_rfl
  have p4 : pT 58 ((4 : Nat) : Int) = true := by kernel_rfl
  have p5 : pT 58 ((5 : Nat) : Int) = true := by kernel_rfl
  have p6 : pT 58 ((6 : Nat) : Int) = false := by kernel_rfl
  simp only [stP, p0, p1, p2, p3, p4, p5, p6, rdL, if_true, Bool.false_eq_true, if_false]
  by_cases h0 : getE s a = 0
  case neg => simp [h0, epend]
  by_cases h1 : getE s (getTo s a) = 0
  case neg => simp [h1, epend, h0]
  by_cases h2 : getE s (getTo s (getTo s a)) = 0
  case neg => simp [h2, epend, h0, h1]
  by_cases h3 : getE s (getTo s (getTo s (getTo s a))) = 0
  case neg => simp [h3, epend, h0, h1, h2]
  simp [epend, epjoinP, updR, Ev.mk', h0, h1, h2, h3]
theorem epend_2 (s : ByteArray) (a : Int) : epend 2 (stP s 66 a 7) = (rdL s a [false, false]).map fun x => (Ev.mk' (.n 2 :: x.1), x.2) := by
  have p0 : pT 66 ((0 : Nat) : Int) = false := by kernel_rfl
  have p1 : pT 66 ((1 : Nat) : Int) = true := by kernel_rfl
  have p2 : pT 66 ((2 : Nat) : Int) = false := by kernel_rfl
  have p3 : pT 66 ((3 : Nat) : Int) = false := by kernel_rfl
  have p4 : pT 66 ((4 : Nat) : Int) = false := by kernel_rfl
  have p5 : pT 66 ((5 : Nat) : Int) = false := by kernel_rfl
  have p6 : pT 66 ((6 : Nat) : Int) = true := by kernel_rfl
  simp only [stP, p0, p1, p2, p3, p4, p5, p6, rdL, if_true, Bool.false_eq_true, if_false]
  by_cases h0 : getE s a = 0
  case neg => simp [h0, epend]
  by_cases h1 : getE s (getTo s a) = 0
  case neg => simp [h1, epend, h0]
  simp [epend, epjoinP, updR, Ev.mk', h0, h1]
theorem epend_3 (s : ByteArray) (a : Int) : epend 3 (stP s 10 a 7) = (rdL s a [false, false]).map fun x => (Ev.mk' (.n 3 :: x.1), x.2) := by
  have p0 : pT 10 ((0 : Nat) : Int) = false := by kernel_rfl
  have p1 : pT 10 ((1 : Nat) : Int) = true := by kernel_rfl
  have p2 : pT 10 ((2 : Nat) : Int) = false := by kernel_rfl
  have p3 : pT 10 ((3 : Nat) : Int) = true := by kernel_rfl
  have p4 : pT 10 ((4 : Nat) : Int) = false := by kernel_rfl
  have p5 : pT 10 ((5 : Nat) : Int) = false := by kernel_rfl
  have p6 : pT 10 ((6 : Nat) : Int) = false := by kernel_rfl
  simp only [stP, p0, p1, p2, p3, p4, p5, p6, rdL, if_true, Bool.false_eq_true, if_false]
  by_cases h0 : getE s a = 0
  case neg => simp [h0, epend]
  by_cases h1 : getE s (getTo s a) = 0
  case neg => simp [h1, epend, h0]
  simp [epend, epjoinP, updR, Ev.mk', h0, h1]
theorem epend_4 (s : ByteArray) (a : Int) : epend 4 (stP s 2 a 7) = (rdL s a [false]).map fun x => (Ev.mk' (.n 4 :: x.1), x.2) := by
  have p0 : pT 2 ((0 : Nat) : Int) = false := by kernel_rfl
  have p1 : pT 2 ((1 : Nat) : Int) = true := by kernel_rfl
  have p2 : pT 2 ((2 : Nat) : Int) = false := by kernel_rfl
  have p3 : pT 2 ((3 : Nat) : Int) = false := by kernel_rfl
  have p4 : pT 2 ((4 : Nat) : Int) = false := by kernel_rfl
  have p5 : pT 2 ((5 : Nat) : Int) = false := by kernel_rfl
  have p6 : pT 2 ((6 : Nat) : Int) = false := by kernel_rfl
  simp only [stP, p0, p1, p2, p3, p4, p5, p6, rdL, if_true, Bool.false_eq_true, if_false]
  by_cases h0 : getE s a = 0
  case neg => simp [h0, epend]
  simp [epend, epjoinP, updR, Ev.mk', h0]
theorem epend_5 (s : ByteArray) (a : Int) : epend 5 (stP s 71 a 7) = (rdL s a [false, false, false, false]).map fun x => (Ev.mk' (.n 5 :: x.1), x.2) := by
  have p0 : pT 71 ((0 : Nat) : Int) = true := by kernel_rfl
  have p1 : pT 71 ((1 : Nat) : Int) = true := by kernel_rfl
  have p2 : pT 71 ((2 : Nat) : Int) = true := by kernel_rfl
  have p3 : pT 71 ((3 : Nat) : Int) = false := by kernel_rfl
  have p4 : pT 71 ((4 : Nat) : Int) = false := by kernel_rfl
  have p5 : pT 71 ((5 : Nat) : Int) = false := by kernel_rfl
  have p6 : pT 71 ((6 : Nat) : Int) = true := by kernel_rfl
  simp only [stP, p0, p1, p2, p3, p4, p5, p6, rdL, if_true, Bool.false_eq_true, if_false]
  by_cases h0 : getE s a = 0
  case neg => simp [h0, epend]
  by_cases h1 : getE s (getTo s a) = 0
  case neg => simp [h1, epend, h0]
  by_cases h2 : getE s (getTo s (getTo s a)) = 0
  case neg => simp [h2, epend, h0, h1]
  by_cases h3 : getE s (getTo s (getTo s (getTo s a))) = 0
  case neg => simp [h3, epend, h0, h1, h2]
  simp [epend, epjoinP, updR, Ev.mk', h0, h1, h2, h3]
theorem epend_6 (s : ByteArray) (a : Int) : epend 6 (stP s 89 a 7) = (rdL s a [false, false, false, false]).map fun x => (Ev.mk' (.n 6 :: x.1), x.2) := by
  have p0 : pT 89 ((0 : Nat) : Int) = true := by kernel_rfl
  have p1 : pT 89 ((1 : Nat) : Int) = false := by kernel_rfl
  have p2 : pT 89 ((2 : Nat) : Int) = false := by kernel_rfl
  have p3 : pT 89 ((3 : Nat) : Int) = true := by kernel_rfl
  have p4 : pT 89 ((4 : Nat) : Int) = true := by kernel_rfl
  have p5 : pT 89 ((5 : Nat) : Int) = false := by kernel_rfl
  have p6 : pT 89 ((6 : Nat) : Int) = true := by kernel_rfl
  simp only [stP, p0, p1, p2, p3, p4, p5, p6, rdL, if_true, Bool.false_eq_true, if_false]
  by_cases h0 : getE s a = 0
  case neg => simp [h0, epend]
  by_cases h1 : getE s (getTo s a) = 0
  case neg => simp [h1, epend, h0]
  by_cases h2 : getE s (getTo s (getTo s a)) = 0
  case neg => simp [h2, epend, h0, h1]
  by_cases h3 : getE s (getTo s (getTo s (getTo s a))) = 0
  case neg => simp [h3, epend, h0, h1, h2]
  simp [epend, epjoinP, updR, Ev.mk', h0, h1, h2, h3]
theorem epend_7 (s : ByteArray) (a : Int) : epend 7 (stP s 2 a 7) = (rdL s a [false]).map fun x => (Ev.mk' (.n 7 :: x.1), x.2) := by
  have p0 : pT 2 ((0 : Nat) : Int) = false := by kernel_rfl
  have p1 : pT 2 ((1 : Nat) : Int) = true := by kernel_rfl
  have p2 : pT 2 ((2 : Nat) : Int) = false := by kernel_rfl
  have p3 : pT 2 ((3 : Nat) : Int) = false := by kernel_rfl
  have p4 : pT 2 ((4 : Nat) : Int) = false := by kernel_rfl
  have p5 : pT 2 ((5 : Nat) : Int) = false := by kernel_rfl
  have p6 : pT 2 ((6 : Nat) : Int) = false := by kernel_rfl
  simp only [stP, p0, p1, p2, p3, p4, p5, p6, rdL, if_true, Bool.false_eq_true, if_false]
  by_cases h0 : getE s a = 0
  case neg => simp [h0, epend]
  simp [epend, epjoinP, updR, Ev.mk', h0]
theorem epend_8 (s : ByteArray) (a : Int) : epend 8 (stP s 0 a 7) = (rdL s a []).map fun x => (Ev.mk' (.n 8 :: x.1), x.2) := by
  have p0 : pT 0 ((0 : Nat) : Int) = false := by kernel_rfl
  have p1 : pT 0 ((1 : Nat) : Int) = false := by kernel_rfl
  have p2 : pT 0 ((2 : Nat) : Int) = false := by kernel_rfl
  have p3 : pT 0 ((3 : Nat) : Int) = false := by kernel_rfl
  have p4 : pT 0 ((4 : Nat) : Int) = false := by kernel_rfl
  have p5 : pT 0 ((5 : Nat) : Int) = false := by kernel_rfl
  have p6 : pT 0 ((6 : Nat) : Int) = false := by kernel_rfl
  simp only [stP, p0, p1, p2, p3, p4, p5, p6, rdL, Bool.false_eq_true, if_false]
  simp [epend, epjoinP, Ev.mk']
theorem epend_9 (s : ByteArray) (a : Int) : epend 9 (stP s 1 a 7) = (rdL s a [false]).map fun x => (Ev.mk' (.n 9 :: x.1), x.2) := by
  have p0 : pT 1 ((0 : Nat) : Int) = true := by kernel_rfl
  have p1 : pT 1 ((1 : Nat) : Int) = false := by kernel_rfl
  have p2 : pT 1 ((2 : Nat) : Int) = false := by kernel_rfl
  have p3 : pT 1 ((3 : Nat) : Int) = false := by kernel_rfl
  have p4 : pT 1 ((4 : Nat) : Int) = false := by kernel_rfl
  have p5 : pT 1 ((5 : Nat) : Int) = false := by kernel_rfl
  have p6 : pT 1 ((6 : Nat) : Int) = false := by kernel_rfl
  simp only [stP, p0, p1, p2, p3, p4, p5, p6, rdL, if_true, Bool.false_eq_true, if_false]
  by_cases h0 : getE s a = 0
  case neg => simp [h0, epend]
  simp [epend, epjoinP, updR, Ev.mk', h0]
theorem epend_ok (s : ByteArray) (k a : Int) : epend k (stP s (epU k) a 7) = (rdL s a (Ev.sh k)).map fun x => (Ev.mk' (.n k :: x.1), x.2) := by
  by_cases h0 : k = 0
  · subst h0; exact epend_0 s a
  by_cases h1 : k = 1
  · subst h1; exact epend_1 s a
  by_cases h2 : k = 2
  · subst h2; exact epend_2 s a
  by_cases h3 : k = 3
  · subst h3; exact epend_3 s a
  by_cases h4 : k = 4
  · subst h4; exact epend_4 s a
  by_cases h5 : k = 5
  · subst h5; exact epend_5 s a
  by_cases h6 : k = 6
  · subst h6; exact epend_6 s a
  by_cases h7 : k = 7
  · subst h7; exact epend_7 s a
  by_cases h8 : k = 8
  · subst h8; exact epend_8 s a
  by_cases h9 : k = 9
  · subst h9; exact epend_9 s a
  rw [show epU k = 0 by unfold epU; rw [if_neg h0, if_neg h1, if_neg h2, if_neg h3, if_neg h4, if_neg h5, if_neg h6, if_neg h7, if_neg h8, if_neg h9], stP_zero s a 7 (fun j hj => by match j, hj with | 0, _ | 1, _ | 2, _ | 3, _ | 4, _ | 5, _ | 6, _ => show (_ : Bool) = _; kernel_rfl) 7 (Nat.le_refl _)]
  rw [show Ev.sh k = [] by unfold Ev.sh; rw [if_neg h0, if_neg h1, if_neg h2, if_neg h3, if_neg h4, if_neg h5, if_neg h6, if_neg h7, if_neg h8, if_neg h9]]
  simp [epend, epjoinP, rdL, Ev.mk']
theorem eprd_ok (s : ByteArray) : Ev.get s = match eprd s with
    | some (p, b) => if b = s.size ∧ p.may = true then some p else none
    | none => none := by
  unfold Ev.get getK rdK eprd
  by_cases h : getE s 0 = 0
  · rw [if_pos h, if_pos h, epend_ok]
    cases rdL s (getTo s 0) (Ev.sh (getX s 0)) with
    | none => rfl
    | some y => rfl
  · rw [if_neg h, if_neg h]
end Go.Proofs.YtiebpjkppjollaaDoor

