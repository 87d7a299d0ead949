/- StateBoots: each boot ends all sessions, frees their addresses when the time is over, and counts itself; all else stays. Conditions: the rows' sizes. -/
import Derived.Test.YtopkcaflmpjhgaaSspend
namespace Go.Proofs.Ytopkcaflmpjhgaa
open Go Go.RowKit

abbrev sba0 : Oper := { dst := some 126, op := Op.fieldAddr 32 (Operand.tmp 8) 5, type := 0, pos := "deep.go:32", after := #[], guard := none }
abbrev sba1 : Oper := { dst := some 127, op := Op.load 29 (Operand.tmp 126), type := 29, pos := "deep.go:32", after := #[{ on := 0, ground := Ground.data }], guard := none }
abbrev sba2 : Oper := { dst := some 128, op := Op.move (Operand.tmp 10), type := 3, pos := "deep.go:32", after := #[], guard := none }
abbrev sba3 : Oper := { dst := some 129, op := Op.indexAddr 29 (Operand.tmp 127) (Operand.tmp 128), type := 0, pos := "deep.go:32", after := #[{ on := 1, ground := Ground.data }, { on := 2, ground := Ground.data }], guard := none }
abbrev sba4 : Oper := { dst := some 130, op := Op.load 58 (Operand.tmp 129), type := 58, pos := "deep.go:32", after := #[{ on := 3, ground := Ground.data }], guard := none }
abbrev sba5 : Oper := { dst := some 131, op := Op.load 58 (Operand.tmp 11), type := 58, pos := "deep.go:32", after := #[], guard := none }
abbrev sba6 : Oper := { dst := some 132, op := Op.binOp BinOp.neq 58 (Operand.tmp 130) (Operand.tmp 131) 58, type := 4, pos := "deep.go:32", after := #[{ on := 4, ground := Ground.data }, { on := 5, ground := Ground.data }], guard := none }
def btM : List Ev := [⟨5, 0, 0, 2, 0, 0, 0, 1⟩, ⟨5, 1, 1, 0, 0, 0, 0, 2⟩, ⟨9, 0, 7, 0, 0, 0, 0, 0⟩, ⟨8, 0, 0, 0, 0, 0, 0, 0⟩]
theorem btM_in (W : World) {p : Nat} (hp : W.heap.size = p) : MoreIn (W.alloc (.cells #[.int .i64 5, .int .i64 0, .int .i64 0, .int .i64 2, .int .i64 0, .int .i64 0, .int .i64 0, .int .i64 1, .int .i64 5, .int .i64 1, .int .i64 1, .int .i64 0, .int .i64 0, .int .i64 0, .int .i64 0, .int .i64 2, .int .i64 9, .int .i64 0, .int .i64 7, .int .i64 0, .int .i64 0, .int .i64 0, .int .i64 0, .int .i64 0, .int .i64 8, .int .i64 0, .int .i64 0, .int .i64 0, .int .i64 0, .int .i64 0, .int .i64 0, .int .i64 0] TEv)) (some ⟨p, 0, none⟩) 4 4 btM := MoreIn.lit W btM (by decide) hp rfl rfl
abbrev btS (B : Int) (ss : List Se) (ad : List Pa) : St := ⟨B, 1, 2, u01, ss, ad, [7]⟩
abbrev btSs : List Se := [⟨0, 0, 2, 1⟩, ⟨1, 1, 0, 2⟩]
abbrev btAd : List Pa := [⟨true, 1, 0⟩, ⟨false, -1, 0⟩, ⟨true, 0, 0⟩]
abbrev btAf (T : Int) : List Pa := [⟨false, 1, T⟩, ⟨false, -1, 0⟩, ⟨false, 0, T⟩]
theorem bt_is : saS cfP (begB ++ btM) = btS 1 btSs btAd ∧ decide (saE cfP (begB ++ btM) = 0) = true := by decide +kernel
def Bt (B : Int) (ss : List Se) (ad : List Pa) : Prop := (B = 1 ∧ ss = btSs ∧ ad = btAd) ∨ (1 ≤ B ∧ ss = [] ∧ ∃ T, ad = btAf T)
theorem Bt.sm {B : Int} {ss : List Se} {ad : List Pa} (h : Bt B ss ad) : (btS B ss ad).sm 1 := by
  refine ⟨by show u01.length + uFree u01 ≤ _; decide +kernel, ?_, ?_, by show 1 + 1 ≤ _; decide, ⟨by show -9223372036854775808 ≤ (1 : Int); decide, by show ∀ x ∈ u01, _; decide⟩, by show ∀ y ∈ [(7 : Int)], _; decide⟩
  · rcases h with ⟨_, rfl, _⟩ | ⟨_, rfl, _⟩
    · show btSs.length ≤ _; decide
    · show 0 ≤ _; decide
  · rcases h with ⟨_, _, rfl⟩ | ⟨_, _, T, rfl⟩
    · show btAd.length ≤ _; decide
    · show 3 ≤ _; decide
theorem Bt.len {B : Int} {ss : List Se} {ad : List Pa} (h : Bt B ss ad) : ad.length = 3 ∧ 1 ≤ B := by
  rcases h with ⟨rfl, _, rfl⟩ | ⟨h, _, T, rfl⟩
  · exact ⟨rfl, by decide⟩
  · exact ⟨rfl, h⟩
theorem ev0_may {t : Int} (t0 : 0 ≤ t) (t1 : t ≤ 1023) : Ev.may ⟨0, 0, 0, 0, 0, 0, 0, t⟩ = true := by
  have a : decide (0 ≤ t) = true := decide_eq_true t0
  have b : decide (t ≤ 1048575) = true := decide_eq_true (by omega)
  unfold Ev.may Ev.rng Ev.part Ev.lim okNum
  simp [a, b]
theorem bt_free {t : Int} (t0 : 0 ≤ t) (t1 : t ≤ 1023) : stFreeAll (t + 8) btSs btAd = some (btAf (t + 8)) := by
  have c : decide (0 ≤ t + 8) = true := decide_eq_true (by omega)
  have m1 : poMay btAd = true := by decide
  have m2 : poMay [⟨true, 1, 0⟩, ⟨false, -1, 0⟩, ⟨false, 0, t + 8⟩] = true := by
    simp [poMay, Pa.may]; omega
  simp [stFreeAll, pfOk, m1, m2, c, btAf, btAd, List.set]
theorem Bt.next {B : Int} {ss : List Se} {ad : List Pa} (h : Bt B ss ad) (hB : B ≤ 1000) {t : Int} (t0 : 0 ≤ t) (t1 : t ≤ 1023) : ∃ ad', stAS cfP (btS B ss ad) ⟨0, 0, 0, 0, 0, 0, 0, t⟩ = btS (B + 1) [] ad' ∧ stAE cfP (btS B ss ad) ⟨0, 0, 0, 0, 0, 0, 0, t⟩ = 0 ∧ Bt (B + 1) [] ad' ∧ ad'.length = 3 ∧ ∀ j, j < 3 → ∃ bz l u, ad.getD j Pa.none = ⟨bz, l, u⟩ ∧ ad'.getD j Pa.none = ⟨false, l, if bz then t + 8 else u⟩ := by
  have key : ∀ ad', stFreeAll (t + 8) ss ad = some ad' → stAS cfP (btS B ss ad) ⟨0, 0, 0, 0, 0, 0, 0, t⟩ = btS (B + 1) [] ad' ∧ stAE cfP (btS B ss ad) ⟨0, 0, 0, 0, 0, 0, 0, t⟩ = 0 := by
    intro ad' hF
    have hk : stOk cfP (btS B ss ad) ⟨0, 0, 0, 0, 0, 0, 0, t⟩ = true := by
      show (cfP.may && Ev.may ⟨0, 0, 0, 0, 0, 0, 0, t⟩ && decide ((ad.length : Int) = 3)) = true
      rw [ev0_may t0 t1, h.len.1]
      decide
    have hE : stEv cfP (btS B ss ad) ⟨0, 0, 0, 0, 0, 0, 0, t⟩ = some (btS (B + 1) [] ad') := by
      show (if 0 ≤ B ∧ B < 1073741823 then (stFreeAll (t + 8) ss ad).map fun ad => btS (B + 1) [] ad else none) = _
      rw [if_pos (by have := h.len.2; omega), hF]
      rfl
    unfold stAS stAE
    rw [hk, hE]
    exact ⟨rfl, rfl⟩
  have j3 : ∀ j, j < 3 → j = 0 ∨ j = 1 ∨ j = 2 := by omega
  rcases h with ⟨rfl, rfl, rfl⟩ | ⟨hb, rfl, T, rfl⟩
  · obtain ⟨k1, k2⟩ := key (btAf (t + 8)) (bt_free t0 t1)
    refine ⟨btAf (t + 8), k1, k2, .inr ⟨by decide, rfl, _, rfl⟩, rfl, fun j hj => ?_⟩
    rcases j3 j hj with rfl | rfl | rfl
    · exact ⟨true, 1, 0, rfl, rfl⟩
    · exact ⟨false, -1, 0, rfl, rfl⟩
    · exact ⟨true, 0, 0, rfl, rfl⟩
  · obtain ⟨k1, k2⟩ := key (btAf T) rfl
    refine ⟨btAf T, k1, k2, .inr ⟨by omega, rfl, _, rfl⟩, rfl, fun j hj => ?_⟩
    rcases j3 j hj with rfl | rfl | rfl
    · exact ⟨false, 1, T, rfl, rfl⟩
    · exact ⟨false, -1, 0, rfl, rfl⟩
    · exact ⟨false, 0, T, rfl, rfl⟩
theorem and1023 (x : Int) : ∃ m : Int, bits .and .i64 x 1023 = m ∧ 0 ≤ m ∧ m ≤ 1023 := by
  have h := i64_mask x 10 (by decide)
  exact ⟨_, h, by omega, by omega⟩
set_option maxRecDepth 100000 in
set_option maxHeartbeats 16000000 in
theorem stboots (P : StatesOk) {w : World} {ao : Option Addr} {n cap : Nat} {as' : List Int} (has : InIn [] w ao n as') :
    Calls Try.prog 7 #[.slice ao n cap] w fun e w' => e = .returned (.bool true) ∧ Below w.heap.size w w' := by
  have HEL := Lib.hid (fun k (hk : k < n) => in_el has (k := k) hk)
  clear has
  have q0 : At w (OB [] (STS [] emp)) w := OB.start (Below.refl w.heap.size w)
  go_enter Try.func7, Try.ntmps7
  go_wp2_with (first
    | (go_at_call 9; (with_reducible refine (awake20 P _).mono ?_); rintro r w1 ⟨rfl, hb⟩; have q1 := OB.lay (STS.good emp_good) q0 hb; clear hb)
    | (go_at_call 14; (with_reducible refine (lplain _).mono ?_); rintro e w2 ⟨rfl, hb⟩; have q2 : At w (OB [(w2.heap.size, cfC cfP, TCf)] (STS [] emp)) (w2.alloc (.cells (cfC cfP) TCf)) := OB.hold (STS.good emp_good) (OB.lay (STS.good emp_good) q1 hb) (cfC cfP) TCf rfl; clear hb)
    | (go_at_call 15; (with_reducible refine (obegun P emp_good (OB.lay1 (STS.good emp_good) q2 _) (btM_in _ (by go_simp)) bt_is.1 bt_is.2).mono ?_); rintro e w3 ⟨h0, rfl, qa⟩; have q3 : At w (OB [(w2.heap.size, cfC cfP, TCf), (w3.heap.size, stN 1 1 2 h0 2 2 3 1, TSt)] (STS [(h0, btS 1 btSs btAd)] emp)) (w3.alloc (.cells (stN 1 1 2 h0 2 2 3 1) TSt)) := OB.hold (STS.good emp_good) qa (stN 1 1 2 h0 2 2 3 1) TSt rfl; clear qa))
  clear q0 q1 q2
  generalize w3.alloc (.cells (stN 1 1 2 h0 2 2 3 1) TSt) = W4 at *
  generalize w2.heap.size = b1 at *
  generalize w3.heap.size = b2 at *
  have HQ := Lib.hid q3
  clear q3
  go_loopw [6] (fun i wr => ∃ (k V : Nat) (B : Int) (ss : List Se) (ad : List Pa) (h : Sv), k ≤ n ∧ k ≤ 10 ∧ i = .int .i64 (k : Int) ∧ B ≤ (k : Int) + 1 ∧ V = ss.length ∧ Aside (Bt B ss ad) ∧ Aside (At w (OB [(b1, cfC cfP, TCf), (b2, (stN B 1 2 h 2 V 3 1), TSt)] (STS [(h, btS B ss ad)] emp)) wr)) (fun i _ => 10 - (intOf i).toNat)
  case atStart => exact ⟨0, 2, 1, btSs, btAd, h0, Nat.zero_le _, by decide, rfl, by decide, rfl, (show Aside _ from .inl ⟨rfl, rfl, rfl⟩), (show Aside _ from HQ.out)⟩
  case round =>
    clear HQ
    obtain ⟨k, V, B, ss, ad, h, hkn, hk10, rfl, hBk, hV, hBt, hall⟩ := hrel
    have q := hall.out
    have hbt := hBt.out
    clear hall hBt
    have HV := Lib.hid hV
    clear hV
    by_cases hlt : k < n ∧ k < 10
    · obtain ⟨hltn, hlt10⟩ := hlt
      have hltI : (k : Int) < (n : Int) := by omega
      have hltJ : (k : Int) < 10 := by omega
      obtain ⟨b, off, x, rfl, hx, hcell⟩ := HEL.out k hltn
      have hc := hcell _ q.bel
      clear hcell hx
      obtain ⟨t, ht, t0, t1⟩ := and1023 x
      obtain ⟨ad', hS, hE, hbt', hal', hj⟩ := hbt.next (by omega) t0 t1
      have hal := hbt.len.1
      have HS := Lib.hid (And.intro hS hE)
      have HSM := Lib.hid hbt.sm
      have HSM' := Lib.hid hbt'.sm
      have HBT := Lib.hid hbt'
      have HJ := Lib.hid hj
      have hA : (stN B 1 2 h 2 V 3 1) = stC h (btS B ss ad) := by simp only [stC, stN, hal, HV.out]; rfl
      have HA := Lib.hid hA
      have HAL := Lib.hid (And.intro hal hal')
      have hB1 : 1 ≤ B := hbt.len.2
      have hwB : IntKind.i64.wrap (B + 1) = B + 1 := by rw [IntKind.wrap_i64]; omega
      have hwt : IntKind.i64.wrap (t + 8) = t + 8 := by rw [IntKind.wrap_i64]; omega
      have ec := (OB.at q (i := 0) rfl).cell
      have es1 := (OB.at q (i := 1) rfl).cell
      clear hbt hbt' hS hE hj hA hal
      go_wp2_with (first
        | (go_at_call 13; (with_reducible refine (P.oapplyA (e := ⟨0, 0, 0, 0, 0, 0, 0, t⟩) emp_good q (i := 0) rfl HSM.out (stN B 1 2 h 2 V 3 1) HA.out HS.out.1 HS.out.2).mono ?_); rintro r w5 ⟨h5, rfl, qa⟩; have q5 : At w (OB [(b1, cfC cfP, TCf), (b2, (stN B 1 2 h 2 V 3 1), TSt), (w5.heap.size, (stN (B + 1) 1 2 h5 2 0 3 1), TSt)] (STS [(h5, btS (B + 1) [] ad'), (h, btS B ss ad)] emp)) (w5.alloc (.cells (stN (B + 1) 1 2 h5 2 0 3 1) TSt)) := OB.hold (STS.good emp_good) qa (stN (B + 1) 1 2 h5 2 0 3 1) TSt rfl; clear qa; have e5 := (OB.at q5 (i := 1) rfl).cell; have e6 := (OB.at q5 (i := 2) rfl).cell)
        | (go_at_call 18; (with_reducible refine (us_yes (show UsIn [] _ h5.u 2 u01 from (STS.at q5 (i := 0) rfl HSM'.out).us) (show UsIn [] _ h.u 2 u01 from (STS.at q5 (i := 1) rfl HSM.out).us)).mono ?_); rintro r w6 ⟨rfl, hb⟩; have q6 := OB.lay (STS.good emp_good) q5 hb; clear hb; have e7 := (OB.at q6 (i := 1) rfl).cell; have e8 := (OB.at q6 (i := 2) rfl).cell)
        | (go_at_call 19; (with_reducible refine (in_yes (show InIn [] _ h5.i 1 [7] from (STS.at q6 (i := 0) rfl HSM'.out).sp) (show InIn [] _ h.i 1 [7] from (STS.at q6 (i := 1) rfl HSM.out).sp)).mono ?_); rintro r w7 ⟨rfl, hb⟩; have q7 := OB.lay (STS.good emp_good) q6 hb; clear hb; have e9 := (OB.at q7 (i := 1) rfl).cell; have e10 := (OB.at q7 (i := 2) rfl).cell)
        | (go_at_call 11; (with_reducible refine (lnum _ _).mono ?_); rintro r wn ⟨rfl, rfl⟩))
      generalize w5.heap.size = b3 at *
      have HQ7 := Lib.hid q7
      clear q5 q6 q7 q e5 e6 e7 e8 e9 e10 es1 ec
      go_loopw [10] (fun j wq => ∃ j' : Nat, j' ≤ 3 ∧ j = .int .i64 (j' : Int) ∧ Aside (At w (OB [(b1, cfC cfP, TCf), (b2, (stN B 1 2 h 2 V 3 1), TSt), (b3, (stN (B + 1) 1 2 h5 2 0 3 1), TSt)] (STS [(h5, btS (B + 1) [] ad'), (h, btS B ss ad)] emp)) wq)) (fun j _ => 3 - (intOf j).toNat)
      case atStart => exact ⟨0, by decide, rfl, (show Aside _ from HQ7.out)⟩
      case round =>
        clear HQ7
        obtain ⟨j, hj3, rfl, hall⟩ := hrel
        have HQj := Lib.hid hall.out
        clear hall
        by_cases hjl : j < 3
        · have hjI : (j : Int) < 3 := by omega
          obtain ⟨bz, l, u, hs1, hx1⟩ := HJ.out j hjl
          have HXJ := Lib.hid hx1
          obtain ⟨sb, so, e4, hsc⟩ := STS.pa HQj.out (i := 1) rfl HSM.out (j := j) (by show j < ad.length; rw [HAL.out.1]; exact hjl) hs1
          obtain ⟨y0, y1, y2⟩ := hsc _ (Below.refl _ _)
          have ec := (OB.at HQj.out (i := 0) rfl).cell
          have lc := (OB.at HQj.out (i := 0) rfl).lt
          have es1 := (OB.at HQj.out (i := 1) rfl).cell
          generalize hwr : wr = wq at *
          clear hsc hs1 hx1 hwr
          cases bz with
          | true =>
            simp only [if_true] at HXJ
            have q8 : At w (OB [(b1, cfC cfP, TCf), (b2, (stN B 1 2 h 2 V 3 1), TSt), (b3, (stN (B + 1) 1 2 h5 2 0 3 1), TSt), (wq.heap.size, #[.bool false, .int .i64 l, .int .i64 (t + 8)], TPa)] (STS [(h5, btS (B + 1) [] ad'), (h, btS B ss ad)] emp)) (wq.alloc (.cells #[.bool false, .int .i64 l, .int .i64 (t + 8)] TPa)) := OB.hold (STS.good emp_good) HQj.out #[.bool false, .int .i64 l, .int .i64 (t + 8)] TPa rfl
            go_wp2
            generalize wq.alloc (.cells #[.bool false, .int .i64 l, .int .i64 (t + 8)] TPa) = W8 at *
            generalize wq.heap.size = pw at *
            obtain ⟨xb, xo, e5, hxc⟩ := STS.pa q8 (i := 0) rfl HSM'.out (j := j) (by show j < ad'.length; rw [HAL.out.2]; exact hjl) HXJ.out
            have HX := Lib.hid hxc
            have HQ8 := Lib.hid q8
            clear hxc q8
            refine region_held (S := fun Z => Below W8.heap.size W8 Z) 7 [false, false, false, false, false, false, false] rfl rfl (by kernel_rfl) fun Y hW => ?_
            have hY : Below W8.heap.size W8 Y := by rw [hW]; exact us_drew W8
            clear hW
            refine run_go [(0, sba0, (some 126)), (1, sba1, (some 127)), (2, sba2, (some 128)), (3, sba3, (some 129)), (4, sba4, (some 130)), (5, sba5, (some 131))] (by kernel_rfl) ?_
            iterate 6 (refine run_take ?_ rfl rfl (fun _ _ _ h => h) (Or.inl ⟨by rfl, ?_⟩) hY ?_; rotate_left; (· (intro w0' hy0; have f1 := (OB.at (OB.lay (STS.good emp_good) HQ8.out hy0) (i := 2) rfl).cell; have f2 := (OB.at (OB.lay (STS.good emp_good) HQ8.out hy0) (i := 3) rfl).cell; obtain ⟨x0, x1, x2⟩ := HX.out _ hy0; (go_simp <;> with_reducible rfl))); simp only [Act.put, List.setIfInBounds_toArray, List.set_cons_zero, List.set_cons_succ])
            refine run_end ?_
            refine held_take 6 sba6 (some 132) (.bool (!decide ((⟨false, l, (t + 8)⟩ : Pa) = ⟨false, l, (t + 8)⟩))) rfl rfl (by kernel_rfl) (by kernel_rfl) (by kernel_rfl) (fun _ _ _ h => h) (Or.inl ⟨by rfl, fun w0' hy0 => pa_neq (.tmp 130) (.tmp 131) rfl ⟨false, l, (t + 8)⟩ ⟨false, l, (t + 8)⟩ rfl rfl⟩) hY ?_
            simp only [Act.put, List.setIfInBounds_toArray, List.set_cons_zero, List.set_cons_succ]
            refine wpAnyH_done (by kernel_rfl) ?_ _
            try rw [show (!decide ((⟨false, l, (t + 8)⟩ : Pa) = ⟨false, l, (t + 8)⟩)) = false by simp]
            have q9 := OB.drop 3 rfl (OB.lay (STS.good emp_good) HQ8.out hY)
            have HQ9 := Lib.hid q9
            clear q9
            go_wp2
            go_roundw
            case rel => exact ⟨j + 1, by omega, by go_num, (show Aside _ from HQ9.out)⟩
            case measure => simp [intOf]; omega
          | false =>
            simp only [Bool.false_eq_true, if_false] at HXJ
            have q8 : At w (OB [(b1, cfC cfP, TCf), (b2, (stN B 1 2 h 2 V 3 1), TSt), (b3, (stN (B + 1) 1 2 h5 2 0 3 1), TSt), (wq.heap.size, #[.bool false, .int .i64 l, .int .i64 u], TPa)] (STS [(h5, btS (B + 1) [] ad'), (h, btS B ss ad)] emp)) (wq.alloc (.cells #[.bool false, .int .i64 l, .int .i64 u] TPa)) := OB.hold (STS.good emp_good) HQj.out #[.bool false, .int .i64 l, .int .i64 u] TPa rfl
            go_wp2
            generalize wq.alloc (.cells #[.bool false, .int .i64 l, .int .i64 u] TPa) = W8 at *
            generalize wq.heap.size = pw at *
            obtain ⟨xb, xo, e5, hxc⟩ := STS.pa q8 (i := 0) rfl HSM'.out (j := j) (by show j < ad'.length; rw [HAL.out.2]; exact hjl) HXJ.out
            have HX := Lib.hid hxc
            have HQ8 := Lib.hid q8
            clear hxc q8
            refine region_held (S := fun Z => Below W8.heap.size W8 Z) 7 [false, false, false, false, false, false, false] rfl rfl (by kernel_rfl) fun Y hW => ?_
            have hY : Below W8.heap.size W8 Y := by rw [hW]; exact us_drew W8
            clear hW
            refine run_go [(0, sba0, (some 126)), (1, sba1, (some 127)), (2, sba2, (some 128)), (3, sba3, (some 129)), (4, sba4, (some 130)), (5, sba5, (some 131))] (by kernel_rfl) ?_
            iterate 6 (refine run_take ?_ rfl rfl (fun _ _ _ h => h) (Or.inl ⟨by rfl, ?_⟩) hY ?_; rotate_left; (· (intro w0' hy0; have f1 := (OB.at (OB.lay (STS.good emp_good) HQ8.out hy0) (i := 2) rfl).cell; have f2 := (OB.at (OB.lay (STS.good emp_good) HQ8.out hy0) (i := 3) rfl).cell; obtain ⟨x0, x1, x2⟩ := HX.out _ hy0; (go_simp <;> with_reducible rfl))); simp only [Act.put, List.setIfInBounds_toArray, List.set_cons_zero, List.set_cons_succ])
            refine run_end ?_
            refine held_take 6 sba6 (some 132) (.bool (!decide ((⟨false, l, u⟩ : Pa) = ⟨false, l, u⟩))) rfl rfl (by kernel_rfl) (by kernel_rfl) (by kernel_rfl) (fun _ _ _ h => h) (Or.inl ⟨by rfl, fun w0' hy0 => pa_neq (.tmp 130) (.tmp 131) rfl ⟨false, l, u⟩ ⟨false, l, u⟩ rfl rfl⟩) hY ?_
            simp only [Act.put, List.setIfInBounds_toArray, List.set_cons_zero, List.set_cons_succ]
            refine wpAnyH_done (by kernel_rfl) ?_ _
            try rw [show (!decide ((⟨false, l, u⟩ : Pa) = ⟨false, l, u⟩)) = false by simp]
            have q9 := OB.drop 3 rfl (OB.lay (STS.good emp_good) HQ8.out hY)
            have HQ9 := Lib.hid q9
            clear q9
            go_wp2
            go_roundw
            case rel => exact ⟨j + 1, by omega, by go_num, (show Aside _ from HQ9.out)⟩
            case measure => simp [intOf]; omega
        · obtain rfl : j = 3 := by omega
          have q := HQj.out
          have es1 := (OB.at q (i := 1) rfl).cell
          have gs := (OB.at q (i := 1) rfl).froz
          have e3 := (OB.at q (i := 2) rfl).cell
          have q8 := OB.put7 (STS.good emp_good) q (i := 1) rfl (.int .i64 (B + 1)) (.int .i64 1) (.int .i64 2) (.slice h5.u 2 h5.uc) (.slice h5.s 0 h5.sc) (.slice h5.p 3 h5.pc) (.slice h5.i 1 h5.ic)
          have q9 : At w (OB [(b1, cfC cfP, TCf), (b2, (stN (B + 1) 1 2 h5 2 0 3 1), TSt)] (STS [(h5, btS (B + 1) [] ad')] emp)) _ := STS.drop 1 rfl (OB.drop 2 rfl q8)
          have HQ9 := Lib.hid q9
          clear q q8 q9 hj3
          go_wp2
          go_roundw
          case rel => exact ⟨k + 1, 0, B + 1, [], ad', h5, by omega, by omega, by go_num, by omega, rfl, (show Aside _ from HBT.out), (show Aside _ from HQ9.out)⟩
          case measure => simp [intOf]; omega
    · have hcond : ¬ ((k : Int) < (n : Int) ∧ (k : Int) < 10) := by omega
      have HQ := Lib.hid q
      clear q
      by_cases h1 : (k : Int) < (n : Int)
      · have h2 : ¬ (k : Int) < 10 := fun c => hcond ⟨h1, c⟩
        clear hcond
        go_wp2
        go_ret
        exact ⟨rfl, HQ.out.bel⟩
      · clear hcond
        go_wp2
        go_ret
        exact ⟨rfl, HQ.out.bel⟩
end Go.Proofs.Ytopkcaflmpjhgaa
