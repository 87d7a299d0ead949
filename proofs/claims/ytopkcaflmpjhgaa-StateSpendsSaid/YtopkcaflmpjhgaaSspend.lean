/- StateSpends: a session's ticket is spent once, in whatever row; rotations count. Conditions: the rows' sizes. -/
import Derived.Test.YtopkcaflmpjhgaaSasks
namespace Go.Proofs.Ytopkcaflmpjhgaa
open Go Go.RowKit

abbrev u01 : List Us := [⟨0, 5, 6, 50, 0, 0, 0, 0, 0⟩, ⟨1, 7, 8, 60, 0, 0, 0, 0, 0⟩]
abbrev ad3 : List Pa := [⟨false, -1, 0⟩, ⟨false, -1, 0⟩, ⟨false, -1, 0⟩]
abbrev spS (ep : Int) (sp : List Int) : St := ⟨1, ep, 0, u01, [], ad3, sp⟩
theorem spS_is : saS cfP (begB ++ []) = spS 0 [] ∧ decide (saE cfP (begB ++ []) = 0) = true := by decide +kernel
def SpW (sp : List Int) : Prop := ∀ x ∈ sp, 0 ≤ x ∧ x ≤ 15
theorem SpW.snoc {sp : List Int} (h : SpW sp) {k : Int} (k0 : 0 ≤ k) (k1 : k ≤ 15) : SpW (sp ++ [k]) := by
  intro x hx
  rcases List.mem_append.1 hx with d | d
  · exact h x d
  · obtain rfl : x = k := by simpa using d
    exact ⟨k0, k1⟩
theorem spS_sm {ep : Int} {sp : List Int} {k : Nat} (hw : SpW sp) (h0 : 0 ≤ ep) (h : sp.length + k ≤ 17592186044411) : (spS ep sp).sm k := ⟨by show u01.length + uFree u01 ≤ _; decide +kernel, by show 0 ≤ _; decide, by show 3 ≤ _; decide, h, ⟨by show -9223372036854775808 ≤ ep; omega, by show ∀ x ∈ u01, _; decide⟩, fun y hy => by have := hw y hy; omega⟩
theorem sp_rot {ep : Int} {sp : List Int} (h : ep ≤ 1000) : stAS cfP (spS ep sp) ⟨8, 0, 0, 0, 0, 0, 0, 0⟩ = spS (ep + 1) sp ∧ stAE cfP (spS ep sp) ⟨8, 0, 0, 0, 0, 0, 0, 0⟩ = 0 := by
  have hk : stOk cfP (spS ep sp) ⟨8, 0, 0, 0, 0, 0, 0, 0⟩ = true := by
    show (cfP.may && Ev.may ⟨8, 0, 0, 0, 0, 0, 0, 0⟩ && decide ((ad3.length : Int) = cfP.adr)) = true
    decide
  have hE : stEv cfP (spS ep sp) ⟨8, 0, 0, 0, 0, 0, 0, 0⟩ = some (spS (ep + 1) sp) := by
    show (if ep < 1073741823 then some (spS (ep + 1) sp) else none) = _
    rw [if_pos (by omega)]
  unfold stAS stAE
  rw [hk, hE]
  exact ⟨rfl, rfl⟩
theorem ev9_may {k : Int} (k0 : 0 ≤ k) (k1 : k ≤ 15) : Ev.may ⟨9, 0, k, 0, 0, 0, 0, 0⟩ = true := by
  have h : k = 0 ∨ k = 1 ∨ k = 2 ∨ k = 3 ∨ k = 4 ∨ k = 5 ∨ k = 6 ∨ k = 7 ∨ k = 8 ∨ k = 9 ∨ k = 10 ∨ k = 11 ∨ k = 12 ∨ k = 13 ∨ k = 14 ∨ k = 15 := by omega
  rcases h with rfl | rfl | rfl | rfl | rfl | rfl | rfl | rfl | rfl | rfl | rfl | rfl | rfl | rfl | rfl | rfl <;> decide
theorem sp_ok {ep k : Int} {sp : List Int} (k0 : 0 ≤ k) (k1 : k ≤ 15) : stOk cfP (spS ep sp) ⟨9, 0, k, 0, 0, 0, 0, 0⟩ = true := by
  show (cfP.may && Ev.may ⟨9, 0, k, 0, 0, 0, 0, 0⟩ && decide ((ad3.length : Int) = cfP.adr)) = true
  rw [ev9_may k0 k1]
  decide
theorem sp_put {ep k : Int} {sp : List Int} (k0 : 0 ≤ k) (k1 : k ≤ 15) (h : sp.contains k = false) : stAS cfP (spS ep sp) ⟨9, 0, k, 0, 0, 0, 0, 0⟩ = spS ep (sp ++ [k]) ∧ stAE cfP (spS ep sp) ⟨9, 0, k, 0, 0, 0, 0, 0⟩ = 0 := by
  have hE : stEv cfP (spS ep sp) ⟨9, 0, k, 0, 0, 0, 0, 0⟩ = some (spS ep (sp ++ [k])) := by
    show (if sp.contains k = true then none else some (spS ep (sp ++ [k]))) = _
    rw [if_neg (by rw [h]; decide)]
  unfold stAS stAE
  rw [sp_ok k0 k1, hE]
  exact ⟨rfl, rfl⟩
theorem sp_had {ep k : Int} {sp : List Int} (k0 : 0 ≤ k) (k1 : k ≤ 15) (h : sp.contains k = true) : stAS cfP (spS ep sp) ⟨9, 0, k, 0, 0, 0, 0, 0⟩ = ⟨0, 0, 0, [], [], [], []⟩ ∧ stAE cfP (spS ep sp) ⟨9, 0, k, 0, 0, 0, 0, 0⟩ = 2001 := by
  have hE : stEv cfP (spS ep sp) ⟨9, 0, k, 0, 0, 0, 0, 0⟩ = none := by
    show (if sp.contains k = true then none else some (spS ep (sp ++ [k]))) = _
    rw [if_pos h]
  unfold stAS stAE
  rw [sp_ok k0 k1, hE]
  exact ⟨rfl, rfl⟩
theorem and15 (x : Int) : ∃ m : Int, bits .and .i64 x 15 = m ∧ 0 ≤ m ∧ m ≤ 15 := by
  have h := i64_mask x 4 (by decide)
  exact ⟨_, h, by omega, by omega⟩
theorem take_contains {sp : List Int} {j : Nat} (hj : j < sp.length) {y : Int} (hy : sp.getD j 0 = y) (k : Int) : (sp.take (j + 1)).contains k = ((sp.take j).contains k || (y == k)) := by
  have e : sp[j] = y := by rw [← hy]; simp [List.getD, hj]
  rw [List.take_succ_eq_append_getElem hj, e]
  simp only [List.contains_eq_any_beq, List.any_append, List.any_cons, List.any_nil, Bool.or_false]
  congr 1
  by_cases c : y = k
  · subst c; rw [beq_self_eq_true]
  · rw [beq_eq_false_iff_ne.2 c, beq_eq_false_iff_ne.2 (fun h => c h.symm)]
abbrev SpR (a : Option Addr) (cp : Nat) (sp : List Int) : Ass := (rowE TIn 1 (.slice a sp.length cp) sp.length (inCells sp)).star emp
theorem spR_good (a : Option Addr) (cp : Nat) (sp : List Int) : (SpR a cp sp).Good := (rowE_good _ _ _ _ _).star emp_good
theorem in_yes {w : World} {ao bo : Option Addr} {n m c1 c2 : Nat} {es : List Int} (h1 : InIn [] w ao n es) (h2 : InIn [] w bo m es) :
    Calls Try.prog 19 #[.slice ao n c1, .slice bo m c2] w fun e w' => e = .returned (.bool true) ∧ Below w.heap.size w w' :=
  (in_same h1 h2).mono fun e w' ⟨a, b⟩ => ⟨by rw [a]; simp, b⟩
theorem SpR.row {w W : World} {l : List Ob} {z : List (Sv × St)} {a : Option Addr} {cp : Nat} {sp : List Int} (q : At w (OB l (STS z (SpR a cp sp))) W) : At w ((rowE TIn 1 (.slice a sp.length cp) sp.length (inCells sp)).star (OB l (STS z emp))) W := (q.imp (OB.under (STS.up _ _ _))).imp (OB.up _ _ _)
theorem SpR.of {w W : World} {l : List Ob} {z : List (Sv × St)} {a : Option Addr} {cp : Nat} {sp : List Int} (q : At w ((rowE TIn 1 (.slice a sp.length cp) sp.length (inCells sp)).star (OB l (STS z emp))) W) : At w (OB l (STS z (SpR a cp sp))) W := (q.imp (OB.dn _ _ _)).imp (OB.under (STS.dn _ _ _))
theorem SpR.in {w W : World} {l : List Ob} {z : List (Sv × St)} {a : Option Addr} {cp : Nat} {sp : List Int} (q : At w (OB l (STS z (SpR a cp sp))) W) (h : sp.length ≤ 17592186044416) : InIn [] W a sp.length sp := At.inI (SpR.row q) rfl rfl h
set_option maxRecDepth 100000 in
set_option maxHeartbeats 16000000 in
theorem stspends (P : StatesOk) {w : World} {ao : Option Addr} {n cap : Nat} {as' : List Int} (has : InIn [] w ao n as') :
    Calls Try.prog 8 #[.slice ao n cap] w fun e w' => e = .returned (.bool true) ∧ Below w.heap.size w w' := by
  have HEL := Lib.hid (fun k (hk : k < n) => in_el has (k := k) hk)
  clear has
  have q0 : At w (OB [] (STS [] emp)) w := OB.start (Below.refl w.heap.size w)
  go_enter Try.func8, Try.ntmps8
  go_wp2_with (first
    | (go_at_call 9; (with_reducible refine (awake20 P _).mono ?_); rintro r w1 ⟨rfl, hb⟩; have q1 := OB.lay (STS.good emp_good) q0 hb; clear hb)
    | (go_at_call 14; (with_reducible refine (lplain _).mono ?_); rintro e w2 ⟨rfl, hb⟩; have q2 : At w (OB [(w2.heap.size, cfC cfP, TCf)] (STS [] emp)) (w2.alloc (.cells (cfC cfP) TCf)) := OB.hold (STS.good emp_good) (OB.lay (STS.good emp_good) q1 hb) (cfC cfP) TCf rfl; clear hb)
    | (go_at_call 15; (with_reducible refine (obegun P emp_good q2 (MoreIn.nil _) spS_is.1 spS_is.2).mono ?_); rintro e w3 ⟨h0, rfl, qa⟩; have q3 : At w (OB [(w2.heap.size, cfC cfP, TCf), (w3.heap.size, stN 1 0 0 h0 2 0 3 0, TSt)] (STS [(h0, spS 0 [])] emp)) (w3.alloc (.cells (stN 1 0 0 h0 2 0 3 0) TSt)) := OB.hold (STS.good emp_good) qa (stN 1 0 0 h0 2 0 3 0) TSt rfl; clear qa))
  have q4 : At w (OB [(w2.heap.size, cfC cfP, TCf), (w3.heap.size, stN 1 0 0 h0 2 0 3 0, TSt)] (STS [(h0, spS 0 [])] (SpR none 0 []))) (w3.alloc (.cells (stN 1 0 0 h0 2 0 3 0) TSt)) := ((At.erow0 TIn 1 q3).imp (OB.dn _ _ _)).imp (OB.under (STS.dn _ _ _))
  clear q0 q1 q2 q3
  generalize w3.alloc (.cells (stN 1 0 0 h0 2 0 3 0) TSt) = W4 at *
  generalize w2.heap.size = b1 at *
  generalize w3.heap.size = b2 at *
  have HQ := Lib.hid q4
  clear q4
  go_loopw [6, 7, 8] (fun row ep i wr => ∃ (k m : Nat) (sp : List Int) (a : Option Addr) (cp : Nat) (h : Sv), k ≤ n ∧ k ≤ 40 ∧ m ≤ k ∧ sp.length ≤ k ∧ SpW sp ∧ i = .int .i64 (k : Int) ∧ ep = .int .i64 (m : Int) ∧ row = .slice a sp.length cp ∧ Aside (At w (OB [(b1, cfC cfP, TCf), (b2, stN 1 (m : Int) 0 h 2 0 3 sp.length, TSt)] (STS [(h, spS (m : Int) sp)] (SpR a cp sp))) wr)) (fun _ _ i _ => 40 - (intOf i).toNat)
  case atStart => exact ⟨0, 0, [], none, 0, h0, Nat.zero_le _, by decide, Nat.le_refl _, Nat.le_refl _, (fun x hx => by cases hx), rfl, rfl, rfl, (show Aside _ from HQ.out)⟩
  case round =>
    clear HQ
    obtain ⟨k, m, sp, a, cp, h, hkn, hk40, hm, hsl, hsw, rfl, rfl, rfl, hall⟩ := hrel
    have q := hall.out
    clear hall
    by_cases hlt : k < n ∧ k < 40
    · obtain ⟨hltn, hlt40⟩ := hlt
      have hltI : (k : Int) < (n : Int) := by omega
      have hltJ : (k : Int) < 40 := by omega
      obtain ⟨b, off, x, rfl, hx, hcell⟩ := HEL.out k hltn
      have hc := hcell _ q.bel
      clear hcell hx
      have kc := OB.at q (i := 0) rfl
      have ec := kc.cell
      have ks := OB.at q (i := 1) rfl
      have es1 := ks.cell
      have gs := ks.froz
      clear kc ks
      obtain ⟨m7, h7⟩ : ∃ m7, bits .and .i64 x 7 = m7 := ⟨_, rfl⟩
      by_cases hx7 : m7 = 7
      · subst hx7
        have HS := Lib.hid (sp_rot (ep := (m : Int)) (sp := sp) (by omega))
        have hwm : IntKind.i64.wrap ((m : Int) + 1) = (m : Int) + 1 := by rw [IntKind.wrap_i64]; omega
        go_wp2_with (first
          | (go_at_call 13; (with_reducible refine (P.oapplyA (spR_good _ _ _) q (i := 0) rfl (spS_sm hsw (by omega) (by omega)) (stN 1 (m : Int) 0 h 2 0 3 sp.length) rfl HS.out.1 HS.out.2).mono ?_); rintro r w5 ⟨h5, rfl, qa⟩; have q5 : At w (OB [(b1, cfC cfP, TCf), (b2, stN 1 (m : Int) 0 h 2 0 3 sp.length, TSt), (w5.heap.size, stN 1 ((m : Int) + 1) 0 h5 2 0 3 sp.length, TSt)] (STS [(h5, spS ((m : Int) + 1) sp), (h, spS (m : Int) sp)] (SpR a cp sp))) (w5.alloc (.cells (stN 1 ((m : Int) + 1) 0 h5 2 0 3 sp.length) TSt)) := OB.hold (STS.good (spR_good _ _ _)) qa (stN 1 ((m : Int) + 1) 0 h5 2 0 3 sp.length) TSt rfl; clear qa; have e5 := (OB.at q5 (i := 1) rfl).cell; have g5 := (OB.at q5 (i := 1) rfl).froz; have q6 := OB.put7 (STS.good (spR_good _ _ _)) q5 (i := 1) rfl (.int .i64 1) (.int .i64 ((m : Int) + 1)) (.int .i64 0) (.slice h5.u 2 h5.uc) (.slice h5.s 0 h5.sc) (.slice h5.p 3 h5.pc) (.slice h5.i sp.length h5.ic); have f6 := (OB.at q6 (i := 1) rfl).cell; have HQ6 := Lib.hid q6; clear q6 q5)
          | (go_at_call 19; (with_reducible refine (in_yes (show InIn [] _ h5.i sp.length sp from (STS.at HQ6.out (i := 0) rfl (spS_sm (k := 0) hsw (by omega) (by omega))).sp) (SpR.in HQ6.out (by omega))).mono ?_); rintro r w6 ⟨rfl, hb⟩; have q7 : At w (OB [(b1, cfC cfP, TCf), (b2, stN 1 ((m : Int) + 1) 0 h5 2 0 3 sp.length, TSt)] (STS [(h5, spS ((m : Int) + 1) sp)] (SpR a cp sp))) w6 := STS.drop 1 rfl (OB.drop 2 rfl (OB.lay (STS.good (spR_good _ _ _)) HQ6.out hb)); have f7 := (OB.at q7 (i := 1) rfl).cell; have HQ7 := Lib.hid q7; clear q7 hb)
          | (go_at_call 11; (with_reducible refine (lnum _ _).mono ?_); rintro r wn ⟨rfl, rfl⟩))
        go_roundw
        case rel => exact ⟨k + 1, m + 1, sp, a, cp, h5, by omega, by omega, by omega, by omega, hsw, by go_num, by go_num, rfl, (show Aside _ from HQ7.out)⟩
        case measure => simp [intOf]; omega
      · have hn7 : (m7 == 7) = false := by simpa using hx7
        obtain ⟨kk, hkk, kk0, kk1⟩ := and15 (x / 8)
        have HIN := Lib.hid (fun (j : Nat) (hj : j < sp.length) => in_el (SpR.in q (by omega)) hj)
        have HQ := Lib.hid q
        clear q
        go_wp2
        go_loopw [12, 13] (fun had j wq => ∃ j' : Nat, j' ≤ sp.length ∧ j = .int .i64 (j' : Int) ∧ had = .bool ((sp.take j').contains kk) ∧ wq = wr) (fun _ j _ => sp.length - (intOf j).toNat)
        case atStart => exact ⟨0, Nat.zero_le _, rfl, rfl, rfl⟩
        case round =>
          obtain ⟨j, hj, rfl, rfl, rfl⟩ := hrel
          by_cases hjl : j < sp.length
          · have hjI : (j : Int) < (sp.length : Int) := by omega
            obtain ⟨b', off', y, rfl, hy, hcy⟩ := HIN.out j hjl
            have hcy := hcy _ (Below.refl _ _)
            have hnx := take_contains hjl hy kk
            have HNX := Lib.hid hnx
            clear hnx hy
            cases hh : (sp.take j).contains kk with
            | true =>
              rw [hh] at HNX
              clear hh
              go_wp2
              go_round
              case rel => exact ⟨j + 1, by omega, by go_num, by rw [HNX.out]; rfl, trivial⟩
              case measure => simp [intOf]; omega
            | false =>
              rw [hh] at HNX
              clear hh
              go_wp2
              go_round
              case rel => exact ⟨j + 1, by omega, by go_num, by rw [HNX.out, Bool.false_or], trivial⟩
              case measure => simp [intOf]; omega
          · obtain rfl : j = sp.length := by omega
            have hjI : ¬ (sp.length : Int) < (sp.length : Int) := by omega
            rw [List.take_length]
            have q := HQ.out
            have ec := (OB.at q (i := 0) rfl).cell
            have es1 := (OB.at q (i := 1) rfl).cell
            have gs := (OB.at q (i := 1) rfl).froz
            clear hj
            cases hh : sp.contains kk with
            | true =>
              have HS := Lib.hid (sp_had (ep := (m : Int)) (sp := sp) kk0 kk1 hh)
              clear hh
              go_wp2_with (first
                | (go_at_call 13; (with_reducible refine (P.oapplyA (e := ⟨9, 0, kk, 0, 0, 0, 0, 0⟩) (spR_good _ _ _) q (i := 0) rfl (spS_sm hsw (by omega) (by omega)) (stN 1 (m : Int) 0 h 2 0 3 sp.length) rfl HS.out.1 HS.out.2).mono ?_); rintro r w5 ⟨h5, rfl, qa⟩; have q5 : At w (OB [(b1, cfC cfP, TCf), (b2, stN 1 (m : Int) 0 h 2 0 3 sp.length, TSt)] (STS [(h, spS (m : Int) sp)] (SpR a cp sp))) (w5.alloc (.cells (stN 0 0 0 h5 0 0 0 0) TSt)) := OB.lay1 (STS.good (spR_good _ _ _)) (STS.drop 0 rfl qa) _; clear qa; have f6 := (OB.at q5 (i := 1) rfl).cell; have HQ6 := Lib.hid q5; clear q5)
                | (go_at_call 19; (with_reducible refine (in_yes (show InIn [] _ h.i sp.length sp from (STS.at HQ6.out (i := 0) rfl (spS_sm (k := 0) hsw (by omega) (by omega))).sp) (SpR.in HQ6.out (by omega))).mono ?_); rintro r w6 ⟨rfl, hb⟩; have q7 := OB.lay (STS.good (spR_good _ _ _)) HQ6.out hb; have f7 := (OB.at q7 (i := 1) rfl).cell; have HQ7 := Lib.hid q7; clear q7 hb)
                | (go_at_call 11; (with_reducible refine (lnum _ _).mono ?_); rintro r wn ⟨rfl, rfl⟩))
              go_roundw
              case rel => exact ⟨k + 1, m, sp, a, cp, h, by omega, by omega, by omega, by omega, hsw, by go_num, rfl, rfl, (show Aside _ from HQ7.out)⟩
              case measure => simp [intOf]; omega
            | false =>
              have HS := Lib.hid (sp_put (ep := (m : Int)) (sp := sp) kk0 kk1 hh)
              clear hh
              have hlen : (sp ++ [kk]).length = sp.length + 1 := by simp
              go_wp2_with (first
                | (go_at_call 13; (with_reducible refine (P.oapplyA (e := ⟨9, 0, kk, 0, 0, 0, 0, 0⟩) (spR_good _ _ _) q (i := 0) rfl (spS_sm hsw (by omega) (by omega)) (stN 1 (m : Int) 0 h 2 0 3 sp.length) rfl HS.out.1 HS.out.2).mono ?_); rintro r w5 ⟨h5, rfl, qa⟩; have q5 : At w (OB [(b1, cfC cfP, TCf), (b2, stN 1 (m : Int) 0 h 2 0 3 sp.length, TSt), (w5.heap.size, stN 1 (m : Int) 0 h5 2 0 3 (sp.length + 1), TSt)] (STS [(h5, spS (m : Int) (sp ++ [kk])), (h, spS (m : Int) sp)] (SpR a cp sp))) (w5.alloc (.cells (stN 1 (m : Int) 0 h5 2 0 3 (sp.length + 1)) TSt)) := OB.hold (STS.good (spR_good _ _ _)) qa (stN 1 (m : Int) 0 h5 2 0 3 (sp.length + 1)) TSt rfl; clear qa; have HQ5 := Lib.hid (SpR.row q5); clear q5)
                | (at_builtin; refine in_appLit2 (OB.good (STS.good emp_good)) rfl _ _ rfl a sp.length cp sp [kk] 1 rfl rfl (by simp) rfl rfl HQ5.out (by omega) ?_; intro a6 c6 w6 hA; have q6 : At w (OB [(b1, cfC cfP, TCf), (b2, stN 1 (m : Int) 0 h 2 0 3 sp.length, TSt), (w5.heap.size, stN 1 (m : Int) 0 h5 2 0 3 (sp.length + 1), TSt)] (STS [(h5, spS (m : Int) (sp ++ [kk])), (h, spS (m : Int) sp)] (SpR a6 c6 (sp ++ [kk])))) w6 := SpR.of (by rw [hlen]; rw [hlen] at hA; exact hA); clear hA; have e6 := (OB.at q6 (i := 1) rfl).cell; have g6 := (OB.at q6 (i := 1) rfl).froz; have d6 := (OB.at q6 (i := 2) rfl).cell; have q8 := OB.put7 (STS.good (spR_good _ _ _)) q6 (i := 1) rfl (.int .i64 1) (.int .i64 (m : Int)) (.int .i64 0) (.slice h5.u 2 h5.uc) (.slice h5.s 0 h5.sc) (.slice h5.p 3 h5.pc) (.slice h5.i (sp.length + 1) h5.ic); have f8 := (OB.at q8 (i := 1) rfl).cell; have i1 : InIn [] _ h5.i (sp ++ [kk]).length (sp ++ [kk]) := (STS.at q8 (i := 0) rfl (spS_sm (k := 0) (hsw.snoc kk0 kk1) (by omega) (by rw [hlen]; omega))).sp; have i2 := SpR.in q8 (by rw [hlen]; omega); rw [hlen] at i1 i2; have HI := Lib.hid (And.intro i1 i2); have HQ8 := Lib.hid q8; clear q8 q6 i1 i2)
                | (go_at_call 19; (with_reducible refine (in_yes HI.out.1 HI.out.2).mono ?_); rintro r w7 ⟨rfl, hb⟩; have q7 : At w (OB [(b1, cfC cfP, TCf), (b2, stN 1 (m : Int) 0 h5 2 0 3 (sp.length + 1), TSt)] (STS [(h5, spS (m : Int) (sp ++ [kk]))] (SpR a6 c6 (sp ++ [kk])))) w7 := STS.drop 1 rfl (OB.drop 2 rfl (OB.lay (STS.good (spR_good _ _ _)) HQ8.out hb)); have f7 := (OB.at q7 (i := 1) rfl).cell; have HQ7 := Lib.hid q7; clear q7 hb)
                | (go_at_call 11; (with_reducible refine (lnum _ _).mono ?_); rintro r wn ⟨rfl, rfl⟩))
              go_roundw
              case rel => exact ⟨k + 1, m, sp ++ [kk], a6, c6, h5, by omega, by omega, by omega, by rw [hlen]; omega, hsw.snoc kk0 kk1, by go_num, rfl, by rw [hlen], (show Aside _ from by rw [hlen]; exact HQ7.out)⟩
              case measure => simp [intOf]; omega
    · have hcond : ¬ ((k : Int) < (n : Int) ∧ (k : Int) < 40) := by omega
      have HQ := Lib.hid q
      clear q
      by_cases h1 : (k : Int) < (n : Int)
      · have h2 : ¬ (k : Int) < 40 := fun c => hcond ⟨h1, c⟩
        clear hcond
        go_wp2
        go_ret
        exact ⟨rfl, HQ.out.bel⟩
      · clear hcond
        go_wp2
        go_ret
        exact ⟨rfl, HQ.out.bel⟩
end Go.Proofs.Ytopkcaflmpjhgaa
