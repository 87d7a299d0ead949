/- Put together: Tdj, Tdl. Conditions: each theorem's own. -/
import Derived.Test.YtopkcaflmpjhgaaGreatBtg
import Derived.Test.YtopkcaflmpjhgaaGreatBth
import Derived.Test.YtopkcaflmpjhgaaGreatBsv
import Derived.Deep.MidRow
import Derived.Deep.CutBlock
namespace Go.Proofs.YtopkcaflmpjhgaaGreat
open Go Go.RowKit Go.Maps

theorem td_none (D : Ass) (h : Sv) (s : St) : (StA h s D).imp ((spA none s.sp).star (StA h s D)) := fun _ F hF => ⟨F, ⟨[], F, rfl, rfl, hF, fun _ hk => by cases hk⟩, fun _ => Iff.rfl⟩
/-- No state. -/
theorem st_zero {w0 W : World} {C : Ass} (q : At w0 C W) : At w0 (StA .none .none C) W := At.erow0 TUs 9 (At.erow0 TSe 4 (At.erow0 TPa 3 (At.erow0 TIn 1 q)))
theorem wr7 {w0 W : World} {C : Ass} {b : Nat} {d : Array Value} {T : TypeId} (hC : C.Good) (q : At w0 ((ownA b d T).star C) W) (v0 v1 v2 v3 v4 v5 v6 : Value) :
    At w0 C (((((((W.setCell ⟨b, 0, none⟩ v0).setCell ⟨b, 1, none⟩ v1).setCell ⟨b, 2, none⟩ v2).setCell ⟨b, 3, none⟩ v3).setCell ⟨b, 4, none⟩ v4).setCell ⟨b, 5, none⟩ v5).setCell ⟨b, 6, none⟩ v6) :=
  (((((((q.poke hC 0 v0).poke hC 1 v1).poke hC 2 v2).poke hC 3 v3).poke hC 4 v4).poke hC 5 v5).poke hC 6 v6).drop
/-- Cells laid over a block of one's own. -/
def putL (d : Array Value) : Nat → List Value → Array Value
  | _, [] => d
  | o, v :: r => putL (d.setIfInBounds o v) (o + 1) r
theorem putL_list (vs : List Value) : ∀ (d : Array Value) (o : Nat), o + vs.length ≤ d.size → (putL d o vs).toList = d.toList.take o ++ vs ++ d.toList.drop (o + vs.length) := by
  induction vs with
  | nil => intro d o h; simp [putL]
  | cons v r ih =>
    intro d o h
    simp only [List.length_cons] at h
    have hs : (d.setIfInBounds o v).size = d.size := by simp
    rw [putL, ih _ _ (by rw [hs]; omega), Array.toList_setIfInBounds]
    have hl : o < d.toList.length := by rw [Array.length_toList]; omega
    rw [List.set_eq_take_append_cons_drop, if_pos hl]
    have h1 : (d.toList.take o).length = o := by rw [List.length_take]; omega
    rw [show d.toList.take o ++ v :: d.toList.drop (o + 1) = (d.toList.take o ++ [v]) ++ d.toList.drop (o + 1) by simp]
    rw [show o + 1 = (d.toList.take o ++ [v]).length by simp [h1], List.take_left, List.length_append, List.length_singleton, h1]
    rw [show o + 1 + r.length = (d.toList.take o ++ [v]).length + r.length by simp [h1], List.drop_append, List.length_cons]
    simp [h1, Nat.add_assoc, Nat.add_comm 1]
theorem putL_all {vs : List Value} {d : Array Value} (h : vs.length = d.size) : putL d 0 vs = vs.toArray := by
  apply Array.toList_inj.1
  rw [putL_list _ _ _ (by omega)]
  simp [h]
theorem At.pokes {w0 : World} {C : Ass} {b : Nat} {T : TypeId} (hC : C.Good) (vs : List Value) : ∀ (d : Array Value) (o : Nat) (W : World), At w0 ((ownA b d T).star C) W → At w0 ((ownA b (putL d o vs) T).star C) (W.setCells b o vs) := by
  induction vs with
  | nil => intro d o W q; exact q
  | cons v r ih => intro d o W q; exact ih _ _ _ (q.poke hC o v)
theorem td_storeC {w0 W : World} {C : Ass} {ops : Array Oper} {rest : List Oper} {o : Oper} {a : Act} {Q : Exit → Act → World → Prop} (hC : C.Good) (hgd : o.guard = .none) (x y : Operand) (ho : o.op = .store TTd x y) (hd : o.dst = .none) {b : Nat} {d v : Array Value} (hx : a.eval x = .pointer (some ⟨b, 0, .none⟩)) (hy : a.eval y = .agg v) (hv : v.size = 20) (h1 : v.all (·.oneCell') = true) (hds : d.size = 20)
    (hS : At w0 ((ownA b d TTd).star C) W) (h : ∀ W', At w0 ((ownA b v TTd).star C) W' → wpList Tryz.prog ops Q rest a W') : wpList Tryz.prog ops Q (o :: rest) a W := by
  have q := At.pokes hC v.toList d 0 W hS
  rw [putL_all (by rw [Array.length_toList, hv, hds])] at q
  have hN := h _ q
  have hi : (Tryz.prog.info? TTd).map (·.size) = some v.size := by rw [hv]; kernel_rfl
  refine wpList_store_mid hgd TTd x y ho b 0 v hx hy (fun j hj => ?_) hi h1 ?_
  · obtain ⟨k1, k2, k3⟩ := hS.own
    rw [Nat.zero_add, k1 j, k2 j]
    exact ⟨by rw [Array.getElem?_eq_getElem (by omega)]; rfl, rfl⟩
  · rw [hd]
    exact hN
theorem tdbuild (c : Cf) (h : Sv) (s : St) (w : World) : (Instr.build TTd #[(0, .agg (cfC c)), (1, .agg (stC h s))]).run Tryz.prog w = .ok (.agg (tdC c h s none)) w := run_build w TTd _ _ (by kernel_rfl)
section
variable {w0 W : World} {C : Ass} {c : Cf} {h : Sv} {s : St}
set_option maxRecDepth 100000 in
set_option maxHeartbeats 16000000 in
theorem ttell (hC : C.Good) (q : At w0 (StA h s C) W) {ao : Option Addr} {n cap : Nat} {es : List Ev} (hev : ∀ V, At w0 C V → EvIn [] V ao n es) (hnl : n = es.length) (hsm : s.sm n) (hn : n ≤ 2199023255552) {E : Int} {S : St} (hE : stRun c es s = (E, S)) :
    Calls Tryz.prog 20 #[.agg (cfC c), .agg (stC h s), .slice ao n cap] W fun e w' => ∃ h' : Sv, e = .returned (.tuple #[.agg (stC h' S), .int .i64 E]) ∧ At w0 (StA h' S C) w' := by
  have hD : ((ownA (W.heap.size + 1 + 1) stZ TSt).star C).Good := (ownA_good _ _ _).star hC
  have q1 := At.lay1 (StA_good hC) q (.cells (cfC c) TCf)
  have q2 := At.lay1 (StA_good hC) q1 (.cells (stC h s) TSt)
  have q3 := (At.hold (StA_good hC) q2 stZ TSt).imp (st_in h s _ C)
  have q4 := At.hold (StA_good ((ownA_good _ _ _).star hC)) q3 #[.int .i64 0, .int .i64 0, .int .i64 0, .int .i64 0, .int .i64 0, .int .i64 0, .int .i64 0, .int .i64 0, .int .i64 0, .int .i64 0, .int .i64 0, .int .i64 0, .int .i64 0, .int .i64 0, .int .i64 0, .slice none 0 0, .slice none 0 0, .slice none 0 0, .slice none 0 0, .map none] TTd
  simp only [World.size_alloc] at q3 q4
  have HQ3 := Lib.hid q4
  have HEV := Lib.hid hev
  have HNL := Lib.hid hnl
  have HSM := Lib.hid hsm
  have HE := Lib.hid hE
  have HD := Lib.hid hD
  clear q q1 q2 q3 q4 hev hnl hsm hE hD
  have hbd := tdbuild c h s
  go_enter Tryz.func20, Tryz.ntmps20
  go_wp2_with (refine td_storeC (v := tdC c h s none) (StA_good HD.out) rfl _ _ rfl rfl rfl rfl rfl (by kernel_rfl) rfl HQ3.out ?_; intro W4 hW4; have HQ4 := Lib.hid (show At w0 (TD (W.heap.size + 1 + 1 + 1) c h s none ((ownA (W.heap.size + 1 + 1) stZ TSt).star C)) W4 from hW4.imp ((td_none _ h s).under _)); clear hW4 HQ3)
  generalize W.heap.size + 1 + 1 + 1 = p at *
  generalize W.heap.size + 1 + 1 = b6 at *
  go_loopw [16] (fun i wr => ∃ (k : Nat) (s' : St) (h' : Sv) (m : Option Nat), k ≤ n ∧ i = .int .i64 (k : Int) ∧ stRun c (es.drop k) s' = (E, S) ∧ s'.sm (n - k) ∧ Aside (At w0 (TD p c h' s' m ((ownA b6 stZ TSt).star C)) wr)) (fun i _ => n - (intOf i).toNat)
  case atStart => exact ⟨0, s, h, none, Nat.zero_le _, rfl, HE.out, HSM.out, (show Aside _ from HQ4.out)⟩
  case round =>
    clear HQ4 HSM HE
    obtain ⟨k, s', h', m, hk, rfl, hF, hm, hall⟩ := hrel
    have q := hall.out
    clear hall
    by_cases hlt : k < n
    · have hltI : (k : Int) < (n : Int) := by omega
      obtain ⟨b, off, e, rfl, he, hcell⟩ := ev_el (HEV.out _ (TD.none q).drop) hlt
      have hstep := stRun_step (c := c) (es := es) (k := k) (by rw [← HNL.out]; exact hlt) he s'
      rw [hstep] at hF
      obtain ⟨f0, f1, f2, f3, f4, f5, f6, f7⟩ := e
      dsimp only at hcell
      obtain ⟨x0, x1, x2, x3, x4, x5, x6, x7⟩ := hcell _ (Below.refl _ _)
      clear hcell hstep he
      have q5 := At.lay1 (TD_good HD.out) q (.cells (evA ⟨f0, f1, f2, f3, f4, f5, f6, f7⟩) TEv)
      have k5 := Blk.new wr (evA ⟨f0, f1, f2, f3, f4, f5, f6, f7⟩) TEv
      have HM := Lib.hid (tmay HD.out q5 ⟨f0, f1, f2, f3, f4, f5, f6, f7⟩)
      have HQ5 := Lib.hid q5
      have HK5 := Lib.hid k5
      clear q q5 k5
      cases hok : stOk c s' ⟨f0, f1, f2, f3, f4, f5, f6, f7⟩ with
      | false =>
        have h1 : stAE c s' ⟨f0, f1, f2, f3, f4, f5, f6, f7⟩ = 2000 := by unfold stAE; rw [hok]; rfl
        rw [h1, if_neg (by decide)] at hF
        obtain ⟨rfl, rfl⟩ : 2000 = E ∧ St.none = S := by simpa using hF
        rw [hok] at HM
        clear hF hok h1
        go_wp2_with (go_at_call 41; (with_reducible refine HM.out.mono ?_); rintro r w1 ⟨rfl, hb⟩; have q6 := (TD.none (HQ5.out.lay (TD_good HD.out) hb)); have e6 := q6.own.1; have g6 := q6.own.2.1; have l6 := q6.own.2.2; have HX := Lib.hid (wr7 hC q6 (.int .i64 0) (.int .i64 0) (.int .i64 0) (.slice none 0 0) (.slice none 0 0) (.slice none 0 0) (.slice none 0 0)); clear q6 hb)
        refine bodyPost_ret (v := .tuple #[.agg (stC .none .none), .int .i64 2000]) (by simp [*, St.none, results, Tryz.results20, go_sem]) rfl ⟨.none, rfl, ?_⟩
        exact st_zero HX.out
      | true =>
        have hok' := hok
        unfold stOk at hok'
        simp only [Bool.and_eq_true, decide_eq_true_eq] at hok'
        rw [hok] at HM
        have HT := Lib.hid (fun (V : World) (qv : At w0 (TD p c h' s' m ((ownA b6 stZ TSt).star C)) V) => tturn (e := ⟨f0, f1, f2, f3, f4, f5, f6, f7⟩) HD.out qv (hm.le (by omega)) hok'.1.1 hok'.1.2)
        cases hev2 : stEv c s' ⟨f0, f1, f2, f3, f4, f5, f6, f7⟩ with
        | none =>
          have h1 : stAE c s' ⟨f0, f1, f2, f3, f4, f5, f6, f7⟩ = 2001 := by unfold stAE; rw [hok, hev2]; rfl
          rw [h1, if_neg (by decide)] at hF
          obtain ⟨rfl, rfl⟩ : 2001 = E ∧ St.none = S := by simpa using hF
          rw [hev2] at HT
          clear hF hok h1 hok' hev2 hm
          go_wp2_with (first
            | (go_at_call 41; (with_reducible refine HM.out.mono ?_); rintro r w1 ⟨rfl, hb⟩; have HQ6 := Lib.hid (HQ5.out.lay (TD_good HD.out) hb); have k6 := (HK5.out.step hb).cell; clear hb)
            | (go_at_call 42; (with_reducible refine (HT.out _ HQ6.out).mono ?_); rintro r w2 hr; obtain ⟨rfl, q6⟩ := hr; have e6 := q6.own.1; have g6 := q6.own.2.1; have l6 := q6.own.2.2; have HX := Lib.hid (wr7 hC q6 (.int .i64 0) (.int .i64 0) (.int .i64 0) (.slice none 0 0) (.slice none 0 0) (.slice none 0 0) (.slice none 0 0)); clear q6))
          refine bodyPost_ret (v := .tuple #[.agg (stC .none .none), .int .i64 2001]) (by simp [*, St.none, results, Tryz.results20, go_sem]) rfl ⟨.none, rfl, ?_⟩
          exact st_zero HX.out
        | some t =>
          have h1 : stAE c s' ⟨f0, f1, f2, f3, f4, f5, f6, f7⟩ = 0 := by unfold stAE; rw [hok, hev2]; rfl
          have h2 : stAS c s' ⟨f0, f1, f2, f3, f4, f5, f6, f7⟩ = t := by unfold stAS; rw [hok, hev2]; rfl
          rw [h1, if_pos rfl, h2] at hF
          have HF := Lib.hid hF
          have HTS := Lib.hid (show t.sm (n - (k + 1)) by rw [← h2]; exact stAS_sm (hm.le (by omega)) h1)
          rw [hev2] at HT
          clear hF hok h1 h2 hok' hev2 hm
          go_wp2_with (first
            | (go_at_call 41; (with_reducible refine HM.out.mono ?_); rintro r w1 ⟨rfl, hb⟩; have HQ6 := Lib.hid (HQ5.out.lay (TD_good HD.out) hb); have k6 := (HK5.out.step hb).cell; clear hb)
            | (go_at_call 42; (with_reducible refine (HT.out _ HQ6.out).mono ?_); rintro r w2 hr; obtain ⟨rfl, h7, m7, q7⟩ := hr; have HQ7 := Lib.hid q7; clear q7))
          go_roundw
          case rel => exact ⟨k + 1, t, h7, m7, by omega, by go_num, HF.out, HTS.out, (show Aside _ from HQ7.out)⟩
          case measure => simp [intOf]; omega
    · obtain rfl : k = n := by omega
      have hltI : ¬ (k : Int) < (k : Int) := by omega
      rw [HNL.out, List.drop_length] at hF
      obtain ⟨rfl, rfl⟩ : 0 = E ∧ s' = S := by simpa [stRun] using hF
      have kt := TD.blk q
      have et := kt.cell
      have q6 := (TD.st q).imp (st_out h' s' _ C)
      have e6 := q6.own.1
      have g6 := q6.own.2.1
      have l6 := q6.own.2.2
      have HX := Lib.hid (wr7 (StA_good hC) q6 (.int .i64 s'.b) (.int .i64 s'.e) (.int .i64 s'.n) (.slice h'.u s'.us.length h'.uc) (.slice h'.s s'.ss.length h'.sc) (.slice h'.p s'.ad.length h'.pc) (.slice h'.i s'.sp.length h'.ic))
      clear hF hlt hk q q6 kt
      go_wp2
      refine bodyPost_ret (v := .tuple #[.agg (stC h' s'), .int .i64 0]) (by simp [*, results, Tryz.results20, go_sem]) rfl ⟨h', rfl, ?_⟩
      exact HX.out
end
end Go.Proofs.YtopkcaflmpjhgaaGreat

namespace Go.Proofs.YtopkcaflmpjhgaaGreat
open Go Go.RowKit Go.Maps

theorem rev4 (A B C D E : Ass) : (A.star (B.star (C.star (D.star E)))).imp (D.star (C.star (B.star (A.star E)))) :=
  (Ass.imp.up3 A B C D E).trans (((Ass.imp.up2 A B C E).trans ((Ass.imp.swap A B E).under C)).under D)
theorem evIn_own {V : World} {b : Nat} {e : Ev} (k : Blk V b (evA e)) : EvIn [] V (some ⟨b, 0, none⟩) 1 [e] := by
  refine ⟨rfl, .inr ⟨b, 0, rfl, fun i u hu => ?_, by simp, k.lt⟩, by decide⟩
  rw [Nat.zero_add, k.cell, ← hu]
  simp [evCells, Ev.cs]
theorem stRun_one (c : Cf) (s : St) (e : Ev) : stRun c [e] s = (stAE c s e, stAS c s e) := by
  unfold stRun
  by_cases h : stAE c s e = 0
  · rw [if_pos h, h]; rfl
  · rw [if_neg h, stAS_no h]
set_option maxRecDepth 100000 in
set_option maxHeartbeats 16000000 in
theorem tapply {w : World} {h : Sv} {c : Cf} {s : St} {e : Ev} (hi : StIn w h s) (hm : s.sm 1) : Calls Tryz.prog 13 #[.agg (cfC c), .agg (stC h s), .agg (evA e)] w (StOut w (stAS c s e) (stAE c s e)) := by
  obtain ⟨f0, f1, f2, f3, f4, f5, f6, f7⟩ := e
  obtain ⟨hu, huc, hs, hsc, hp, hpc, hx, hxc⟩ := h
  have hq := ob4 emp_good (At.none (Below.refl w.heap.size w)) (cfC c) (stC ⟨hu, huc, hs, hsc, hp, hpc, hx, hxc⟩ s) (evA ⟨f0, f1, f2, f3, f4, f5, f6, f7⟩) stZ TCf TSt TEv TSt
  have HI := Lib.hid hi
  have HM := Lib.hid hm
  have HR := Lib.hid (stRun_one c s ⟨f0, f1, f2, f3, f4, f5, f6, f7⟩)
  obtain ⟨E, hE⟩ : ∃ E, stAE c s ⟨f0, f1, f2, f3, f4, f5, f6, f7⟩ = E := ⟨_, rfl⟩
  obtain ⟨S, hS⟩ : ∃ S, stAS c s ⟨f0, f1, f2, f3, f4, f5, f6, f7⟩ = S := ⟨_, rfl⟩
  rw [hE, hS] at HR
  rw [hE, hS]
  clear hE hS
  have HQ := Lib.hid hq
  clear hi hm hq
  go_enter Tryz.func13, Tryz.ntmps13
  go_wp2_with (first
    | (go_at_call 26; (with_reducible refine (tclU (OB.good emp_good) (us_on HI.out.us HQ.out.bel) HI.out.cu HI.out.fu HQ.out).mono ?_); rintro r w1 ⟨ua, uc, rfl, qa⟩; have q1 := qa.imp (OB.dn _ _ _); clear qa; have k1 := OB.at q1 (i := 1) rfl; have e1 := k1.cell; have g1 := k1.froz; have l1 := k1.lt; have HQ1 := Lib.hid (show At w (OB [(w.heap.size, cfC c, TCf), (w.heap.size + 1, #[.int .i64 s.b, .int .i64 s.e, .int .i64 s.n, .slice ua s.us.length uc, .slice hs s.ss.length hsc, .slice hp s.ad.length hpc, .slice hx s.sp.length hxc], TSt), (w.heap.size + 1 + 1, evA ⟨f0, f1, f2, f3, f4, f5, f6, f7⟩, TEv), (w.heap.size + 1 + 1 + 1, stZ, TSt)] ((rowE TUs 9 (.slice ua s.us.length uc) s.us.length (usCells s.us)).star emp)) _ from OB.poke ((rowE_good _ _ _ _ _).star emp_good) q1 1 rfl 3 (.slice ua s.us.length uc)); clear q1 k1; have e1b := (OB.at HQ1.out (i := 1) rfl).cell)
    | (go_at_call 27; (with_reducible refine (tclS (OB.good ((rowE_good _ _ _ _ _).star emp_good)) (se_on HI.out.ss HQ1.out.bel) HI.out.cs HI.out.fs HQ1.out).mono ?_); rintro r w2 ⟨sa, sc, rfl, qa⟩; have q2 := qa.imp (OB.dn _ _ _); clear qa e1 g1 l1 e1b; have k2 := OB.at q2 (i := 1) rfl; have e2 := k2.cell; have g2 := k2.froz; have l2 := k2.lt; have HQ2 := Lib.hid (show At w (OB [(w.heap.size, cfC c, TCf), (w.heap.size + 1, #[.int .i64 s.b, .int .i64 s.e, .int .i64 s.n, .slice ua s.us.length uc, .slice sa s.ss.length sc, .slice hp s.ad.length hpc, .slice hx s.sp.length hxc], TSt), (w.heap.size + 1 + 1, evA ⟨f0, f1, f2, f3, f4, f5, f6, f7⟩, TEv), (w.heap.size + 1 + 1 + 1, stZ, TSt)] ((rowE TSe 4 (.slice sa s.ss.length sc) s.ss.length (seCells s.ss)).star ((rowE TUs 9 (.slice ua s.us.length uc) s.us.length (usCells s.us)).star emp))) _ from OB.poke ((rowE_good _ _ _ _ _).star ((rowE_good _ _ _ _ _).star emp_good)) q2 1 rfl 4 (.slice sa s.ss.length sc)); clear q2 k2; have e2b := (OB.at HQ2.out (i := 1) rfl).cell)
    | (go_at_call 28; (with_reducible refine (tclP (OB.good ((rowE_good _ _ _ _ _).star ((rowE_good _ _ _ _ _).star emp_good))) (pa_on HI.out.ad HQ2.out.bel) HI.out.ca HI.out.fa HQ2.out).mono ?_); rintro r w3 ⟨pa, pc, rfl, qa⟩; have q3 := qa.imp (OB.dn _ _ _); clear qa e2 g2 l2 e2b; have k3 := OB.at q3 (i := 1) rfl; have e3 := k3.cell; have g3 := k3.froz; have l3 := k3.lt; have HQ3 := Lib.hid (show At w (OB [(w.heap.size, cfC c, TCf), (w.heap.size + 1, #[.int .i64 s.b, .int .i64 s.e, .int .i64 s.n, .slice ua s.us.length uc, .slice sa s.ss.length sc, .slice pa s.ad.length pc, .slice hx s.sp.length hxc], TSt), (w.heap.size + 1 + 1, evA ⟨f0, f1, f2, f3, f4, f5, f6, f7⟩, TEv), (w.heap.size + 1 + 1 + 1, stZ, TSt)] ((rowE TPa 3 (.slice pa s.ad.length pc) s.ad.length (paCells s.ad)).star ((rowE TSe 4 (.slice sa s.ss.length sc) s.ss.length (seCells s.ss)).star ((rowE TUs 9 (.slice ua s.us.length uc) s.us.length (usCells s.us)).star emp)))) _ from OB.poke ((rowE_good _ _ _ _ _).star ((rowE_good _ _ _ _ _).star ((rowE_good _ _ _ _ _).star emp_good))) q3 1 rfl 5 (.slice pa s.ad.length pc)); clear q3 k3; have e3b := (OB.at HQ3.out (i := 1) rfl).cell)
    | (go_at_call 29; (with_reducible refine (tclI (OB.good ((rowE_good _ _ _ _ _).star ((rowE_good _ _ _ _ _).star ((rowE_good _ _ _ _ _).star emp_good)))) (in_on HI.out.sp HQ3.out.bel) HI.out.ci HI.out.fi HQ3.out).mono ?_); rintro r w4 ⟨ia, ic, rfl, qa⟩; have q4 := qa.imp (OB.dn _ _ _); clear qa e3 g3 l3 e3b; have k4 := OB.at q4 (i := 1) rfl; have e4 := k4.cell; have g4 := k4.froz; have l4 := k4.lt; have q5 := OB.poke ((rowE_good _ _ _ _ _).star ((rowE_good _ _ _ _ _).star ((rowE_good _ _ _ _ _).star ((rowE_good _ _ _ _ _).star emp_good)))) q4 1 rfl 6 (.slice ia s.sp.length ic); have HQ5 := Lib.hid (show At w (OB [(w.heap.size, cfC c, TCf), (w.heap.size + 1, stC ⟨ua, uc, sa, sc, pa, pc, ia, ic⟩ s, TSt), (w.heap.size + 1 + 1, evA ⟨f0, f1, f2, f3, f4, f5, f6, f7⟩, TEv), (w.heap.size + 1 + 1 + 1, stZ, TSt)] (StA ⟨ua, uc, sa, sc, pa, pc, ia, ic⟩ s emp)) _ from q5.imp (OB.under (rev4 _ _ _ _ _))); clear q4 k4 q5; have e5 := (OB.at HQ5.out (i := 0) rfl).cell; have e6 := (OB.at HQ5.out (i := 1) rfl).cell; have e7 := (OB.at HQ5.out (i := 2) rfl).cell)
    | (go_at_call 20; (with_reducible refine (ttell (OB.good emp_good) (show At w (StA ⟨ua, uc, sa, sc, pa, pc, ia, ic⟩ s (OB [(w.heap.size, cfC c, TCf), (w.heap.size + 1, stC ⟨ua, uc, sa, sc, pa, pc, ia, ic⟩ s, TSt), (w.heap.size + 1 + 1, evA ⟨f0, f1, f2, f3, f4, f5, f6, f7⟩, TEv), (w.heap.size + 1 + 1 + 1, stZ, TSt), (w4.heap.size, evA ⟨f0, f1, f2, f3, f4, f5, f6, f7⟩, TEv)] emp)) _ from (OB.hold (StA_good emp_good) HQ5.out (evA ⟨f0, f1, f2, f3, f4, f5, f6, f7⟩) TEv (p := w4.heap.size) (by simp)).imp (OB.into _ _ _ _)) (fun V qv => evIn_own (OB.at qv (i := 4) rfl)) rfl HM.out (by decide) HR.out).mono ?_); rintro r w9 ⟨h2, rfl, q9⟩; have q10 := q9.imp (OB.outof _ _ _ _); have k9 := OB.at q10 (i := 3) rfl; have e9 := k9.cell; have g9 := k9.froz; have l9 := k9.lt; have HX := Lib.hid (OB.wr7 (StA_good emp_good) q10 (i := 3) rfl (.int .i64 S.b) (.int .i64 S.e) (.int .i64 S.n) (.slice h2.u S.us.length h2.uc) (.slice h2.s S.ss.length h2.sc) (.slice h2.p S.ad.length h2.pc) (.slice h2.i S.sp.length h2.ic)); clear q9 q10 k9 e4 g4 l4 e5 e6 e7))
  refine bodyPost_ret (v := .tuple #[.agg (stC h2 S), .int .i64 E]) (by simp [*, results, Tryz.results13, go_sem]) rfl ⟨h2, rfl, ?_⟩
  exact HX.out
set_option maxRecDepth 100000 in
set_option maxHeartbeats 16000000 in
theorem tall_no {w : World} {ao : Option Addr} {n cap : Nat} (c : Cf) (ho : pnOk c.adr = false) :
    Calls Tryz.prog 7 #[.agg (cfC c), .slice ao n cap] w fun r w' => r = .returned (.tuple #[.agg (stC .none .none), .int .i64 2000]) ∧ Below w.heap.size w w' := by
  have hq : At w (OB [(w.heap.size, cfC c, TCf), (w.heap.size + 1, stZ, TSt)] emp) ((w.alloc (.cells (cfC c) TCf)).alloc (.cells stZ TSt)) :=
    OB.hold emp_good (OB.hold emp_good (OB.start (Below.refl w.heap.size w)) (cfC c) TCf rfl) stZ TSt (by simp)
  have HQ := Lib.hid hq
  have HN := Lib.hid (fun V => tnew c.adr V)
  rw [show snE c.adr = 2000 by unfold snE; rw [ho]; rfl, show snS c.adr = St.none by unfold snS pnL; rw [ho]; rfl] at HN
  obtain ⟨Z, hZ⟩ : ∃ Z, St.none = Z := ⟨_, rfl⟩
  rw [hZ] at HN
  clear hq ho hZ
  go_enter Tryz.func7, Tryz.ntmps7
  go_wp2_with (go_at_call 4; (with_reducible refine (HN.out _).mono ?_); rintro r w1 ⟨h0, rfl, hN⟩; have q1 := OB.lay emp_good HQ.out hN.bel; have q2 := OB.hold emp_good q1 (stC h0 Z) TSt rfl; have k2 := OB.at q2 (i := 1) rfl; have e2 := k2.cell; have g2 := k2.froz; have l2 := k2.lt; have HX := Lib.hid (OB.wr7 emp_good q2 (i := 1) rfl (.int .i64 0) (.int .i64 0) (.int .i64 0) (.slice none 0 0) (.slice none 0 0) (.slice none 0 0) (.slice none 0 0)); clear hN q1 q2 k2)
  refine bodyPost_ret (v := .tuple #[.agg (stC .none .none), .int .i64 2000]) (by simp [*, St.none, results, Tryz.results7, go_sem]) rfl ⟨rfl, ?_⟩
  exact HX.out.bel
set_option maxRecDepth 100000 in
set_option maxHeartbeats 16000000 in
theorem tall_yes {w : World} {ao : Option Addr} {n cap : Nat} {es : List Ev} (c : Cf) (hes : EvIn [] w ao n es) (hn : n ≤ 2199023255552) (ho : pnOk c.adr = true) {E : Int} {S : St} (hE : stRun c es (snS c.adr) = (E, S)) :
    Calls Tryz.prog 7 #[.agg (cfC c), .slice ao n cap] w fun r w' => ∃ h' : Sv, r = .returned (.tuple #[.agg (stC h' S), .int .i64 E]) ∧ StNew w h' S w' := by
  have hq : At w (OB [(w.heap.size, cfC c, TCf), (w.heap.size + 1, stZ, TSt)] emp) ((w.alloc (.cells (cfC c) TCf)).alloc (.cells stZ TSt)) :=
    OB.hold emp_good (OB.hold emp_good (OB.start (Below.refl w.heap.size w)) (cfC c) TCf rfl) stZ TSt (by simp)
  have HQ := Lib.hid hq
  have HN := Lib.hid (fun V => tnew c.adr V)
  rw [show snE c.adr = 0 by unfold snE; rw [ho]; rfl] at HN
  have HS0 := Lib.hid (snS_sm (n := c.adr) (k := n) (by omega))
  have HEV := Lib.hid (fun V (hb : Below w.heap.size w V) => ev_on hes hb)
  have HL := Lib.hid hes.len
  obtain ⟨s0, hs0⟩ : ∃ s0, snS c.adr = s0 := ⟨_, rfl⟩
  rw [hs0] at HN HS0 hE
  have HE := Lib.hid hE
  clear hq ho hes hs0 hE
  go_enter Tryz.func7, Tryz.ntmps7
  go_wp2_with (first
    | (go_at_call 4; (with_reducible refine (HN.out _).mono ?_); rintro r w1 ⟨h0, rfl, hN⟩; have HQ2 := Lib.hid (show At w (OB [(w.heap.size, cfC c, TCf), (w.heap.size + 1, stZ, TSt), (w1.heap.size, stC h0 s0, TSt)] (StA h0 s0 emp)) (w1.alloc (.cells (stC h0 s0) TSt)) from OB.hold (StA_good emp_good) ((StNew.front (OB.good emp_good) HQ.out hN).imp (OB.outof _ _ _ _)) (stC h0 s0) TSt rfl); clear hN; have e2 := (OB.at HQ2.out (i := 0) rfl).cell; have e3 := (OB.at HQ2.out (i := 2) rfl).cell)
    | (go_at_call 20; (with_reducible refine (ttell (OB.good emp_good) (HQ2.out.imp (OB.into _ _ _ _)) (fun V qv => HEV.out V qv.bel) HL.out HS0.out hn HE.out).mono ?_); rintro r w9 ⟨h2, rfl, q9⟩; have q10 := q9.imp (OB.outof _ _ _ _); have k9 := OB.at q10 (i := 1) rfl; have e9 := k9.cell; have g9 := k9.froz; have l9 := k9.lt; have HX := Lib.hid (OB.wr7 (StA_good emp_good) q10 (i := 1) rfl (.int .i64 S.b) (.int .i64 S.e) (.int .i64 S.n) (.slice h2.u S.us.length h2.uc) (.slice h2.s S.ss.length h2.sc) (.slice h2.p S.ad.length h2.pc) (.slice h2.i S.sp.length h2.ic)); clear q9 q10 k9 e2 e3))
  refine bodyPost_ret (v := .tuple #[.agg (stC h2 S), .int .i64 E]) (by simp [*, results, Tryz.results7, go_sem]) rfl ⟨h2, rfl, ?_⟩
  exact HX.out
theorem statesOk : StatesOk := ⟨fun n w => tnew n w, fun hi hm => tapply hi hm, fun {w} {ao} {n} {cap} {es} c hes hn => by
  cases ho : pnOk c.adr with
  | false =>
    rw [(saE_bad ho).1, (saE_bad ho).2]
    exact (tall_no c ho).mono fun _ _ ⟨a, b⟩ => ⟨.none, a, StNew.no b⟩
  | true =>
    rw [(saE_ok ho).1, (saE_ok ho).2]
    exact tall_yes c hes hn ho rfl⟩
end Go.Proofs.YtopkcaflmpjhgaaGreat

