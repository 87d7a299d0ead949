/- Put together: Str14, Str15, Sts. Conditions: each theorem's own. -/
import Derived.Test.YtopkcaflmpjhgaaGreatBsu
import Derived.Test.YtopkcaflmpjhgaaGreatBsn
namespace Go.Proofs.YtopkcaflmpjhgaaGreat
open Go Go.RowKit

abbrev alr0 : Oper := { dst := some 28, op := Op.load 23 (Operand.tmp 2), type := 23, pos := "ref.go:231", after := #[], guard := none }
abbrev alr1 : Oper := { dst := some 29, op := Op.load 29 (Operand.tmp 6), type := 29, pos := "ref.go:231", after := #[], guard := none }
abbrev alr2 : Oper := { dst := some 30, op := Op.move (Operand.tmp 1), type := 30, pos := "ref.go:231", after := #[], guard := none }
abbrev alr3 : Oper := { dst := some 31, op := Op.move (Operand.tmp 8), type := 3, pos := "ref.go:231", after := #[], guard := none }
abbrev alr4 : Oper := { dst := some 32, op := Op.indexAddr 30 (Operand.tmp 30) (Operand.tmp 31), type := 0, pos := "ref.go:231", after := #[{ on := 2, ground := Ground.data }, { on := 3, ground := Ground.data }], guard := none }
abbrev alr5 : Oper := { dst := some 33, op := Op.load 45 (Operand.tmp 32), type := 45, pos := "ref.go:231", after := #[{ on := 4, ground := Ground.data }], guard := none }
abbrev alr6 : Oper := { dst := some 34, op := Op.call { callee := Callee.value (Operand.func 14), args := #[Operand.tmp 28, Operand.tmp 29, Operand.tmp 33], argTypes := #[23, 29, 45] }, type := 34, pos := "ref.go:231", after := #[{ on := 0, ground := Ground.data }, { on := 1, ground := Ground.data }, { on := 5, ground := Ground.data }], guard := none }
abbrev alr7 : Oper := { dst := some 27, op := Op.move (Operand.tmp 34), type := 34, pos := "ref.go:231", after := #[{ on := 6, ground := Ground.data }], guard := none }
abbrev alr8 : Oper := { dst := some 35, op := Op.extract (Operand.tmp 27) 0, type := 29, pos := "ref.go:231", after := #[{ on := 7, ground := Ground.data }], guard := none }
abbrev alr9 : Oper := { dst := some 36, op := Op.extract (Operand.tmp 27) 1, type := 3, pos := "ref.go:231", after := #[{ on := 7, ground := Ground.data }, { on := 11, ground := Ground.gcOnly Departure.lateStores }], guard := none }
abbrev alr10 : Oper := { dst := some 9, op := Op.alloc 29, type := 0, pos := "ref.go:231", after := #[], guard := none }
abbrev alr11 : Oper := { dst := none, op := Op.store 29 (Operand.tmp 9) (Operand.tmp 35), type := 0, pos := "ref.go:231", after := #[{ on := 10, ground := Ground.data }, { on := 8, ground := Ground.data }, { on := 6, ground := Ground.chain }, { on := 0, ground := Ground.phase }, { on := 1, ground := Ground.phase }, { on := 2, ground := Ground.phase }, { on := 3, ground := Ground.phase }, { on := 4, ground := Ground.phase }, { on := 5, ground := Ground.phase }, { on := 6, ground := Ground.phase }, { on := 7, ground := Ground.phase }, { on := 8, ground := Ground.phase }, { on := 9, ground := Ground.textOnly Departure.lateStores }, { on := 10, ground := Ground.phase }], guard := none }
abbrev alr12 : Oper := { dst := some 10, op := Op.assign (Operand.tmp 36), type := 3, pos := "ref.go:231", after := #[{ on := 9, ground := Ground.data }, { on := 11, ground := Ground.chain }, { on := 0, ground := Ground.phase }, { on := 1, ground := Ground.phase }, { on := 2, ground := Ground.phase }, { on := 3, ground := Ground.phase }, { on := 4, ground := Ground.phase }, { on := 5, ground := Ground.phase }, { on := 6, ground := Ground.phase }, { on := 7, ground := Ground.phase }, { on := 8, ground := Ground.phase }, { on := 9, ground := Ground.phase }, { on := 10, ground := Ground.phase }, { on := 11, ground := Ground.phase }], guard := none }

theorem st_ofPa {w0 w : World} {n : Int} {a : Option Addr} {cc : Nat} (q : At w0 ((rowE TPa 3 (.slice a (pnL n).length cc) (pnL n).length (paCells (pnL n))).star emp) w) : At w0 (StA ⟨none, 0, none, 0, a, cc, none, 0⟩ (snS n) emp) w :=
  At.erow0 TUs 9 (At.erow0 TSe 4 ((At.erow0 TIn 1 q).imp (Ass.imp.swap _ _ _)))
set_option maxRecDepth 100000 in
set_option maxHeartbeats 4000000 in
/-- NewState. -/
theorem rnew (n : Int) (w : World) : Calls Tryz.prog 5 #[.int .i64 n] w fun r w' => ∃ h' : Sv, r = .returned (.tuple #[.agg (stC h' (snS n)), .int .i64 (snE n)]) ∧ StNew w h' (snS n) w' := by
  have hq : At w (OB [(w.heap.size, stZ, TSt)] emp) (w.alloc (.cells stZ TSt)) := OB.hold emp_good (OB.start (Below.refl w.heap.size w)) stZ TSt rfl
  have HQ := Lib.hid hq
  have HP := Lib.hid (rnewpool n (w.alloc (.cells stZ TSt)))
  cases ho : pnOk n with
  | false =>
    have e1 : pnE n = 1600 := by unfold pnE; rw [ho]; rfl
    have e2 : pnL n = [] := by unfold pnL; rw [ho]; rfl
    have e3 : snE n = 2000 := by unfold snE; rw [ho]; rfl
    have e4 : snS n = St.none := by unfold snS; rw [e2]; rfl
    rw [e1, e2] at HP
    rw [e3, e4]
    clear hq ho e1 e2 e3 e4
    go_enter Tryz.func5, Tryz.ntmps5
    go_wp2_with (go_at_call 18; (with_reducible refine HP.out.mono ?_); rintro r w1 ⟨a2, c2, rfl, hN⟩; have q1 := OB.lay emp_good HQ.out hN.bel; clear hN; have kr := OB.at q1 (i := 0) rfl; have er := kr.cell; have gr := kr.froz; have lr := kr.lt)
    refine bodyPost_ret (v := .tuple #[.agg (stC .none .none), .int .i64 2000]) (by simp [*, St.none, results, Tryz.results5, go_sem]) rfl ⟨.none, rfl, StNew.no ?_⟩
    exact (OB.wr7 emp_good q1 (i := 0) rfl _ _ _ _ _ _ _).bel
  | true =>
    have e1 : pnE n = 0 := by unfold pnE; rw [ho]; rfl
    have e3 : snE n = 0 := by unfold snE; rw [ho]; rfl
    rw [e1] at HP
    rw [e3]
    have HL := Lib.hid (show (snS n).ad = pnL n from rfl)
    clear hq ho e1 e3
    have HX := Lib.hid (fun (W : World) (a : Option Addr) (cc : Nat) (q : At w ((rowE TPa 3 (.slice a (pnL n).length cc) (pnL n).length (paCells (pnL n))).star emp) W) => st_ofPa q)
    go_enter Tryz.func5, Tryz.ntmps5
    go_wp2_with (go_at_call 18; (with_reducible refine HP.out.mono ?_); rintro r w1 ⟨a2, c2, rfl, hN⟩; have q1 := (pa_front (OB.good emp_good) HQ.out hN).imp (OB.dn _ _ _); clear hN; have kr := OB.at q1 (i := 0) rfl; have er := kr.cell; have gr := kr.froz; have lr := kr.lt)
    refine bodyPost_ret (v := .tuple #[.agg (stC ⟨none, 0, none, 0, a2, c2, none, 0⟩ (snS n)), .int .i64 0]) (by simp [*, snS, St.none, results, Tryz.results5, go_sem]) rfl ⟨_, rfl, ?_⟩
    exact HX.out _ _ _ (OB.wr7 ((rowE_good _ _ _ _ _).star emp_good) q1 (i := 0) rfl _ _ _ _ _ _ _)
/-- All's memory is above what came in. -/
def AlR (w Z : World) : Prop := Below w.heap.size w Z
theorem AlR.of {w W : World} {l : List Ob} {R : Ass} (q : At w (OB l R) W) : AlR w W := q.bel
theorem EvIn.elem8 {w : World} {ao : Option Addr} {n : Nat} {es : List Ev} (h : EvIn [] w ao n es) {k : Nat} (hk : k < n) : ∃ b off a, ao = some ⟨b, off, none⟩ ∧ es.getD k Ev.zero = a ∧ ∀ W, AlR w W → W.cell? ⟨b, off + k * 8, none⟩ = some (.int .i64 a.kind) ∧ W.cell? ⟨b, off + k * 8 + 1, none⟩ = some (.int .i64 a.user) ∧ W.cell? ⟨b, off + k * 8 + 2, none⟩ = some (.int .i64 a.session) ∧ W.cell? ⟨b, off + k * 8 + 3, none⟩ = some (.int .i64 a.address) ∧ W.cell? ⟨b, off + k * 8 + 4, none⟩ = some (.int .i64 a.a) ∧ W.cell? ⟨b, off + k * 8 + 5, none⟩ = some (.int .i64 a.b) ∧ W.cell? ⟨b, off + k * 8 + 6, none⟩ = some (.int .i64 a.c) ∧ W.cell? ⟨b, off + k * 8 + 7, none⟩ = some (.int .i64 a.tick) := by
  obtain ⟨hlen, hrow, _⟩ := h
  rcases hrow with c | ⟨b, off, rfl, hat, _, hlb⟩
  · omega
  · exact ⟨b, off, _, rfl, rfl, fun W hW => (hat.same (hW.block b hlb)).elem (by rw [← hlen]; exact hk)⟩
theorem sm_in {w0 W : World} {h : Sv} {s : St} {C : Ass} {k : Nat} (q : At w0 (StA h s C) W) (hm : s.sm k) : StIn W h s := At.stIn q (by have := hm.u; omega) hm.s hm.a (by have := hm.i; omega)
theorem oapply {w0 V : World} {R : Ass} {l : List Ob} (hR : R.Good) {h1 : Sv} {c : Cf} {s t : St} {e : Ev} {r : Int} (q : At w0 (OB l R) V) (hi : StIn V h1 s) (hn : s.nums) (hT : stAS c s e = t) (hE : stAE c s e = r) :
    Calls Tryz.prog 14 #[.agg (cfC c), .agg (stC h1 s), .agg (evA e)] V fun e Z => ∃ v, e = .returned v ∧ ∃ h2 : Sv, v = .tuple #[.agg (stC h2 t), .int .i64 r] ∧ At w0 (OB l (StA h2 t R)) Z := by
  subst hT hE
  exact (rapply hi hn).mono fun _ _ ⟨h2, e1, z⟩ => ⟨_, e1, h2, rfl, (StNew.front (OB.good hR) q z).imp (OB.outof _ _ _ _)⟩
theorem st_shed (h1 h2 : Sv) (s t : St) (C : Ass) {w0 W : World} {l : List Ob} (q : At w0 (OB l (StA h2 t (StA h1 s C))) W) : At w0 (OB l (StA h2 t C)) W :=
  OB.stDrop1 (OB.stDrop1 (OB.stDrop1 (OB.stDrop1 q)))
theorem stRun_step {c : Cf} {es : List Ev} {k : Nat} (hk : k < es.length) {e : Ev} (he : es.getD k Ev.zero = e) (s : St) : stRun c (es.drop k) s = if stAE c s e = 0 then stRun c (es.drop (k + 1)) (stAS c s e) else (stAE c s e, .none) := by
  have x : es.drop k = e :: es.drop (k + 1) := by
    rw [List.drop_eq_getElem_cons hk, ← he]; simp [List.getD, hk]
  rw [x, stRun]
theorem alr_next {w W : World} {c : Cf} {h1 h2 : Sv} {s t : St} {b2 p : Nat} (q : At w (OB [(w.heap.size, cfC c, TCf), (w.heap.size + 1, stZ, TSt), (b2, stC h1 s, TSt), (p, stC h2 t, TSt)] (StA h2 t (StA h1 s emp))) W) :
    At w (OB [(w.heap.size, cfC c, TCf), (w.heap.size + 1, stZ, TSt), (b2, stC h2 t, TSt)] (StA h2 t emp)) (((((((W.setCell ⟨b2, 0, none⟩ (.int .i64 t.b)).setCell ⟨b2, 1, none⟩ (.int .i64 t.e)).setCell ⟨b2, 2, none⟩ (.int .i64 t.n)).setCell ⟨b2, 3, none⟩ (.slice h2.u t.us.length h2.uc)).setCell ⟨b2, 4, none⟩ (.slice h2.s t.ss.length h2.sc)).setCell ⟨b2, 5, none⟩ (.slice h2.p t.ad.length h2.pc)).setCell ⟨b2, 6, none⟩ (.slice h2.i t.sp.length h2.ic)) := by
  have h1 := OB.put7 (StA_good (StA_good emp_good)) q (i := 2) rfl (.int .i64 t.b) (.int .i64 t.e) (.int .i64 t.n) (.slice h2.u t.us.length h2.uc) (.slice h2.s t.ss.length h2.sc) (.slice h2.p t.ad.length h2.pc) (.slice h2.i t.sp.length h2.ic)
  exact st_shed _ _ _ _ _ ((h1.imp (OB.pick _ (i := 3) rfl)).drop)
theorem saE_bad {c : Cf} {es : List Ev} (h : pnOk c.adr = false) : saE c es = 2000 ∧ saS c es = .none := by unfold saE saS; rw [h]; exact ⟨rfl, rfl⟩
theorem saE_ok {c : Cf} {es : List Ev} (h : pnOk c.adr = true) : saE c es = (stRun c es (snS c.adr)).1 ∧ saS c es = (stRun c es (snS c.adr)).2 := by unfold saE saS; rw [h]; exact ⟨rfl, rfl⟩
set_option maxRecDepth 100000 in
set_option maxHeartbeats 16000000 in
theorem rall_bad {w : World} {ao : Option Addr} {n cap : Nat} (c : Cf) (ho : pnOk c.adr = false) :
    Calls Tryz.prog 8 #[.agg (cfC c), .slice ao n cap] w fun r w' => r = .returned (.tuple #[.agg (stC .none .none), .int .i64 2000]) ∧ Below w.heap.size w w' := by
  have hq : At w (OB [(w.heap.size, cfC c, TCf), (w.heap.size + 1, stZ, TSt)] emp) ((w.alloc (.cells (cfC c) TCf)).alloc (.cells stZ TSt)) :=
    OB.hold emp_good (OB.hold emp_good (OB.start (Below.refl w.heap.size w)) (cfC c) TCf rfl) stZ TSt (by simp)
  have HQ := Lib.hid hq
  have hN := rnew c.adr ((w.alloc (.cells (cfC c) TCf)).alloc (.cells stZ TSt))
  rw [show snE c.adr = 2000 by unfold snE; rw [ho]; rfl] at hN
  have HN := Lib.hid hN
  clear hN hq ho
  go_enter Tryz.func8, Tryz.ntmps8
  go_wp2_with (go_at_call 5; (with_reducible refine HN.out.mono ?_); rintro r w1 ⟨h0, rfl, hN⟩; have q1 := OB.hold emp_good (OB.lay emp_good HQ.out hN.bel) (stC h0 (snS c.adr)) TSt rfl; clear hN; have kr := OB.at q1 (i := 1) rfl; have er := kr.cell; have gr := kr.froz; have lr := kr.lt)
  refine bodyPost_ret (v := .tuple #[.agg (stC .none .none), .int .i64 2000]) (by simp [*, St.none, results, Tryz.results8, go_sem]) rfl ⟨rfl, ?_⟩
  exact (OB.wr7 emp_good q1 (i := 1) rfl _ _ _ _ _ _ _).bel
end Go.Proofs.YtopkcaflmpjhgaaGreat

namespace Go.Proofs.YtopkcaflmpjhgaaGreat
open Go Go.RowKit

set_option maxRecDepth 100000 in
set_option maxHeartbeats 16000000 in
theorem rall_ok {w : World} {ao : Option Addr} {n cap : Nat} {es : List Ev} (c : Cf) (hes : EvIn [] w ao n es) (hn : n ≤ 2199023255552) (ho : pnOk c.adr = true) {E : Int} {S : St} (hE : (stRun c es (snS c.adr)) = (E, S)) :
    Calls Tryz.prog 8 #[.agg (cfC c), .slice ao n cap] w fun r w' => ∃ h' : Sv, r = .returned (.tuple #[.agg (stC h' S), .int .i64 E]) ∧ StNew w h' S w' := by
  have hq : At w (OB [(w.heap.size, cfC c, TCf), (w.heap.size + 1, stZ, TSt)] emp) ((w.alloc (.cells (cfC c) TCf)).alloc (.cells stZ TSt)) :=
    OB.hold emp_good (OB.hold emp_good (OB.start (Below.refl w.heap.size w)) (cfC c) TCf rfl) stZ TSt (by simp)
  have HQ := Lib.hid hq
  have hN := rnew c.adr ((w.alloc (.cells (cfC c) TCf)).alloc (.cells stZ TSt))
  rw [show snE c.adr = 0 by unfold snE; rw [ho]; rfl] at hN
  have HN := Lib.hid hN
  have HES := Lib.hid (fun k (hk : k < n) => hes.elem8 (k := k) hk)
  have HL := Lib.hid hes.len
  have HE0 := Lib.hid hE
  have HS0 := Lib.hid (snS_sm (n := c.adr) (k := n) (by omega))
  clear hN hq ho hes hE
  obtain ⟨s0, hs0⟩ : ∃ s0, snS c.adr = s0 := ⟨_, rfl⟩
  rw [hs0] at HN HS0 HE0
  clear hs0
  go_enter Tryz.func8, Tryz.ntmps8
  go_wp2_with (go_at_call 5; (with_reducible refine HN.out.mono ?_); rintro r w1 ⟨h0, rfl, hN⟩; have q1 := OB.hold (StA_good emp_good) ((StNew.front (OB.good emp_good) HQ.out hN).imp (OB.outof _ _ _ _)) (stC h0 s0) TSt rfl; clear hN; have HQ1 := Lib.hid q1; clear q1)
  have hq1 := HQ1.out
  clear HQ1
  generalize w1.alloc (.cells (stC h0 s0) TSt) = w2 at *
  generalize w1.heap.size = b2 at *
  have HQ1 := Lib.hid hq1
  clear hq1
  go_loopw [8, 9, 10] (fun i _ _ wr => ∃ (k : Nat) (s : St) (h1 : Sv), k ≤ n ∧ i = .int .i64 (k : Int) ∧ stRun c (es.drop k) s = (E, S) ∧ s.sm (n - k) ∧ Aside (At w (OB [(w.heap.size, cfC c, TCf), (w.heap.size + 1, stZ, TSt), (b2, stC h1 s, TSt)] (StA h1 s emp)) wr)) (fun i _ _ _ => n - (intOf i).toNat)
  case atStart => exact ⟨0, s0, h0, Nat.zero_le _, rfl, HE0.out, HS0.out, (show Aside _ from HQ1.out)⟩
  case round =>
    clear HQ1 HS0 HE0
    obtain ⟨k, s, h1, hk, rfl, hF, hm, hall⟩ := hrel
    have q := hall.out
    clear hall
    by_cases hlt : k < n
    · have hltI : (k : Int) < (n : Int) := by omega
      obtain ⟨b, off, e, rfl, he, hcell⟩ := HES.out k hlt
      have hstep := stRun_step (c := c) (es := es) (k := k) (by rw [← HL.out]; exact hlt) he s
      rw [hstep] at hF
      obtain ⟨f0, f1, f2, f3, f4, f5, f6, f7⟩ := e
      dsimp only at hcell
      have HEl := Lib.hid hcell
      have HSM := Lib.hid hm
      obtain ⟨t, ht⟩ : ∃ t, stAS c s ⟨f0, f1, f2, f3, f4, f5, f6, f7⟩ = t := ⟨_, rfl⟩
      have HT := Lib.hid ht
      clear hcell hstep he
      by_cases hr : stAE c s ⟨f0, f1, f2, f3, f4, f5, f6, f7⟩ = 0
      · rw [if_pos hr, ht] at hF
        have HE := Lib.hid hr
        have HN2 := Lib.hid (show t.sm (n - (k + 1)) by rw [← ht]; exact stAS_sm (hm.le (by omega)) hr)
        have HF2 := Lib.hid hF
        clear hr hF hm ht
        go_wp2
        refine region_held (S := fun Z => Blk Z w.heap.size (cfC c) ∧ Blk Z b2 (stC h1 s) ∧ AlR w Z) 13 [false, false, false, false, false, false, false, false, false, false, false, false, false] rfl rfl (by kernel_rfl) fun V hW => ?_
        have q3 := OB.lay (StA_good emp_good) q (us_drew wr)
        rw [← hW] at q3
        have hS3 : _ ∧ _ ∧ _ := ⟨OB.at q3 (i := 0) rfl, OB.at q3 (i := 2) rfl, AlR.of q3⟩
        clear hW q
        refine run_go [(0, alr0, (some 28)), (1, alr1, (some 29)), (2, alr2, (some 30)), (3, alr3, (some 31)), (4, alr4, (some 32)), (5, alr5, (some 33))] (by kernel_rfl) ?_
        iterate 6 (refine run_take ?_ rfl rfl (fun _ _ _ h => h) (Or.inl ⟨by rfl, ?_⟩) hS3 ?_; rotate_left; (· (intro w0' hy0; obtain ⟨k0, k1, kb⟩ := hy0; have e0 := k0.cell; have e1 := k1.cell; obtain ⟨x0, x1, x2, x3, x4, x5, x6, x7⟩ := HEl.out _ kb; clear k0 k1 kb; (go_simp <;> with_reducible rfl))); simp only [Act.put, List.setIfInBounds_toArray, List.set_cons_zero, List.set_cons_succ])
        refine run_end ?_
        refine jtwo 6 10 (by kernel_rfl) ?_ ?_
        · refine jop_callv 6 alr6 (some 34) (fun v Z => ∃ h2 : Sv, v = .tuple #[.agg (stC h2 t), .int .i64 0] ∧ At w (OB [(w.heap.size, cfC c, TCf), (w.heap.size + 1, stZ, TSt), (b2, stC h1 s, TSt)] (StA h2 t (StA h1 s emp))) Z) 14 #[.agg (cfC c), .agg (stC h1 s), .agg (evA ⟨f0, f1, f2, f3, f4, f5, f6, f7⟩)] rfl rfl (by rfl) (by go_simp <;> with_reducible rfl) (oapply (StA_good emp_good) q3 (sm_in (OB.rest q3) HSM.out) HSM.out.nums HT.out HE.out) (fun v Z ⟨h2, _, z⟩ => ⟨OB.at z (i := 0) rfl, OB.at z (i := 2) rfl, AlR.of z⟩) ?_
          rintro v V4 ⟨h2, rfl, q4⟩
          simp only [Act.put, List.setIfInBounds_toArray, List.set_cons_zero, List.set_cons_succ]
          have hS4 : _ ∧ _ ∧ _ := ⟨OB.at q4 (i := 0) rfl, OB.at q4 (i := 2) rfl, AlR.of q4⟩
          refine run_go [(7, alr7, (some 27)), (8, alr8, (some 35)), (9, alr9, (some 36))] (by kernel_rfl) ?_
          iterate 3 (refine run_take ?_ rfl rfl (fun _ _ _ h => h) (Or.inl ⟨by rfl, ?_⟩) hS4 ?_; rotate_left; (· (intro w0' hy0; obtain ⟨k0, k1, kb⟩ := hy0; have e0 := k0.cell; have e1 := k1.cell; obtain ⟨x0, x1, x2, x3, x4, x5, x6, x7⟩ := HEl.out _ kb; clear k0 k1 kb; (go_simp <;> with_reducible rfl))); simp only [Act.put, List.setIfInBounds_toArray, List.set_cons_zero, List.set_cons_succ])
          refine run_end ?_
          have q5 := OB.hold (by first | exact StA_good (StA_good emp_good) | exact StA_good emp_good) q4 stZ TSt rfl
          refine held_one 10 alr10 (some 9) (.pointer (some ⟨V4.heap.size, 0, none⟩)) (V4.alloc (.cells stZ TSt)) (by kernel_rfl) rfl rfl (by rfl) (by go_simp <;> with_reducible rfl) (⟨OB.at q5 (i := 0) rfl, OB.at q5 (i := 2) rfl, AlR.of q5⟩) ?_
          simp only [Act.put, List.setIfInBounds_toArray, List.set_cons_zero, List.set_cons_succ]
          generalize V4.alloc (.cells stZ TSt) = V5 at *
          generalize V4.heap.size = p at *
          have kp := OB.at q5 (i := 3) rfl
          have ep := kp.cell
          have gp := kp.froz
          have q6 := OB.put7 (StA_good (StA_good emp_good)) q5 (i := 3) rfl (.int .i64 t.b) (.int .i64 t.e) (.int .i64 t.n) (.slice h2.u t.us.length h2.uc) (.slice h2.s t.ss.length h2.sc) (.slice h2.p t.ad.length h2.pc) (.slice h2.i t.sp.length h2.ic)
          refine held_void 11 alr11 _ (by kernel_rfl) rfl (by rfl) (by go_simp <;> with_reducible rfl) ⟨OB.at q6 (i := 0) rfl, OB.at q6 (i := 2) rfl, AlR.of q6⟩ ?_
          simp only [Act.put, List.setIfInBounds_toArray, List.set_cons_zero, List.set_cons_succ]
          refine run_go [(12, alr12, (some 10))] (by kernel_rfl) ?_
          iterate 1 (refine run_take ?_ rfl rfl (fun _ _ _ h => h) (Or.inl ⟨by rfl, ?_⟩) ⟨OB.at q6 (i := 0) rfl, OB.at q6 (i := 2) rfl, AlR.of q6⟩ ?_; rotate_left; (· (intro w0' hy0; obtain ⟨k0, k1, kb⟩ := hy0; have e0 := k0.cell; have e1 := k1.cell; obtain ⟨x0, x1, x2, x3, x4, x5, x6, x7⟩ := HEl.out _ kb; clear k0 k1 kb; (go_simp <;> with_reducible rfl))); simp only [Act.put, List.setIfInBounds_toArray, List.set_cons_zero, List.set_cons_succ])
          refine run_end ?_
          refine wpAnyH_done (by kernel_rfl) ?_ _
          clear ep gp kp
          have kr := OB.at q6 (i := 1) rfl
          have er := kr.cell
          have gr := kr.froz
          have lr := kr.lt
          have kq := OB.at q6 (i := 3) rfl
          have eq := kq.cell
          have ks := OB.at q6 (i := 2) rfl
          have es' := ks.cell
          have gs := ks.froz
          have ls := ks.lt
          have HF := Lib.hid q6
          have lp := kq.lt
          clear kr kq ks q6
          go_wp2
          go_roundw
          case rel => exact ⟨k + 1, t, h2, by omega, by go_num, HF2.out, HN2.out, (show Aside _ from alr_next HF.out)⟩
          case measure => simp [intOf]; omega
        · have q4 := OB.hold (by first | exact StA_good (StA_good emp_good) | exact StA_good emp_good) q3 stZ TSt rfl
          refine jop_one 10 alr10 (some 9) (.pointer (some ⟨V.heap.size, 0, none⟩)) (V.alloc (.cells stZ TSt)) rfl rfl (by rfl) (by go_simp <;> with_reducible rfl) (⟨OB.at q4 (i := 0) rfl, OB.at q4 (i := 2) rfl, AlR.of q4⟩) ?_
          simp only [Act.put, List.setIfInBounds_toArray, List.set_cons_zero, List.set_cons_succ]
          generalize V.alloc (.cells stZ TSt) = V4 at *
          generalize V.heap.size = p at *
          refine held_callv 6 alr6 (some 34) (fun v Z => ∃ h2 : Sv, v = .tuple #[.agg (stC h2 t), .int .i64 0] ∧ At w (OB [(w.heap.size, cfC c, TCf), (w.heap.size + 1, stZ, TSt), (b2, stC h1 s, TSt), (p, stZ, TSt)] (StA h2 t (StA h1 s emp))) Z) 14 #[.agg (cfC c), .agg (stC h1 s), .agg (evA ⟨f0, f1, f2, f3, f4, f5, f6, f7⟩)] (by kernel_rfl) rfl rfl (by rfl) (by go_simp <;> with_reducible rfl) (oapply (StA_good emp_good) q4 (sm_in (OB.rest q4) HSM.out) HSM.out.nums HT.out HE.out) (fun v Z ⟨h2, _, z⟩ => ⟨OB.at z (i := 0) rfl, OB.at z (i := 2) rfl, AlR.of z⟩) ?_
          rintro v V5 ⟨h2, rfl, q5⟩
          simp only [Act.put, List.setIfInBounds_toArray, List.set_cons_zero, List.set_cons_succ]
          have hS5 : _ ∧ _ ∧ _ := ⟨OB.at q5 (i := 0) rfl, OB.at q5 (i := 2) rfl, AlR.of q5⟩
          refine run_go [(7, alr7, (some 27)), (8, alr8, (some 35)), (9, alr9, (some 36))] (by kernel_rfl) ?_
          iterate 3 (refine run_take ?_ rfl rfl (fun _ _ _ h => h) (Or.inl ⟨by rfl, ?_⟩) hS5 ?_; rotate_left; (· (intro w0' hy0; obtain ⟨k0, k1, kb⟩ := hy0; have e0 := k0.cell; have e1 := k1.cell; obtain ⟨x0, x1, x2, x3, x4, x5, x6, x7⟩ := HEl.out _ kb; clear k0 k1 kb; (go_simp <;> with_reducible rfl))); simp only [Act.put, List.setIfInBounds_toArray, List.set_cons_zero, List.set_cons_succ])
          refine run_end ?_
          have kp := OB.at q5 (i := 3) rfl
          have ep := kp.cell
          have gp := kp.froz
          have q6 := OB.put7 (StA_good (StA_good emp_good)) q5 (i := 3) rfl (.int .i64 t.b) (.int .i64 t.e) (.int .i64 t.n) (.slice h2.u t.us.length h2.uc) (.slice h2.s t.ss.length h2.sc) (.slice h2.p t.ad.length h2.pc) (.slice h2.i t.sp.length h2.ic)
          refine held_void 11 alr11 _ (by kernel_rfl) rfl (by rfl) (by go_simp <;> with_reducible rfl) ⟨OB.at q6 (i := 0) rfl, OB.at q6 (i := 2) rfl, AlR.of q6⟩ ?_
          simp only [Act.put, List.setIfInBounds_toArray, List.set_cons_zero, List.set_cons_succ]
          refine run_go [(12, alr12, (some 10))] (by kernel_rfl) ?_
          iterate 1 (refine run_take ?_ rfl rfl (fun _ _ _ h => h) (Or.inl ⟨by rfl, ?_⟩) ⟨OB.at q6 (i := 0) rfl, OB.at q6 (i := 2) rfl, AlR.of q6⟩ ?_; rotate_left; (· (intro w0' hy0; obtain ⟨k0, k1, kb⟩ := hy0; have e0 := k0.cell; have e1 := k1.cell; obtain ⟨x0, x1, x2, x3, x4, x5, x6, x7⟩ := HEl.out _ kb; clear k0 k1 kb; (go_simp <;> with_reducible rfl))); simp only [Act.put, List.setIfInBounds_toArray, List.set_cons_zero, List.set_cons_succ])
          refine run_end ?_
          refine wpAnyH_done (by kernel_rfl) ?_ _
          clear ep gp kp
          have kr := OB.at q6 (i := 1) rfl
          have er := kr.cell
          have gr := kr.froz
          have lr := kr.lt
          have kq := OB.at q6 (i := 3) rfl
          have eq := kq.cell
          have ks := OB.at q6 (i := 2) rfl
          have es' := ks.cell
          have gs := ks.froz
          have ls := ks.lt
          have HF := Lib.hid q6
          have lp := kq.lt
          clear kr kq ks q6
          go_wp2
          go_roundw
          case rel => exact ⟨k + 1, t, h2, by omega, by go_num, HF2.out, HN2.out, (show Aside _ from alr_next HF.out)⟩
          case measure => simp [intOf]; omega
      · rw [if_neg hr] at hF
        obtain ⟨r, hr2⟩ : ∃ r, stAE c s ⟨f0, f1, f2, f3, f4, f5, f6, f7⟩ = r := ⟨_, rfl⟩
        have HE := Lib.hid hr2
        have hne : (r != 0) = true := by rw [← hr2]; simpa using hr
        rw [hr2] at hF
        have HR := Lib.hid (show r = E ∧ St.none = S from ⟨congrArg Prod.fst hF, congrArg Prod.snd hF⟩)
        clear hr hF hm ht hr2
        go_wp2
        refine region_held (S := fun Z => Blk Z w.heap.size (cfC c) ∧ Blk Z b2 (stC h1 s) ∧ AlR w Z) 13 [false, false, false, false, false, false, false, false, false, false, false, false, false] rfl rfl (by kernel_rfl) fun V hW => ?_
        have q3 := OB.lay (StA_good emp_good) q (us_drew wr)
        rw [← hW] at q3
        have hS3 : _ ∧ _ ∧ _ := ⟨OB.at q3 (i := 0) rfl, OB.at q3 (i := 2) rfl, AlR.of q3⟩
        clear hW q
        refine run_go [(0, alr0, (some 28)), (1, alr1, (some 29)), (2, alr2, (some 30)), (3, alr3, (some 31)), (4, alr4, (some 32)), (5, alr5, (some 33))] (by kernel_rfl) ?_
        iterate 6 (refine run_take ?_ rfl rfl (fun _ _ _ h => h) (Or.inl ⟨by rfl, ?_⟩) hS3 ?_; rotate_left; (· (intro w0' hy0; obtain ⟨k0, k1, kb⟩ := hy0; have e0 := k0.cell; have e1 := k1.cell; obtain ⟨x0, x1, x2, x3, x4, x5, x6, x7⟩ := HEl.out _ kb; clear k0 k1 kb; (go_simp <;> with_reducible rfl))); simp only [Act.put, List.setIfInBounds_toArray, List.set_cons_zero, List.set_cons_succ])
        refine run_end ?_
        refine jtwo 6 10 (by kernel_rfl) ?_ ?_
        · refine jop_callv 6 alr6 (some 34) (fun v Z => ∃ h2 : Sv, v = .tuple #[.agg (stC h2 t), .int .i64 r] ∧ At w (OB [(w.heap.size, cfC c, TCf), (w.heap.size + 1, stZ, TSt), (b2, stC h1 s, TSt)] (StA h2 t (StA h1 s emp))) Z) 14 #[.agg (cfC c), .agg (stC h1 s), .agg (evA ⟨f0, f1, f2, f3, f4, f5, f6, f7⟩)] rfl rfl (by rfl) (by go_simp <;> with_reducible rfl) (oapply (StA_good emp_good) q3 (sm_in (OB.rest q3) HSM.out) HSM.out.nums HT.out HE.out) (fun v Z ⟨h2, _, z⟩ => ⟨OB.at z (i := 0) rfl, OB.at z (i := 2) rfl, AlR.of z⟩) ?_
          rintro v V4 ⟨h2, rfl, q4⟩
          simp only [Act.put, List.setIfInBounds_toArray, List.set_cons_zero, List.set_cons_succ]
          have hS4 : _ ∧ _ ∧ _ := ⟨OB.at q4 (i := 0) rfl, OB.at q4 (i := 2) rfl, AlR.of q4⟩
          refine run_go [(7, alr7, (some 27)), (8, alr8, (some 35)), (9, alr9, (some 36))] (by kernel_rfl) ?_
          iterate 3 (refine run_take ?_ rfl rfl (fun _ _ _ h => h) (Or.inl ⟨by rfl, ?_⟩) hS4 ?_; rotate_left; (· (intro w0' hy0; obtain ⟨k0, k1, kb⟩ := hy0; have e0 := k0.cell; have e1 := k1.cell; obtain ⟨x0, x1, x2, x3, x4, x5, x6, x7⟩ := HEl.out _ kb; clear k0 k1 kb; (go_simp <;> with_reducible rfl))); simp only [Act.put, List.setIfInBounds_toArray, List.set_cons_zero, List.set_cons_succ])
          refine run_end ?_
          have q5 := OB.hold (by first | exact StA_good (StA_good emp_good) | exact StA_good emp_good) q4 stZ TSt rfl
          refine held_one 10 alr10 (some 9) (.pointer (some ⟨V4.heap.size, 0, none⟩)) (V4.alloc (.cells stZ TSt)) (by kernel_rfl) rfl rfl (by rfl) (by go_simp <;> with_reducible rfl) (⟨OB.at q5 (i := 0) rfl, OB.at q5 (i := 2) rfl, AlR.of q5⟩) ?_
          simp only [Act.put, List.setIfInBounds_toArray, List.set_cons_zero, List.set_cons_succ]
          generalize V4.alloc (.cells stZ TSt) = V5 at *
          generalize V4.heap.size = p at *
          have kp := OB.at q5 (i := 3) rfl
          have ep := kp.cell
          have gp := kp.froz
          have q6 := OB.put7 (StA_good (StA_good emp_good)) q5 (i := 3) rfl (.int .i64 t.b) (.int .i64 t.e) (.int .i64 t.n) (.slice h2.u t.us.length h2.uc) (.slice h2.s t.ss.length h2.sc) (.slice h2.p t.ad.length h2.pc) (.slice h2.i t.sp.length h2.ic)
          refine held_void 11 alr11 _ (by kernel_rfl) rfl (by rfl) (by go_simp <;> with_reducible rfl) ⟨OB.at q6 (i := 0) rfl, OB.at q6 (i := 2) rfl, AlR.of q6⟩ ?_
          simp only [Act.put, List.setIfInBounds_toArray, List.set_cons_zero, List.set_cons_succ]
          refine run_go [(12, alr12, (some 10))] (by kernel_rfl) ?_
          iterate 1 (refine run_take ?_ rfl rfl (fun _ _ _ h => h) (Or.inl ⟨by rfl, ?_⟩) ⟨OB.at q6 (i := 0) rfl, OB.at q6 (i := 2) rfl, AlR.of q6⟩ ?_; rotate_left; (· (intro w0' hy0; obtain ⟨k0, k1, kb⟩ := hy0; have e0 := k0.cell; have e1 := k1.cell; obtain ⟨x0, x1, x2, x3, x4, x5, x6, x7⟩ := HEl.out _ kb; clear k0 k1 kb; (go_simp <;> with_reducible rfl))); simp only [Act.put, List.setIfInBounds_toArray, List.set_cons_zero, List.set_cons_succ])
          refine run_end ?_
          refine wpAnyH_done (by kernel_rfl) ?_ _
          clear ep gp kp
          have kr := OB.at q6 (i := 1) rfl
          have er := kr.cell
          have gr := kr.froz
          have lr := kr.lt
          have kq := OB.at q6 (i := 3) rfl
          have eq := kq.cell
          have ks := OB.at q6 (i := 2) rfl
          have es' := ks.cell
          have gs := ks.froz
          have ls := ks.lt
          have HF := Lib.hid q6
          have lp := kq.lt
          clear kr kq ks q6
          go_wp2
          refine bodyPost_ret (v := .tuple #[.agg (stC .none .none), .int .i64 r]) (by simp [*, St.none, results, Tryz.results8, go_sem]) rfl ⟨.none, by rw [← HR.out.1, ← HR.out.2], ?_⟩
          rw [← HR.out.2]
          exact StNew.no (OB.wr7 (StA_good (StA_good emp_good)) HF.out (i := 1) rfl _ _ _ _ _ _ _).bel
        · have q4 := OB.hold (by first | exact StA_good (StA_good emp_good) | exact StA_good emp_good) q3 stZ TSt rfl
          refine jop_one 10 alr10 (some 9) (.pointer (some ⟨V.heap.size, 0, none⟩)) (V.alloc (.cells stZ TSt)) rfl rfl (by rfl) (by go_simp <;> with_reducible rfl) (⟨OB.at q4 (i := 0) rfl, OB.at q4 (i := 2) rfl, AlR.of q4⟩) ?_
          simp only [Act.put, List.setIfInBounds_toArray, List.set_cons_zero, List.set_cons_succ]
          generalize V.alloc (.cells stZ TSt) = V4 at *
          generalize V.heap.size = p at *
          refine held_callv 6 alr6 (some 34) (fun v Z => ∃ h2 : Sv, v = .tuple #[.agg (stC h2 t), .int .i64 r] ∧ At w (OB [(w.heap.size, cfC c, TCf), (w.heap.size + 1, stZ, TSt), (b2, stC h1 s, TSt), (p, stZ, TSt)] (StA h2 t (StA h1 s emp))) Z) 14 #[.agg (cfC c), .agg (stC h1 s), .agg (evA ⟨f0, f1, f2, f3, f4, f5, f6, f7⟩)] (by kernel_rfl) rfl rfl (by rfl) (by go_simp <;> with_reducible rfl) (oapply (StA_good emp_good) q4 (sm_in (OB.rest q4) HSM.out) HSM.out.nums HT.out HE.out) (fun v Z ⟨h2, _, z⟩ => ⟨OB.at z (i := 0) rfl, OB.at z (i := 2) rfl, AlR.of z⟩) ?_
          rintro v V5 ⟨h2, rfl, q5⟩
          simp only [Act.put, List.setIfInBounds_toArray, List.set_cons_zero, List.set_cons_succ]
          have hS5 : _ ∧ _ ∧ _ := ⟨OB.at q5 (i := 0) rfl, OB.at q5 (i := 2) rfl, AlR.of q5⟩
          refine run_go [(7, alr7, (some 27)), (8, alr8, (some 35)), (9, alr9, (some 36))] (by kernel_rfl) ?_
          iterate 3 (refine run_take ?_ rfl rfl (fun _ _ _ h => h) (Or.inl ⟨by rfl, ?_⟩) hS5 ?_; rotate_left; (· (intro w0' hy0; obtain ⟨k0, k1, kb⟩ := hy0; have e0 := k0.cell; have e1 := k1.cell; obtain ⟨x0, x1, x2, x3, x4, x5, x6, x7⟩ := HEl.out _ kb; clear k0 k1 kb; (go_simp <;> with_reducible rfl))); simp only [Act.put, List.setIfInBounds_toArray, List.set_cons_zero, List.set_cons_succ])
          refine run_end ?_
          have kp := OB.at q5 (i := 3) rfl
          have ep := kp.cell
          have gp := kp.froz
          have q6 := OB.put7 (StA_good (StA_good emp_good)) q5 (i := 3) rfl (.int .i64 t.b) (.int .i64 t.e) (.int .i64 t.n) (.slice h2.u t.us.length h2.uc) (.slice h2.s t.ss.length h2.sc) (.slice h2.p t.ad.length h2.pc) (.slice h2.i t.sp.length h2.ic)
          refine held_void 11 alr11 _ (by kernel_rfl) rfl (by rfl) (by go_simp <;> with_reducible rfl) ⟨OB.at q6 (i := 0) rfl, OB.at q6 (i := 2) rfl, AlR.of q6⟩ ?_
          simp only [Act.put, List.setIfInBounds_toArray, List.set_cons_zero, List.set_cons_succ]
          refine run_go [(12, alr12, (some 10))] (by kernel_rfl) ?_
          iterate 1 (refine run_take ?_ rfl rfl (fun _ _ _ h => h) (Or.inl ⟨by rfl, ?_⟩) ⟨OB.at q6 (i := 0) rfl, OB.at q6 (i := 2) rfl, AlR.of q6⟩ ?_; rotate_left; (· (intro w0' hy0; obtain ⟨k0, k1, kb⟩ := hy0; have e0 := k0.cell; have e1 := k1.cell; obtain ⟨x0, x1, x2, x3, x4, x5, x6, x7⟩ := HEl.out _ kb; clear k0 k1 kb; (go_simp <;> with_reducible rfl))); simp only [Act.put, List.setIfInBounds_toArray, List.set_cons_zero, List.set_cons_succ])
          refine run_end ?_
          refine wpAnyH_done (by kernel_rfl) ?_ _
          clear ep gp kp
          have kr := OB.at q6 (i := 1) rfl
          have er := kr.cell
          have gr := kr.froz
          have lr := kr.lt
          have kq := OB.at q6 (i := 3) rfl
          have eq := kq.cell
          have ks := OB.at q6 (i := 2) rfl
          have es' := ks.cell
          have gs := ks.froz
          have ls := ks.lt
          have HF := Lib.hid q6
          have lp := kq.lt
          clear kr kq ks q6
          go_wp2
          refine bodyPost_ret (v := .tuple #[.agg (stC .none .none), .int .i64 r]) (by simp [*, St.none, results, Tryz.results8, go_sem]) rfl ⟨.none, by rw [← HR.out.1, ← HR.out.2], ?_⟩
          rw [← HR.out.2]
          exact StNew.no (OB.wr7 (StA_good (StA_good emp_good)) HF.out (i := 1) rfl _ _ _ _ _ _ _).bel
    · obtain rfl : k = n := by omega
      have hltI : ¬ (k : Int) < (k : Int) := by omega
      rw [HL.out, List.drop_length, stRun] at hF
      obtain ⟨rfl, rfl⟩ : (0 : Int) = E ∧ s = S := ⟨congrArg Prod.fst hF, congrArg Prod.snd hF⟩
      have kr := OB.at q (i := 1) rfl
      have er := kr.cell
      have gr := kr.froz
      have lr := kr.lt
      have ks := OB.at q (i := 2) rfl
      have es' := ks.cell
      have HF := Lib.hid q
      clear kr ks q hm hF
      go_wp2
      refine bodyPost_ret (v := .tuple #[.agg (stC h1 s), .int .i64 0]) (by simp [*, results, Tryz.results8, go_sem]) rfl ⟨h1, rfl, ?_⟩
      exact OB.wr7 (StA_good emp_good) HF.out (i := 1) rfl _ _ _ _ _ _ _
/-- All. -/
theorem rall {w : World} {ao : Option Addr} {n cap : Nat} {es : List Ev} (c : Cf) (hes : EvIn [] w ao n es) (hn : n ≤ 2199023255552) :
    Calls Tryz.prog 8 #[.agg (cfC c), .slice ao n cap] w fun r w' => ∃ h' : Sv, r = .returned (.tuple #[.agg (stC h' (saS c es)), .int .i64 (saE c es)]) ∧ StNew w h' (saS c es) w' := by
  cases ho : pnOk c.adr with
  | false =>
    rw [(saE_bad ho).1, (saE_bad ho).2]
    exact (rall_bad c ho).mono fun _ _ ⟨a, b⟩ => ⟨.none, a, StNew.no b⟩
  | true =>
    rw [(saE_ok ho).1, (saE_ok ho).2]
    exact rall_ok c hes hn ho rfl
end Go.Proofs.YtopkcaflmpjhgaaGreat

namespace Go.Proofs.YtopkcaflmpjhgaaGreat
open Go Go.RowKit

theorem star_assoc' (A B C : Ass) : (A.star (B.star C)).imp ((A.star B).star C) := by
  rintro w F ⟨F1, _, rfl, h1, ⟨F2, F3, rfl, h2, h4, h5⟩, h3⟩
  refine ⟨(F1 ++ F2) ++ F3, ⟨F1 ++ F2, F3, rfl, ⟨F1, F2, rfl, h1, h2, fun k hk hc => h3 k hk (by simp [hc])⟩, h4, fun k hk hc => ?_⟩, fun k => by simp⟩
  rcases List.mem_append.1 hk with c | c
  · exact h3 k c (by simp [hc])
  · exact h5 k c hc
theorem emp_left' (C : Ass) : C.imp (emp.star C) := fun _ F h => ⟨F, ⟨[], F, rfl, rfl, h, fun _ hk => by cases hk⟩, fun _ => Iff.rfl⟩
theorem st_back (h : Sv) (s : St) (C : Ass) : (StA h s C).imp ((StA h s emp).star C) :=
  ((((((((emp_left' C).under _).trans (star_assoc' _ _ _)).under _).trans (star_assoc' _ _ _)).under _).trans (star_assoc' _ _ _)).under _).trans (star_assoc' _ _ _)
theorem StA.under {h : Sv} {s : St} {C C' : Ass} (q : C.imp C') : (StA h s C).imp (StA h s C') := (((q.under _).under _).under _).under _
theorem StA.swap (h h' : Sv) (s s' : St) (C : Ass) : (StA h s (StA h' s' C)).imp (StA h' s' (StA h s C)) :=
  (st_back h s _).trans (((st_back h' s' C).under _).trans ((Ass.imp.swap _ _ _).trans (((st_front h s C).under _).trans (st_front h' s' _))))
/-- The states, then the rest. -/
def STS : List (Sv × St) → Ass → Ass
  | [], R => R
  | x :: z, R => StA x.1 x.2 (STS z R)
theorem STS.good {z : List (Sv × St)} {R : Ass} (hR : R.Good) : (STS z R).Good := by
  induction z with
  | nil => exact hR
  | cons x z ih => exact StA_good ih
theorem STS.under {z : List (Sv × St)} {R R' : Ass} (h : R.imp R') : (STS z R).imp (STS z R') := by
  induction z with
  | nil => exact h
  | cons x z ih => exact StA.under ih
theorem STS.pick {z : List (Sv × St)} (R : Ass) {i : Nat} {x : Sv × St} (hi : z[i]? = some x) : (STS z R).imp (StA x.1 x.2 (STS (z.eraseIdx i) R)) := by
  induction z generalizing i with
  | nil => cases hi
  | cons y z ih =>
    cases i with
    | zero =>
      obtain rfl : y = x := by simpa using hi
      exact Ass.imp.refl _
    | succ i => exact (StA.under (ih (i := i) (by simpa using hi))).trans (StA.swap _ _ _ _ _)
/-- A row behind the states comes to the front, and back. -/
theorem STS.up (z : List (Sv × St)) (A R : Ass) : (STS z (A.star R)).imp (A.star (STS z R)) := by
  induction z with
  | nil => exact Ass.imp.refl _
  | cons x z ih => exact (StA.under ih).trans (st_out x.1 x.2 A _)
theorem STS.dn (z : List (Sv × St)) (A R : Ass) : (A.star (STS z R)).imp (STS z (A.star R)) := by
  induction z with
  | nil => exact Ass.imp.refl _
  | cons x z ih => exact (st_in x.1 x.2 A _).trans (StA.under ih)
section
variable {w0 W : World} {l : List Ob} {z : List (Sv × St)} {R : Ass} {h : Sv} {s : St} {i k : Nat}
theorem STS.at (q : At w0 (OB l (STS z R)) W) (hi : z[i]? = some (h, s)) (hm : s.sm k) : StIn W h s := sm_in ((OB.rest q).imp (STS.pick R hi)) hm
theorem STS.front (hR : R.Good) (q : At w0 (OB l (STS z R)) W) {W' : World} (n : StNew W h s W') : At w0 (OB l (STS ((h, s) :: z) R)) W' := (StNew.front (OB.good (STS.good hR)) q n).imp (OB.outof _ _ _ _)
theorem STS.out (q : At w0 (OB l (STS z R)) W) (hi : z[i]? = some (h, s)) : At w0 (StA h s (OB l (STS (z.eraseIdx i) R))) W := (q.imp (OB.under (STS.pick R hi))).imp (OB.into _ _ _ _)
theorem STS.drop (i : Nat) {x : Sv × St} (hi : z[i]? = some x) (q : At w0 (OB l (STS z R)) W) : At w0 (OB l (STS (z.eraseIdx i) R)) W := At.stDrop (STS.out (h := x.1) (s := x.2) q hi)
/-- The states are dropped, all of them. -/
theorem STS.none (q : At w0 (OB l (STS z R)) W) : At w0 (OB l R) W := by
  induction z with
  | nil => exact q
  | cons x z ih => exact ih (STS.drop 0 (x := x) rfl q)
theorem OB.lay1 {C : Ass} (hC : C.Good) (q : At w0 (OB l C) W) (o : Obj) : At w0 (OB l C) (W.alloc o) := At.lay1 (OB.good hC) q o
/-- A block that is not wanted any more. -/
theorem OB.drop {C : Ass} (i : Nat) {x : Ob} (hi : l[i]? = some x) (q : At w0 (OB l C) W) : At w0 (OB (l.eraseIdx i) C) W := (q.imp (OB.pick C hi)).drop
end
/-- What a call gave. -/
def StOut (w : World) (s : St) (n : Int) (e : Ending) (w' : World) : Prop := ∃ h' : Sv, e = .returned (.tuple #[.agg (stC h' s), .int .i64 n]) ∧ StNew w h' s w'
/-- What the laws ask of the program: each call answers as the chapter says. -/
structure StatesOk : Prop where
  new : ∀ (n : Int) (w : World), Calls Tryz.prog 4 #[.int .i64 n] w (StOut w (snS n) (snE n))
  apply : ∀ {w : World} {h : Sv} {c : Cf} {s : St} {e : Ev}, StIn w h s → s.sm 1 → Calls Tryz.prog 13 #[.agg (cfC c), .agg (stC h s), .agg (evA e)] w (StOut w (stAS c s e) (stAE c s e))
  all : ∀ {w : World} {ao : Option Addr} {n cap : Nat} {es : List Ev} (c : Cf), EvIn [] w ao n es → n ≤ 2199023255552 → Calls Tryz.prog 7 #[.agg (cfC c), .slice ao n cap] w (StOut w (saS c es) (saE c es))
section
variable {w0 V : World} {l : List Ob} {z : List (Sv × St)} {R : Ass} {h : Sv} {c : Cf} {s t : St} {e : Ev} {r : Int} {i : Nat}
/-- The calls, over blocks and states of one's own. -/
theorem StatesOk.onew (P : StatesOk) (hR : R.Good) {n : Int} (q : At w0 (OB l (STS z R)) V) (hT : snS n = t) (hE : snE n = r) :
    Calls Tryz.prog 4 #[.int .i64 n] V fun e Z => ∃ h2 : Sv, e = .returned (.tuple #[.agg (stC h2 t), .int .i64 r]) ∧ At w0 (OB l (STS ((h2, t) :: z) R)) Z := by
  subst hT hE
  exact (P.new n V).mono fun _ _ ⟨h2, e1, n⟩ => ⟨h2, e1, STS.front hR q n⟩
theorem StatesOk.oapply (P : StatesOk) (hR : R.Good) (q : At w0 (OB l (STS z R)) V) (hi : z[i]? = some (h, s)) (hm : s.sm 1) (hT : stAS c s e = t) (hE : stAE c s e = r) :
    Calls Tryz.prog 13 #[.agg (cfC c), .agg (stC h s), .agg (evA e)] V fun e Z => ∃ h2 : Sv, e = .returned (.tuple #[.agg (stC h2 t), .int .i64 r]) ∧ At w0 (OB l (STS ((h2, t) :: z) R)) Z := by
  subst hT hE
  exact (P.apply (STS.at q hi hm) hm).mono fun _ _ ⟨h2, e1, n⟩ => ⟨h2, e1, STS.front hR q n⟩
theorem StatesOk.oall (P : StatesOk) (hR : R.Good) {ao : Option Addr} {n cap : Nat} {es : List Ev} (q : At w0 (OB l (STS z R)) V) (hes : EvIn [] V ao n es) (hn : n ≤ 2199023255552) (hT : saS c es = t) (hE : saE c es = r) :
    Calls Tryz.prog 7 #[.agg (cfC c), .slice ao n cap] V fun e Z => ∃ h2 : Sv, e = .returned (.tuple #[.agg (stC h2 t), .int .i64 r]) ∧ At w0 (OB l (STS ((h2, t) :: z) R)) Z := by
  subst hT hE
  exact (P.all c hes hn).mono fun _ _ ⟨h2, e1, n⟩ => ⟨h2, e1, STS.front hR q n⟩
/-- The reference's. -/
theorem oranew (hR : R.Good) {n : Int} (q : At w0 (OB l (STS z R)) V) (hT : snS n = t) (hE : snE n = r) :
    Calls Tryz.prog 5 #[.int .i64 n] V fun e Z => ∃ h2 : Sv, e = .returned (.tuple #[.agg (stC h2 t), .int .i64 r]) ∧ At w0 (OB l (STS ((h2, t) :: z) R)) Z := by
  subst hT hE
  exact (rnew n V).mono fun _ _ ⟨h2, e1, n⟩ => ⟨h2, e1, STS.front hR q n⟩
theorem oraapply (hR : R.Good) (q : At w0 (OB l (STS z R)) V) (hi : z[i]? = some (h, s)) (hm : s.sm 1) (hT : stAS c s e = t) (hE : stAE c s e = r) :
    Calls Tryz.prog 14 #[.agg (cfC c), .agg (stC h s), .agg (evA e)] V fun e Z => ∃ h2 : Sv, e = .returned (.tuple #[.agg (stC h2 t), .int .i64 r]) ∧ At w0 (OB l (STS ((h2, t) :: z) R)) Z := by
  subst hT hE
  exact (rapply (STS.at q hi hm) hm.nums).mono fun _ _ ⟨h2, e1, n⟩ => ⟨h2, e1, STS.front hR q n⟩
theorem oraall (hR : R.Good) {ao : Option Addr} {n cap : Nat} {es : List Ev} (q : At w0 (OB l (STS z R)) V) (hes : EvIn [] V ao n es) (hn : n ≤ 2199023255552) (hT : saS c es = t) (hE : saE c es = r) :
    Calls Tryz.prog 8 #[.agg (cfC c), .slice ao n cap] V fun e Z => ∃ h2 : Sv, e = .returned (.tuple #[.agg (stC h2 t), .int .i64 r]) ∧ At w0 (OB l (STS ((h2, t) :: z) R)) Z := by
  subst hT hE
  exact (rall c hes hn).mono fun _ _ ⟨h2, e1, n⟩ => ⟨h2, e1, STS.front hR q n⟩
/-- The statements' own. -/
theorem olcopy (hR : R.Good) (q : At w0 (OB l (STS z R)) V) (hi : StIn V h s) :
    Calls Tryz.prog 12 #[.agg (stC h s)] V fun e Z => ∃ h2 : Sv, e = .returned (.agg (stC h2 s)) ∧ At w0 (OB l (STS ((h2, s) :: z) R)) Z :=
  (lcopystate hi).mono fun _ _ ⟨h2, e1, n⟩ => ⟨h2, e1, STS.front hR q n⟩
theorem olsame (hR : R.Good) {h' : Sv} {s' : St} {b : Bool} (q : At w0 (OB l (STS z R)) V) (h1 : StIn V h s) (h2 : StIn V h' s') (hb : decide (s = s') = b) :
    Calls Tryz.prog 9 #[.agg (stC h s), .agg (stC h' s')] V fun e Z => e = .returned (.bool b) ∧ At w0 (OB l (STS z R)) Z ∧ Below V.heap.size V Z := by
  subst hb
  exact (st_same h1 h2).mono fun _ _ ⟨e1, b⟩ => ⟨e1, OB.lay (STS.good hR) q b, b⟩
end
end Go.Proofs.YtopkcaflmpjhgaaGreat

