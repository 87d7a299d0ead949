/- Put together: Str7, Str8. Conditions: each theorem's own. -/
import Derived.Test.YtopkcaflmpjhgaaGreatBsa
import Derived.Test.YtopkcaflmpjhgaaGreatBsp
namespace Go.Proofs.YtopkcaflmpjhgaaGreat
open Go Go.RowKit

/-- What lies behind a state's rows, to the front. -/
theorem st_out (h : Sv) (s : St) (A C : Ass) : (StA h s (A.star C)).imp (A.star (StA h s C)) :=
  (((((Ass.imp.swap _ A C).under _).under _).under _)).trans (((((Ass.imp.swap _ A _).under _).under _)).trans ((((Ass.imp.swap _ A _).under _)).trans (Ass.imp.swap _ A _)))
theorem st_in (h : Sv) (s : St) (A C : Ass) : (A.star (StA h s C)).imp (StA h s (A.star C)) :=
  (Ass.imp.swap A _ _).trans (((Ass.imp.swap A _ _).under _).trans ((((Ass.imp.swap A _ _).under _).under _).trans ((((Ass.imp.swap A _ C).under _).under _).under _)))
theorem st_drop1 {w0 w : World} {h : Sv} {s : St} {A C : Ass} (q : At w0 (StA h s (A.star C)) w) : At w0 (StA h s C) w := (q.imp (st_out h s A C)).drop
theorem mv_pa (N U S P I C : Ass) : (N.star (U.star (S.star (P.star (I.star C))))).imp (U.star (S.star (N.star (I.star (P.star C))))) :=
  (Ass.imp.swap N U _).trans (((Ass.imp.swap N S _).under U).trans ((((Ass.imp.swap P I C).under N).under S).under U))
theorem mv_se (N U S P I C : Ass) : (N.star (U.star (S.star (P.star (I.star C))))).imp (U.star (N.star (P.star (I.star (S.star C))))) :=
  (Ass.imp.swap N U _).trans ((((Ass.imp.swap S P _).trans ((Ass.imp.swap S I C).under P)).under N).under U)
theorem mv_us (N U S P I C : Ass) : (N.star (U.star (S.star (P.star (I.star C))))).imp (N.star (S.star (P.star (I.star (U.star C))))) :=
  (((Ass.imp.swap U S _).trans (((Ass.imp.swap U P _).trans ((Ass.imp.swap U I C).under P)).under S))).under N
/-- A new row of addresses takes the old one's place, which goes behind; likewise a row of sessions. -/
theorem st_newPa {h : Sv} {s : St} {C : Ass} {a : Option Addr} {c n : Nat} {ad : List Pa} (hn : ad.length = n) :
    ((rowE TPa 3 (.slice a n c) n (paCells ad)).star (StA h s C)).imp (StA { h with p := a, pc := c } { s with ad := ad } ((rowE TPa 3 (.slice h.p s.ad.length h.pc) s.ad.length (paCells s.ad)).star C)) := by
  subst hn
  exact mv_pa _ _ _ _ _ _
theorem st_newSe {h : Sv} {s : St} {C : Ass} {a : Option Addr} {c n : Nat} {ss : List Se} (hn : ss.length = n) :
    ((rowE TSe 4 (.slice a n c) n (seCells ss)).star (StA h s C)).imp (StA { h with s := a, sc := c } { s with ss := ss } ((rowE TSe 4 (.slice h.s s.ss.length h.sc) s.ss.length (seCells s.ss)).star C)) := by
  subst hn
  exact mv_se _ _ _ _ _ _
theorem drop5 {w0 w : World} {U S P I A C : Ass} (q : At w0 (U.star (S.star (P.star (I.star (A.star C))))) w) : At w0 (U.star (S.star (P.star (I.star C)))) w :=
  (q.imp ((((((Ass.imp.swap I A C).under P).under S).under U)).trans (((((Ass.imp.swap P A _).under S).under U)).trans ((((Ass.imp.swap S A _).under U)).trans (Ass.imp.swap U A _))))).drop
theorem seAt_nil {w : World} {g : Nat} : SeAt w g 0 [] := fun i u hu => by simp [seCells] at hu
/-- A session's cells in a row of one's own. -/
theorem seEl {w0 w : World} {C : Ass} {g n cap : Nat} {es : List Se} (h : At w0 ((rowE TSe 4 (.slice (some ⟨g, 0, Option.none⟩) n cap) es.length (seCells es)).star C) w) {k : Nat} (hk : k < es.length) {x : Se} (hx : es.getD k Se.none = x) :
    w.cell? ⟨g, k * 4, Option.none⟩ = some (.int .i64 x.s) ∧ w.cell? ⟨g, k * 4 + 1, Option.none⟩ = some (.int .i64 x.u) ∧ w.cell? ⟨g, k * 4 + 2, Option.none⟩ = some (.int .i64 x.a) ∧ w.cell? ⟨g, k * 4 + 3, Option.none⟩ = some (.int .i64 x.t) := by
  subst hx
  obtain ⟨h1, h2⟩ := seAt_row h
  have h3 := h1.elem hk
  simpa only [Nat.zero_add] using h3
theorem rsessI {w : World} {h : Sv} {s : St} (hs : StIn w h s) {u : Int} {k : Nat} (hx : seAt s.ss u = some k) : Calls Tryz.prog 65 #[.agg (stC h s), .int .i64 u] w fun e w' => e = .returned (.int .i64 (k : Int)) ∧ Below w.heap.size w w' := by
  have hr := rsessat hs u
  rw [hx] at hr
  exact hr
theorem rsessN {w : World} {h : Sv} {s : St} (hs : StIn w h s) {u : Int} (hx : seAt s.ss u = none) : Calls Tryz.prog 65 #[.agg (stC h s), .int .i64 u] w fun e w' => e = .returned (.int .i64 (-1)) ∧ Below w.heap.size w w' := by
  have hr := rsessat hs u
  rw [hx] at hr
  exact hr
theorem ruserI {w : World} {h : Sv} {s : St} (hs : StIn w h s) {u : Int} {k : Nat} (hx : usAt s.us u = some k) : Calls Tryz.prog 51 #[.agg (stC h s), .int .i64 u] w fun e w' => e = .returned (.int .i64 (k : Int)) ∧ Below w.heap.size w w' := by
  have hr := ruserat hs u
  rw [hx] at hr
  exact hr
theorem ruserN {w : World} {h : Sv} {s : St} (hs : StIn w h s) {u : Int} (hx : usAt s.us u = none) : Calls Tryz.prog 51 #[.agg (stC h s), .int .i64 u] w fun e w' => e = .returned (.int .i64 (-1)) ∧ Below w.heap.size w w' := by
  have hr := ruserat hs u
  rw [hx] at hr
  exact hr
/-- The first k of a row, handed on. -/
theorem seIn_take {w : World} {g n : Nat} {es : List Se} (h : SeIn [] w (some ⟨g, 0, Option.none⟩) n es) {k : Nat} (hk : k < es.length) : SeIn [] w (some ⟨g, 0, Option.none⟩) k (es.take k) := by
  have hl : k = (es.take k).length := by rw [List.length_take]; omega
  refine ⟨hl, ?_, by have := h.few; have := h.len; omega⟩
  rcases h.row with c | ⟨b, off, e, h1, h2, h3⟩
  · have := h.len; omega
  · exact .inr ⟨b, off, e, seAt_take h1 k, h2, h3⟩
set_option maxRecDepth 100000 in
set_option maxHeartbeats 16000000 in
theorem rclosed_a {w0 w : World} {C : Ass} (hC : C.Good) {s : St} {h : Sv} (hS : At w0 (StA h s C) w) (hi : StIn w h s) {kind user session address ea eb ec tick : Int} (hx : seAt s.ss session = none) :
    Calls Tryz.prog 48 #[.agg (stC h s), .agg (evA ⟨kind, user, session, address, ea, eb, ec, tick⟩)] w fun r w' => r = .returned (.tuple #[.agg (stC h s), .bool false]) ∧ At w0 C w' := by
  have HQ := Lib.hid (ob3 (StA_good hC) hS (stC h s) (evA ⟨kind, user, session, address, ea, eb, ec, tick⟩) stZ TSt TEvt TSt)
  have HI := Lib.hid hi
  have HS := Lib.hid (fun (W : World) (q : StIn W h s) => rsessN q hx)
  clear hS hi hx
  go_enter Tryz.func48, Tryz.ntmps48
  go_wp2_with (first
    | (go_at_call 65; (with_reducible refine (HS.out _ (OB.stIn HQ.out HI.out)).mono ?_); rintro r w1 ⟨rfl, hb⟩; have q1 := OB.lay (StA_good hC) HQ.out hb; clear hb; have k10 := OB.at q1 (i := 0) rfl; have e10 := k10.cell; have g10 := k10.froz; have l10 := k10.lt; have k12 := OB.at q1 (i := 2) rfl; have e12 := k12.cell; have g12 := k12.froz; have l12 := k12.lt))
  refine bodyPost_ret (v := .tuple #[.agg (stC h s), .bool false]) (by simp [*, results, Tryz.results48, go_sem]) rfl ⟨rfl, ?_⟩
  exact (OB.wr7 (StA_good hC) q1 (i := 2) rfl (.int .i64 s.b) (.int .i64 s.e) (.int .i64 s.n) (.slice h.u s.us.length h.uc) (.slice h.s s.ss.length h.sc) (.slice h.p s.ad.length h.pc) (.slice h.i s.sp.length h.ic)).stDrop
set_option maxRecDepth 100000 in
set_option maxHeartbeats 16000000 in
theorem rclosed_b {w0 w : World} {C : Ass} (hC : C.Good) {s : St} {k : Nat} {hu : Option Addr} {gs huc hsc : Nat} {hp : Option Addr} {hpc : Nat} {hi' : Option Addr} {hic : Nat} (hS : At w0 (StA ⟨hu, huc, some ⟨gs, 0, Option.none⟩, hsc, hp, hpc, hi', hic⟩ s C) w) (hi : StIn w ⟨hu, huc, some ⟨gs, 0, Option.none⟩, hsc, hp, hpc, hi', hic⟩ s) {kind user session address ea eb ec tick : Int} (hx : seAt s.ss session = some k) (hk : k < s.ss.length) {x : Se} (hxx : s.ss.getD k Se.none = x) (hpf : pfOk s.ad x.a tick = false) :
    Calls Tryz.prog 48 #[.agg (stC ⟨hu, huc, some ⟨gs, 0, Option.none⟩, hsc, hp, hpc, hi', hic⟩ s), .agg (evA ⟨kind, user, session, address, ea, eb, ec, tick⟩)] w fun r w' => r = .returned (.tuple #[.agg (stC ⟨hu, huc, some ⟨gs, 0, Option.none⟩, hsc, hp, hpc, hi', hic⟩ s), .bool false]) ∧ At w0 C w' := by
  have HQ := Lib.hid (ob3 (StA_good hC) hS (stC ⟨hu, huc, some ⟨gs, 0, Option.none⟩, hsc, hp, hpc, hi', hic⟩ s) (evA ⟨kind, user, session, address, ea, eb, ec, tick⟩) stZ TSt TEvt TSt)
  have HI := Lib.hid hi
  have HS := Lib.hid (fun (W : World) (q : StIn W ⟨hu, huc, some ⟨gs, 0, Option.none⟩, hsc, hp, hpc, hi', hic⟩ s) => rsessI q hx)
  have hkI : (k : Int) < (s.ss.length : Int) := by omega
  have hk0 : ¬ (k : Int) < 0 := by omega
  have HT := Lib.hid (fun (W : World) (q : StIn W ⟨hu, huc, some ⟨gs, 0, Option.none⟩, hsc, hp, hpc, hi', hic⟩ s) => by have hr := rfree (cap := hpc) q.ad q.fa x.a tick; rw [(pf_no hpf).1, (pf_no hpf).2] at hr; exact hr)
  clear hS hi hx hpf
  go_enter Tryz.func48, Tryz.ntmps48
  go_wp2_with (first
    | (go_at_call 65; (with_reducible refine (HS.out _ (OB.stIn HQ.out HI.out)).mono ?_); rintro r w1 ⟨rfl, hb⟩; have q1 := OB.lay (StA_good hC) HQ.out hb; clear hb; have k10 := OB.at q1 (i := 0) rfl; have e10 := k10.cell; have g10 := k10.froz; have l10 := k10.lt; have k11 := OB.at q1 (i := 1) rfl; have e11 := k11.cell; have g11 := k11.froz; have l11 := k11.lt; have k12 := OB.at q1 (i := 2) rfl; have e12 := k12.cell; have g12 := k12.froz; have l12 := k12.lt; obtain ⟨y0, y1, y2, y3⟩ := seEl (OB.rest q1).drop hk hxx; have q1x := OB.hold (StA_good hC) q1 #[.int .i64 x.s, .int .i64 x.u, .int .i64 x.a, .int .i64 x.t] TSe (p := w1.heap.size) rfl)
    | (go_at_call 63; (with_reducible refine (HT.out _ (OB.stIn q1x HI.out)).mono ?_); rintro r w2 ⟨a2, c2, rfl, hN⟩; have q2 := OB.lay (StA_good hC) q1x (At.bel hN); clear hN; have k20 := OB.at q2 (i := 0) rfl; have e20 := k20.cell; have g20 := k20.froz; have l20 := k20.lt; have k22 := OB.at q2 (i := 2) rfl; have e22 := k22.cell; have g22 := k22.froz; have l22 := k22.lt))
  refine bodyPost_ret (v := .tuple #[.agg (stC ⟨hu, huc, some ⟨gs, 0, Option.none⟩, hsc, hp, hpc, hi', hic⟩ s), .bool false]) (by simp [*, results, Tryz.results48, go_sem]) rfl ⟨rfl, ?_⟩
  exact (OB.wr7 (StA_good hC) q2 (i := 2) rfl (.int .i64 s.b) (.int .i64 s.e) (.int .i64 s.n) (.slice hu s.us.length huc) (.slice (some ⟨gs, 0, Option.none⟩) s.ss.length hsc) (.slice hp s.ad.length hpc) (.slice hi' s.sp.length hic)).stDrop
set_option maxRecDepth 100000 in
set_option maxHeartbeats 16000000 in
theorem rclosed_cn {w0 w : World} {C : Ass} (hC : C.Good) {s : St} {k : Nat} {hu : Option Addr} {gs huc hsc : Nat} {hp : Option Addr} {hpc : Nat} {hi' : Option Addr} {hic : Nat} (hS : At w0 (StA ⟨hu, huc, some ⟨gs, 0, Option.none⟩, hsc, hp, hpc, hi', hic⟩ s C) w) (hi : StIn w ⟨hu, huc, some ⟨gs, 0, Option.none⟩, hsc, hp, hpc, hi', hic⟩ s) {kind user session address ea eb ec tick : Int} (hx : seAt s.ss session = some k) (hk : k < s.ss.length) {x : Se} (hxx : s.ss.getD k Se.none = x) (hpf : pfOk s.ad x.a tick = true) {ad' : List Pa} (had : ad' = s.ad.set x.a.toNat ⟨false, (s.ad.getD x.a.toNat .none).l, tick⟩) (hcc : s.ss.length ≤ hsc) (hne : ¬ hsc = k + 1) (hj : usAt s.us x.u = none) :
    Calls Tryz.prog 48 #[.agg (stC ⟨hu, huc, some ⟨gs, 0, Option.none⟩, hsc, hp, hpc, hi', hic⟩ s), .agg (evA ⟨kind, user, session, address, ea, eb, ec, tick⟩)] w fun r w' => ∃ h' : Sv, r = .returned (.tuple #[.agg (stC h' { s with us := s.us, ss := s.ss.take k ++ s.ss.drop (k + 1), ad := ad' }), .bool true]) ∧ At w0 (StA h' { s with us := s.us, ss := s.ss.take k ++ s.ss.drop (k + 1), ad := ad' } C) w' := by
  have HQ := Lib.hid (ob3 (StA_good hC) hS (stC ⟨hu, huc, some ⟨gs, 0, Option.none⟩, hsc, hp, hpc, hi', hic⟩ s) (evA ⟨kind, user, session, address, ea, eb, ec, tick⟩) stZ TSt TEvt TSt)
  have HI := Lib.hid hi
  have HS := Lib.hid (fun (W : World) (q : StIn W ⟨hu, huc, some ⟨gs, 0, Option.none⟩, hsc, hp, hpc, hi', hic⟩ s) => rsessI q hx)
  have hkI : (k : Int) < (s.ss.length : Int) := by omega
  have hk0 : ¬ (k : Int) < 0 := by omega
  have hl : ad'.length = s.ad.length := by rw [had, List.length_set]
  have HT := Lib.hid (fun (W : World) (q : StIn W ⟨hu, huc, some ⟨gs, 0, Option.none⟩, hsc, hp, hpc, hi', hic⟩ s) => by have hr := rfree (cap := hpc) q.ad q.fa x.a tick; rw [(pf_yes hpf).1, (pf_yes hpf).2, ← had] at hr; exact hr.mono fun _ _ z => z.on hl)
  have HU := Lib.hid (fun (W : World) (a2 : Option Addr) (c2 : Nat) (q : StIn W ⟨hu, huc, some ⟨gs, 0, Option.none⟩, hsc, a2, c2, hi', hic⟩ { s with ad := ad' }) => by have hr := ruserN q hj; simp only [stC, hl] at hr; exact hr)
  have HL := Lib.hid hl
  have hfew := hi.fs
  have hcI : (s.ss.length : Int) ≤ (hsc : Int) := by omega
  have hwk : IntKind.i64.wrap ((k : Int) + 1) = (k : Int) + 1 := by rw [IntKind.wrap_i64]; omega
  have hk1 : (k : Int) + 1 ≤ (s.ss.length : Int) := by omega
  have hkc : (k : Int) ≤ (hsc : Int) := by omega
  have hone : (k + (s.ss.length - (k + 1))) = (s.ss.take k ++ s.ss.drop (k + 1)).length := by rw [List.length_append, List.length_take, List.length_drop]; omega
  have HONE := Lib.hid hone
  have G2 : ((rowE TPa 3 (.slice hp s.ad.length hpc) s.ad.length (paCells s.ad)).star C).Good := (rowE_good _ _ _ _ _).star hC
  clear hS hi hx hpf had hl hj hone
  go_enter Tryz.func48, Tryz.ntmps48
  go_wp2_with (first
    | (go_at_call 65; (with_reducible refine (HS.out _ (OB.stIn HQ.out HI.out)).mono ?_); rintro r w1 ⟨rfl, hb⟩; have q1 := OB.lay (StA_good hC) HQ.out hb; clear hb; have k10 := OB.at q1 (i := 0) rfl; have e10 := k10.cell; have g10 := k10.froz; have l10 := k10.lt; have k11 := OB.at q1 (i := 1) rfl; have e11 := k11.cell; have g11 := k11.froz; have l11 := k11.lt; have k12 := OB.at q1 (i := 2) rfl; have e12 := k12.cell; have g12 := k12.froz; have l12 := k12.lt; obtain ⟨y0, y1, y2, y3⟩ := seEl (OB.rest q1).drop hk hxx; have q1x := OB.hold (StA_good hC) q1 #[.int .i64 x.s, .int .i64 x.u, .int .i64 x.a, .int .i64 x.t] TSe (p := w1.heap.size) rfl)
    | (go_at_call 63; (with_reducible refine (HT.out _ (OB.stIn q1x HI.out)).mono ?_); rintro r w2 ⟨a2, c2, rfl, hN⟩; have q2 := ((pa_front (OB.good (StA_good hC)) q1x hN).imp (OB.dn _ _ _)).imp (OB.under (st_newPa HL.out)); clear hN; have k20 := OB.at q2 (i := 0) rfl; have e20 := k20.cell; have g20 := k20.froz; have l20 := k20.lt; have k21 := OB.at q2 (i := 1) rfl; have e21 := k21.cell; have g21 := k21.froz; have l21 := k21.lt; have k23 := OB.at q2 (i := 3) rfl; have e23 := k23.cell; have g23 := k23.froz; have l23 := k23.lt; have q3 := OB.poke (StA_good G2) q2 0 rfl 5 (.slice a2 s.ad.length c2))
    | (go_at_call 51; (with_reducible refine (HU.out _ a2 c2 (At.stIn (OB.rest q3) HI.out.fu HI.out.fs (by show ad'.length ≤ _; rw [HL.out]; exact HI.out.fa) HI.out.fi)).mono ?_); rintro r w3 ⟨rfl, hb⟩; have q4 := OB.lay (StA_good G2) q3 hb; clear hb; have k40 := OB.at q4 (i := 0) rfl; have e40 := k40.cell; have g40 := k40.froz; have l40 := k40.lt; have k41 := OB.at q4 (i := 1) rfl; have e41 := k41.cell; have g41 := k41.froz; have l41 := k41.lt; have k42 := OB.at q4 (i := 2) rfl; have e42 := k42.cell; have g42 := k42.froz; have l42 := k42.lt)
    | (at_builtin; refine se_dupC (OB.good ((rowE_good _ _ _ _ _).star ((rowE_good _ _ _ _ _).star ((rowE_good _ _ _ _ _).star ((rowE_good _ _ _ _ _).star G2))))) rfl _ _ rfl (some ⟨gs, 0, Option.none⟩) k hsc (s.ss.take k) rfl (by simp) rfl q4 (seIn_take ((OB.rest q4).drop.seI rfl rfl (by show s.ss.length ≤ 4398046511104; omega)) hk) (by simp) (by omega) ?_; intro a6 c6 w6 hS6; have k60 := OB.at hS6.drop (i := 0) rfl; have e60 := k60.cell; have g60 := k60.froz; have l60 := k60.lt; have hg7 := se_grow (c := hsc - (k + 1)) (k := s.ss.length - (k + 1)) (n := k) (OB.good ((rowE_good _ _ _ _ _).star ((rowE_good _ _ _ _ _).star ((rowE_good _ _ _ _ _).star ((rowE_good _ _ _ _ _).star G2))))) hS6 (show SeAt w6 gs ((k + 1) * 4) (s.ss.drop (k + 1)) from by have hd := seAt_drop (seAt_row (OB.rest hS6.drop).drop).1 (k := k + 1) (show k + 1 ≤ s.ss.length by omega); rwa [Nat.zero_add] at hd) (by rw [List.length_drop]) (by rw [List.length_take]; omega) 25)
    | (at_builtin; obtain ⟨a7, c7, w7, hr7, hS7⟩ := hg7; refine se_app rfl _ _ rfl rfl rfl hr7 ?_; have k70 := OB.at hS7.drop (i := 0) rfl; have e70 := k70.cell; have g70 := k70.froz; have l70 := k70.lt; have k72 := OB.at hS7.drop (i := 2) rfl; have e72 := k72.cell; have g72 := k72.froz; have l72 := k72.lt; have q8 := OB.poke ((rowE_good _ _ _ _ _).star ((rowE_good _ _ _ _ _).star ((rowE_good _ _ _ _ _).star ((rowE_good _ _ _ _ _).star ((rowE_good _ _ _ _ _).star G2))))) (hS7.imp (OB.dn _ _ _)) 0 rfl 4 (.slice a7 (k + (s.ss.length - (k + 1))) c7)))
  refine bodyPost_ret (v := .tuple #[.agg #[.int .i64 s.b, .int .i64 s.e, .int .i64 s.n, .slice hu s.us.length huc, .slice a7 (k + (s.ss.length - (k + 1))) c7, .slice a2 s.ad.length c2, .slice hi' s.sp.length hic], .bool true]) (by simp [*, results, Tryz.results48, go_sem]) rfl ⟨⟨hu, huc, a7, c7, a2, c2, hi', hic⟩, by simp only [stC, ← HONE.out, HL.out], ?_⟩
  have q9 := OB.wr7 ((rowE_good _ _ _ _ _).star ((rowE_good _ _ _ _ _).star ((rowE_good _ _ _ _ _).star ((rowE_good _ _ _ _ _).star ((rowE_good _ _ _ _ _).star G2))))) q8 (i := 2) rfl (.int .i64 s.b) (.int .i64 s.e) (.int .i64 s.n) (.slice hu s.us.length huc) (.slice a7 (k + (s.ss.length - (k + 1))) c7) (.slice a2 s.ad.length c2) (.slice hi' s.sp.length hic)
  have q10 := drop5 (drop5 (q9.imp (mv_se _ _ _ _ _ _)))
  simp only [StA, ← HONE.out, HL.out] at q10 ⊢
  exact q10
set_option maxRecDepth 100000 in
set_option maxHeartbeats 16000000 in
theorem rclosed_ce {w0 w : World} {C : Ass} (hC : C.Good) {s : St} {k : Nat} {hu : Option Addr} {gs huc : Nat} {hp : Option Addr} {hpc : Nat} {hi' : Option Addr} {hic : Nat} (hS : At w0 (StA ⟨hu, huc, some ⟨gs, 0, Option.none⟩, (k + 1), hp, hpc, hi', hic⟩ s C) w) (hi : StIn w ⟨hu, huc, some ⟨gs, 0, Option.none⟩, (k + 1), hp, hpc, hi', hic⟩ s) {kind user session address ea eb ec tick : Int} (hx : seAt s.ss session = some k) (hk : k < s.ss.length) {x : Se} (hxx : s.ss.getD k Se.none = x) (hpf : pfOk s.ad x.a tick = true) {ad' : List Pa} (had : ad' = s.ad.set x.a.toNat ⟨false, (s.ad.getD x.a.toNat .none).l, tick⟩) (hcc : s.ss.length ≤ (k + 1)) (hj : usAt s.us x.u = none) :
    Calls Tryz.prog 48 #[.agg (stC ⟨hu, huc, some ⟨gs, 0, Option.none⟩, (k + 1), hp, hpc, hi', hic⟩ s), .agg (evA ⟨kind, user, session, address, ea, eb, ec, tick⟩)] w fun r w' => ∃ h' : Sv, r = .returned (.tuple #[.agg (stC h' { s with us := s.us, ss := s.ss.take k ++ s.ss.drop (k + 1), ad := ad' }), .bool true]) ∧ At w0 (StA h' { s with us := s.us, ss := s.ss.take k ++ s.ss.drop (k + 1), ad := ad' } C) w' := by
  have HQ := Lib.hid (ob3 (StA_good hC) hS (stC ⟨hu, huc, some ⟨gs, 0, Option.none⟩, (k + 1), hp, hpc, hi', hic⟩ s) (evA ⟨kind, user, session, address, ea, eb, ec, tick⟩) stZ TSt TEvt TSt)
  have HI := Lib.hid hi
  have HS := Lib.hid (fun (W : World) (q : StIn W ⟨hu, huc, some ⟨gs, 0, Option.none⟩, (k + 1), hp, hpc, hi', hic⟩ s) => rsessI q hx)
  have hkI : (k : Int) < (s.ss.length : Int) := by omega
  have hk0 : ¬ (k : Int) < 0 := by omega
  have hl : ad'.length = s.ad.length := by rw [had, List.length_set]
  have HT := Lib.hid (fun (W : World) (q : StIn W ⟨hu, huc, some ⟨gs, 0, Option.none⟩, (k + 1), hp, hpc, hi', hic⟩ s) => by have hr := rfree (cap := hpc) q.ad q.fa x.a tick; rw [(pf_yes hpf).1, (pf_yes hpf).2, ← had] at hr; exact hr.mono fun _ _ z => z.on hl)
  have HU := Lib.hid (fun (W : World) (a2 : Option Addr) (c2 : Nat) (q : StIn W ⟨hu, huc, some ⟨gs, 0, Option.none⟩, (k + 1), a2, c2, hi', hic⟩ { s with ad := ad' }) => by have hr := ruserN q hj; simp only [stC, hl] at hr; exact hr)
  have HL := Lib.hid hl
  have hfew := hi.fs
  have hcI : (s.ss.length : Int) ≤ ((k + 1) : Int) := by omega
  have hwk : IntKind.i64.wrap ((k : Int) + 1) = (k : Int) + 1 := by rw [IntKind.wrap_i64]; omega
  have hk1 : (k : Int) + 1 ≤ (s.ss.length : Int) := by omega
  have hkc : (k : Int) ≤ ((k + 1) : Int) := by omega
  have hone : (k + 0) = (s.ss.take k ++ s.ss.drop (k + 1)).length := by rw [List.length_append, List.length_take, List.length_drop]; omega
  have HONE := Lib.hid hone
  have G2 : ((rowE TPa 3 (.slice hp s.ad.length hpc) s.ad.length (paCells s.ad)).star C).Good := (rowE_good _ _ _ _ _).star hC
  clear hS hi hx hpf had hl hj hone
  go_enter Tryz.func48, Tryz.ntmps48
  go_wp2_with (first
    | (go_at_call 65; (with_reducible refine (HS.out _ (OB.stIn HQ.out HI.out)).mono ?_); rintro r w1 ⟨rfl, hb⟩; have q1 := OB.lay (StA_good hC) HQ.out hb; clear hb; have k10 := OB.at q1 (i := 0) rfl; have e10 := k10.cell; have g10 := k10.froz; have l10 := k10.lt; have k11 := OB.at q1 (i := 1) rfl; have e11 := k11.cell; have g11 := k11.froz; have l11 := k11.lt; have k12 := OB.at q1 (i := 2) rfl; have e12 := k12.cell; have g12 := k12.froz; have l12 := k12.lt; obtain ⟨y0, y1, y2, y3⟩ := seEl (OB.rest q1).drop hk hxx; have q1x := OB.hold (StA_good hC) q1 #[.int .i64 x.s, .int .i64 x.u, .int .i64 x.a, .int .i64 x.t] TSe (p := w1.heap.size) rfl)
    | (go_at_call 63; (with_reducible refine (HT.out _ (OB.stIn q1x HI.out)).mono ?_); rintro r w2 ⟨a2, c2, rfl, hN⟩; have q2 := ((pa_front (OB.good (StA_good hC)) q1x hN).imp (OB.dn _ _ _)).imp (OB.under (st_newPa HL.out)); clear hN; have k20 := OB.at q2 (i := 0) rfl; have e20 := k20.cell; have g20 := k20.froz; have l20 := k20.lt; have k21 := OB.at q2 (i := 1) rfl; have e21 := k21.cell; have g21 := k21.froz; have l21 := k21.lt; have k23 := OB.at q2 (i := 3) rfl; have e23 := k23.cell; have g23 := k23.froz; have l23 := k23.lt; have q3 := OB.poke (StA_good G2) q2 0 rfl 5 (.slice a2 s.ad.length c2))
    | (go_at_call 51; (with_reducible refine (HU.out _ a2 c2 (At.stIn (OB.rest q3) HI.out.fu HI.out.fs (by show ad'.length ≤ _; rw [HL.out]; exact HI.out.fa) HI.out.fi)).mono ?_); rintro r w3 ⟨rfl, hb⟩; have q4 := OB.lay (StA_good G2) q3 hb; clear hb; have k40 := OB.at q4 (i := 0) rfl; have e40 := k40.cell; have g40 := k40.froz; have l40 := k40.lt; have k41 := OB.at q4 (i := 1) rfl; have e41 := k41.cell; have g41 := k41.froz; have l41 := k41.lt; have k42 := OB.at q4 (i := 2) rfl; have e42 := k42.cell; have g42 := k42.froz; have l42 := k42.lt)
    | (at_builtin; refine se_dupC (OB.good ((rowE_good _ _ _ _ _).star ((rowE_good _ _ _ _ _).star ((rowE_good _ _ _ _ _).star ((rowE_good _ _ _ _ _).star G2))))) rfl _ _ rfl (some ⟨gs, 0, Option.none⟩) k (k + 1) (s.ss.take k) rfl (by simp) rfl q4 (seIn_take ((OB.rest q4).drop.seI rfl rfl (by show s.ss.length ≤ 4398046511104; omega)) hk) (by simp) (by omega) ?_; intro a6 c6 w6 hS6; have k60 := OB.at hS6.drop (i := 0) rfl; have e60 := k60.cell; have g60 := k60.froz; have l60 := k60.lt; have hg7 := se_grow (c := 0) (k := 0) (n := k) (OB.good ((rowE_good _ _ _ _ _).star ((rowE_good _ _ _ _ _).star ((rowE_good _ _ _ _ _).star ((rowE_good _ _ _ _ _).star G2))))) hS6 (show SeAt w6 gs 0 (s.ss.drop (k + 1)) from by rw [List.drop_of_length_le (by omega)]; exact seAt_nil) (by rw [List.length_drop]; show 0 = s.ss.length - (k + 1); omega) (by rw [List.length_take]; omega) 25)
    | (at_builtin; obtain ⟨a7, c7, w7, hr7, hS7⟩ := hg7; refine se_app rfl _ _ rfl rfl rfl hr7 ?_; have k70 := OB.at hS7.drop (i := 0) rfl; have e70 := k70.cell; have g70 := k70.froz; have l70 := k70.lt; have k72 := OB.at hS7.drop (i := 2) rfl; have e72 := k72.cell; have g72 := k72.froz; have l72 := k72.lt; have q8 := OB.poke ((rowE_good _ _ _ _ _).star ((rowE_good _ _ _ _ _).star ((rowE_good _ _ _ _ _).star ((rowE_good _ _ _ _ _).star ((rowE_good _ _ _ _ _).star G2))))) (hS7.imp (OB.dn _ _ _)) 0 rfl 4 (.slice a7 (k + 0) c7)))
  refine bodyPost_ret (v := .tuple #[.agg #[.int .i64 s.b, .int .i64 s.e, .int .i64 s.n, .slice hu s.us.length huc, .slice a7 (k + 0) c7, .slice a2 s.ad.length c2, .slice hi' s.sp.length hic], .bool true]) (by simp [*, results, Tryz.results48, go_sem]) rfl ⟨⟨hu, huc, a7, c7, a2, c2, hi', hic⟩, by simp only [stC, ← HONE.out, HL.out], ?_⟩
  have q9 := OB.wr7 ((rowE_good _ _ _ _ _).star ((rowE_good _ _ _ _ _).star ((rowE_good _ _ _ _ _).star ((rowE_good _ _ _ _ _).star ((rowE_good _ _ _ _ _).star G2))))) q8 (i := 2) rfl (.int .i64 s.b) (.int .i64 s.e) (.int .i64 s.n) (.slice hu s.us.length huc) (.slice a7 (k + 0) c7) (.slice a2 s.ad.length c2) (.slice hi' s.sp.length hic)
  have q10 := drop5 (drop5 (q9.imp (mv_se _ _ _ _ _ _)))
  simp only [StA, ← HONE.out, HL.out] at q10 ⊢
  exact q10
set_option maxRecDepth 100000 in
set_option maxHeartbeats 16000000 in
theorem rclosed_dn {w0 w : World} {C : Ass} (hC : C.Good) {s : St} {k : Nat} {gs huc hsc : Nat} {hp : Option Addr} {hpc : Nat} {hi' : Option Addr} {hic : Nat} {gu : Nat} (hS : At w0 (StA ⟨(some ⟨gu, 0, Option.none⟩), huc, some ⟨gs, 0, Option.none⟩, hsc, hp, hpc, hi', hic⟩ s C) w) (hi : StIn w ⟨(some ⟨gu, 0, Option.none⟩), huc, some ⟨gs, 0, Option.none⟩, hsc, hp, hpc, hi', hic⟩ s) {kind user session address ea eb ec tick : Int} (hx : seAt s.ss session = some k) (hk : k < s.ss.length) {x : Se} (hxx : s.ss.getD k Se.none = x) (hpf : pfOk s.ad x.a tick = true) {ad' : List Pa} (had : ad' = s.ad.set x.a.toNat ⟨false, (s.ad.getD x.a.toNat .none).l, tick⟩) (hcc : s.ss.length ≤ hsc) (hne : ¬ hsc = k + 1) {j : Nat} (hj : usAt s.us x.u = some j) (hjl : j < s.us.length) {xu : Us} (hxu : s.us.getD j Us.none = xu) (ea0 : 0 ≤ ea) (ea1 : ea ≤ 1073741823) (hw0 : -9223372036854775808 ≤ xu.used) (hw1 : xu.used ≤ 9223372036854775807) :
    Calls Tryz.prog 48 #[.agg (stC ⟨(some ⟨gu, 0, Option.none⟩), huc, some ⟨gs, 0, Option.none⟩, hsc, hp, hpc, hi', hic⟩ s), .agg (evA ⟨kind, user, session, address, ea, eb, ec, tick⟩)] w fun r w' => ∃ h' : Sv, r = .returned (.tuple #[.agg (stC h' { s with us := s.us.set j { xu with used := stSum xu.used ea }, ss := s.ss.take k ++ s.ss.drop (k + 1), ad := ad' }), .bool true]) ∧ At w0 (StA h' { s with us := s.us.set j { xu with used := stSum xu.used ea }, ss := s.ss.take k ++ s.ss.drop (k + 1), ad := ad' } C) w' := by
  have HQ := Lib.hid (ob3 (StA_good hC) hS (stC ⟨(some ⟨gu, 0, Option.none⟩), huc, some ⟨gs, 0, Option.none⟩, hsc, hp, hpc, hi', hic⟩ s) (evA ⟨kind, user, session, address, ea, eb, ec, tick⟩) stZ TSt TEvt TSt)
  have HI := Lib.hid hi
  have HS := Lib.hid (fun (W : World) (q : StIn W ⟨(some ⟨gu, 0, Option.none⟩), huc, some ⟨gs, 0, Option.none⟩, hsc, hp, hpc, hi', hic⟩ s) => rsessI q hx)
  have hkI : (k : Int) < (s.ss.length : Int) := by omega
  have hk0 : ¬ (k : Int) < 0 := by omega
  have hl : ad'.length = s.ad.length := by rw [had, List.length_set]
  have HT := Lib.hid (fun (W : World) (q : StIn W ⟨(some ⟨gu, 0, Option.none⟩), huc, some ⟨gs, 0, Option.none⟩, hsc, hp, hpc, hi', hic⟩ s) => by have hr := rfree (cap := hpc) q.ad q.fa x.a tick; rw [(pf_yes hpf).1, (pf_yes hpf).2, ← had] at hr; exact hr.mono fun _ _ z => z.on hl)
  have HU := Lib.hid (fun (W : World) (a2 : Option Addr) (c2 : Nat) (q : StIn W ⟨(some ⟨gu, 0, Option.none⟩), huc, some ⟨gs, 0, Option.none⟩, hsc, a2, c2, hi', hic⟩ { s with ad := ad' }) => by have hr := ruserI q hj; simp only [stC, hl] at hr; exact hr)
  have HL := Lib.hid hl
  have hfew := hi.fs
  have hcI : (s.ss.length : Int) ≤ (hsc : Int) := by omega
  have hwk : IntKind.i64.wrap ((k : Int) + 1) = (k : Int) + 1 := by rw [IntKind.wrap_i64]; omega
  have hk1 : (k : Int) + 1 ≤ (s.ss.length : Int) := by omega
  have hkc : (k : Int) ≤ (hsc : Int) := by omega
  have hone : (k + (s.ss.length - (k + 1))) = (s.ss.take k ++ s.ss.drop (k + 1)).length := by rw [List.length_append, List.length_take, List.length_drop]; omega
  have HONE := Lib.hid hone
  have G2 : ((rowE TPa 3 (.slice hp s.ad.length hpc) s.ad.length (paCells s.ad)).star C).Good := (rowE_good _ _ _ _ _).star hC
  have HSUM := Lib.hid (fun (W : World) => rsum xu.used ea ea0 ea1 hw0 hw1 W)
  have hjI : (j : Int) < (s.us.length : Int) := by omega
  have hj0 : ¬ (j : Int) < 0 := by omega
  have hj1 : 0 ≤ (j : Int) := by omega
  have hxu2 := Lib.hid hxu
  generalize hSS : stSum xu.used ea = su at *
  clear hS hi hx hpf had hl hj hone
  go_enter Tryz.func48, Tryz.ntmps48
  go_wp2_with (first
    | (go_at_call 65; (with_reducible refine (HS.out _ (OB.stIn HQ.out HI.out)).mono ?_); rintro r w1 ⟨rfl, hb⟩; have q1 := OB.lay (StA_good hC) HQ.out hb; clear hb; have k10 := OB.at q1 (i := 0) rfl; have e10 := k10.cell; have g10 := k10.froz; have l10 := k10.lt; have k11 := OB.at q1 (i := 1) rfl; have e11 := k11.cell; have g11 := k11.froz; have l11 := k11.lt; have k12 := OB.at q1 (i := 2) rfl; have e12 := k12.cell; have g12 := k12.froz; have l12 := k12.lt; obtain ⟨y0, y1, y2, y3⟩ := seEl (OB.rest q1).drop hk hxx; have q1x := OB.hold (StA_good hC) q1 #[.int .i64 x.s, .int .i64 x.u, .int .i64 x.a, .int .i64 x.t] TSe (p := w1.heap.size) rfl)
    | (go_at_call 63; (with_reducible refine (HT.out _ (OB.stIn q1x HI.out)).mono ?_); rintro r w2 ⟨a2, c2, rfl, hN⟩; have q2 := ((pa_front (OB.good (StA_good hC)) q1x hN).imp (OB.dn _ _ _)).imp (OB.under (st_newPa HL.out)); clear hN; have k20 := OB.at q2 (i := 0) rfl; have e20 := k20.cell; have g20 := k20.froz; have l20 := k20.lt; have k21 := OB.at q2 (i := 1) rfl; have e21 := k21.cell; have g21 := k21.froz; have l21 := k21.lt; have k23 := OB.at q2 (i := 3) rfl; have e23 := k23.cell; have g23 := k23.froz; have l23 := k23.lt; have q3 := OB.poke (StA_good G2) q2 0 rfl 5 (.slice a2 s.ad.length c2))
    | (go_at_call 51; (with_reducible refine (HU.out _ a2 c2 (At.stIn (OB.rest q3) HI.out.fu HI.out.fs (by show ad'.length ≤ _; rw [HL.out]; exact HI.out.fa) HI.out.fi)).mono ?_); rintro r w3 ⟨rfl, hb⟩; have q4 := OB.lay (StA_good G2) q3 hb; clear hb; have k40 := OB.at q4 (i := 0) rfl; have e40 := k40.cell; have g40 := k40.froz; have l40 := k40.lt; have k41 := OB.at q4 (i := 1) rfl; have e41 := k41.cell; have g41 := k41.froz; have l41 := k41.lt; have k42 := OB.at q4 (i := 2) rfl; have e42 := k42.cell; have g42 := k42.froz; have l42 := k42.lt; obtain ⟨z0, z1, z2, z3, z4, z5, z6, z7, z8, fz, gz⟩ := usEl (OB.rest q4) hjl hxu2.out; have q4u := OB.hold (StA_good G2) q4 (usA { xu with used := su }) TUs (p := w3.heap.size) rfl)
    | (go_at_call 66; (with_reducible refine (HSUM.out _).mono ?_); rintro r wz ⟨rfl, rfl⟩)
    | (refine us_storeC (OB.good ((rowE_good _ _ _ _ _).star ((rowE_good _ _ _ _ _).star ((rowE_good _ _ _ _ _).star G2)))) rfl _ _ rfl rfl rfl ({ xu with used := su } : Us) rfl (q4u.imp (OB.up _ _ _)) hjl ?_; intro W5 hW5; have q5 := hW5.imp (OB.dn _ _ _); clear hW5; have k50 := OB.at q5 (i := 0) rfl; have e50 := k50.cell; have g50 := k50.froz; have l50 := k50.lt; have k52 := OB.at q5 (i := 2) rfl; have e52 := k52.cell; have g52 := k52.froz; have l52 := k52.lt)
    | (at_builtin; refine se_dupC (OB.good ((rowE_good _ _ _ _ _).star ((rowE_good _ _ _ _ _).star ((rowE_good _ _ _ _ _).star ((rowE_good _ _ _ _ _).star G2))))) rfl _ _ rfl (some ⟨gs, 0, Option.none⟩) k hsc (s.ss.take k) rfl (by simp) rfl q5 (seIn_take ((OB.rest q5).drop.seI rfl rfl (by show s.ss.length ≤ 4398046511104; omega)) hk) (by simp) (by omega) ?_; intro a6 c6 w6 hS6; have k60 := OB.at hS6.drop (i := 0) rfl; have e60 := k60.cell; have g60 := k60.froz; have l60 := k60.lt; have hg7 := se_grow (c := hsc - (k + 1)) (k := s.ss.length - (k + 1)) (n := k) (OB.good ((rowE_good _ _ _ _ _).star ((rowE_good _ _ _ _ _).star ((rowE_good _ _ _ _ _).star ((rowE_good _ _ _ _ _).star G2))))) hS6 (show SeAt w6 gs ((k + 1) * 4) (s.ss.drop (k + 1)) from by have hd := seAt_drop (seAt_row (OB.rest hS6.drop).drop).1 (k := k + 1) (show k + 1 ≤ s.ss.length by omega); rwa [Nat.zero_add] at hd) (by rw [List.length_drop]) (by rw [List.length_take]; omega) 25)
    | (at_builtin; obtain ⟨a7, c7, w7, hr7, hS7⟩ := hg7; refine se_app rfl _ _ rfl rfl rfl hr7 ?_; have k70 := OB.at hS7.drop (i := 0) rfl; have e70 := k70.cell; have g70 := k70.froz; have l70 := k70.lt; have k72 := OB.at hS7.drop (i := 2) rfl; have e72 := k72.cell; have g72 := k72.froz; have l72 := k72.lt; have q8 := OB.poke ((rowE_good _ _ _ _ _).star ((rowE_good _ _ _ _ _).star ((rowE_good _ _ _ _ _).star ((rowE_good _ _ _ _ _).star ((rowE_good _ _ _ _ _).star G2))))) (hS7.imp (OB.dn _ _ _)) 0 rfl 4 (.slice a7 (k + (s.ss.length - (k + 1))) c7)))
  refine bodyPost_ret (v := .tuple #[.agg #[.int .i64 s.b, .int .i64 s.e, .int .i64 s.n, .slice (some ⟨gu, 0, Option.none⟩) s.us.length huc, .slice a7 (k + (s.ss.length - (k + 1))) c7, .slice a2 s.ad.length c2, .slice hi' s.sp.length hic], .bool true]) (by simp [*, results, Tryz.results48, go_sem]) rfl ⟨⟨(some ⟨gu, 0, Option.none⟩), huc, a7, c7, a2, c2, hi', hic⟩, by simp only [stC, ← HONE.out, HL.out, List.length_set], ?_⟩
  have q9 := OB.wr7 ((rowE_good _ _ _ _ _).star ((rowE_good _ _ _ _ _).star ((rowE_good _ _ _ _ _).star ((rowE_good _ _ _ _ _).star ((rowE_good _ _ _ _ _).star G2))))) q8 (i := 2) rfl (.int .i64 s.b) (.int .i64 s.e) (.int .i64 s.n) (.slice (some ⟨gu, 0, Option.none⟩) s.us.length huc) (.slice a7 (k + (s.ss.length - (k + 1))) c7) (.slice a2 s.ad.length c2) (.slice hi' s.sp.length hic)
  have q10 := drop5 (drop5 (q9.imp (mv_se _ _ _ _ _ _)))
  simp only [StA, ← HONE.out, HL.out, List.length_set] at q10 ⊢
  exact q10
set_option maxRecDepth 100000 in
set_option maxHeartbeats 16000000 in
theorem rclosed_de {w0 w : World} {C : Ass} (hC : C.Good) {s : St} {k : Nat} {gs huc : Nat} {hp : Option Addr} {hpc : Nat} {hi' : Option Addr} {hic : Nat} {gu : Nat} (hS : At w0 (StA ⟨(some ⟨gu, 0, Option.none⟩), huc, some ⟨gs, 0, Option.none⟩, (k + 1), hp, hpc, hi', hic⟩ s C) w) (hi : StIn w ⟨(some ⟨gu, 0, Option.none⟩), huc, some ⟨gs, 0, Option.none⟩, (k + 1), hp, hpc, hi', hic⟩ s) {kind user session address ea eb ec tick : Int} (hx : seAt s.ss session = some k) (hk : k < s.ss.length) {x : Se} (hxx : s.ss.getD k Se.none = x) (hpf : pfOk s.ad x.a tick = true) {ad' : List Pa} (had : ad' = s.ad.set x.a.toNat ⟨false, (s.ad.getD x.a.toNat .none).l, tick⟩) (hcc : s.ss.length ≤ (k + 1)) {j : Nat} (hj : usAt s.us x.u = some j) (hjl : j < s.us.length) {xu : Us} (hxu : s.us.getD j Us.none = xu) (ea0 : 0 ≤ ea) (ea1 : ea ≤ 1073741823) (hw0 : -9223372036854775808 ≤ xu.used) (hw1 : xu.used ≤ 9223372036854775807) :
    Calls Tryz.prog 48 #[.agg (stC ⟨(some ⟨gu, 0, Option.none⟩), huc, some ⟨gs, 0, Option.none⟩, (k + 1), hp, hpc, hi', hic⟩ s), .agg (evA ⟨kind, user, session, address, ea, eb, ec, tick⟩)] w fun r w' => ∃ h' : Sv, r = .returned (.tuple #[.agg (stC h' { s with us := s.us.set j { xu with used := stSum xu.used ea }, ss := s.ss.take k ++ s.ss.drop (k + 1), ad := ad' }), .bool true]) ∧ At w0 (StA h' { s with us := s.us.set j { xu with used := stSum xu.used ea }, ss := s.ss.take k ++ s.ss.drop (k + 1), ad := ad' } C) w' := by
  have HQ := Lib.hid (ob3 (StA_good hC) hS (stC ⟨(some ⟨gu, 0, Option.none⟩), huc, some ⟨gs, 0, Option.none⟩, (k + 1), hp, hpc, hi', hic⟩ s) (evA ⟨kind, user, session, address, ea, eb, ec, tick⟩) stZ TSt TEvt TSt)
  have HI := Lib.hid hi
  have HS := Lib.hid (fun (W : World) (q : StIn W ⟨(some ⟨gu, 0, Option.none⟩), huc, some ⟨gs, 0, Option.none⟩, (k + 1), hp, hpc, hi', hic⟩ s) => rsessI q hx)
  have hkI : (k : Int) < (s.ss.length : Int) := by omega
  have hk0 : ¬ (k : Int) < 0 := by omega
  have hl : ad'.length = s.ad.length := by rw [had, List.length_set]
  have HT := Lib.hid (fun (W : World) (q : StIn W ⟨(some ⟨gu, 0, Option.none⟩), huc, some ⟨gs, 0, Option.none⟩, (k + 1), hp, hpc, hi', hic⟩ s) => by have hr := rfree (cap := hpc) q.ad q.fa x.a tick; rw [(pf_yes hpf).1, (pf_yes hpf).2, ← had] at hr; exact hr.mono fun _ _ z => z.on hl)
  have HU := Lib.hid (fun (W : World) (a2 : Option Addr) (c2 : Nat) (q : StIn W ⟨(some ⟨gu, 0, Option.none⟩), huc, some ⟨gs, 0, Option.none⟩, (k + 1), a2, c2, hi', hic⟩ { s with ad := ad' }) => by have hr := ruserI q hj; simp only [stC, hl] at hr; exact hr)
  have HL := Lib.hid hl
  have hfew := hi.fs
  have hcI : (s.ss.length : Int) ≤ ((k + 1) : Int) := by omega
  have hwk : IntKind.i64.wrap ((k : Int) + 1) = (k : Int) + 1 := by rw [IntKind.wrap_i64]; omega
  have hk1 : (k : Int) + 1 ≤ (s.ss.length : Int) := by omega
  have hkc : (k : Int) ≤ ((k + 1) : Int) := by omega
  have hone : (k + 0) = (s.ss.take k ++ s.ss.drop (k + 1)).length := by rw [List.length_append, List.length_take, List.length_drop]; omega
  have HONE := Lib.hid hone
  have G2 : ((rowE TPa 3 (.slice hp s.ad.length hpc) s.ad.length (paCells s.ad)).star C).Good := (rowE_good _ _ _ _ _).star hC
  have HSUM := Lib.hid (fun (W : World) => rsum xu.used ea ea0 ea1 hw0 hw1 W)
  have hjI : (j : Int) < (s.us.length : Int) := by omega
  have hj0 : ¬ (j : Int) < 0 := by omega
  have hj1 : 0 ≤ (j : Int) := by omega
  have hxu2 := Lib.hid hxu
  generalize hSS : stSum xu.used ea = su at *
  clear hS hi hx hpf had hl hj hone
  go_enter Tryz.func48, Tryz.ntmps48
  go_wp2_with (first
    | (go_at_call 65; (with_reducible refine (HS.out _ (OB.stIn HQ.out HI.out)).mono ?_); rintro r w1 ⟨rfl, hb⟩; have q1 := OB.lay (StA_good hC) HQ.out hb; clear hb; have k10 := OB.at q1 (i := 0) rfl; have e10 := k10.cell; have g10 := k10.froz; have l10 := k10.lt; have k11 := OB.at q1 (i := 1) rfl; have e11 := k11.cell; have g11 := k11.froz; have l11 := k11.lt; have k12 := OB.at q1 (i := 2) rfl; have e12 := k12.cell; have g12 := k12.froz; have l12 := k12.lt; obtain ⟨y0, y1, y2, y3⟩ := seEl (OB.rest q1).drop hk hxx; have q1x := OB.hold (StA_good hC) q1 #[.int .i64 x.s, .int .i64 x.u, .int .i64 x.a, .int .i64 x.t] TSe (p := w1.heap.size) rfl)
    | (go_at_call 63; (with_reducible refine (HT.out _ (OB.stIn q1x HI.out)).mono ?_); rintro r w2 ⟨a2, c2, rfl, hN⟩; have q2 := ((pa_front (OB.good (StA_good hC)) q1x hN).imp (OB.dn _ _ _)).imp (OB.under (st_newPa HL.out)); clear hN; have k20 := OB.at q2 (i := 0) rfl; have e20 := k20.cell; have g20 := k20.froz; have l20 := k20.lt; have k21 := OB.at q2 (i := 1) rfl; have e21 := k21.cell; have g21 := k21.froz; have l21 := k21.lt; have k23 := OB.at q2 (i := 3) rfl; have e23 := k23.cell; have g23 := k23.froz; have l23 := k23.lt; have q3 := OB.poke (StA_good G2) q2 0 rfl 5 (.slice a2 s.ad.length c2))
    | (go_at_call 51; (with_reducible refine (HU.out _ a2 c2 (At.stIn (OB.rest q3) HI.out.fu HI.out.fs (by show ad'.length ≤ _; rw [HL.out]; exact HI.out.fa) HI.out.fi)).mono ?_); rintro r w3 ⟨rfl, hb⟩; have q4 := OB.lay (StA_good G2) q3 hb; clear hb; have k40 := OB.at q4 (i := 0) rfl; have e40 := k40.cell; have g40 := k40.froz; have l40 := k40.lt; have k41 := OB.at q4 (i := 1) rfl; have e41 := k41.cell; have g41 := k41.froz; have l41 := k41.lt; have k42 := OB.at q4 (i := 2) rfl; have e42 := k42.cell; have g42 := k42.froz; have l42 := k42.lt; obtain ⟨z0, z1, z2, z3, z4, z5, z6, z7, z8, fz, gz⟩ := usEl (OB.rest q4) hjl hxu2.out; have q4u := OB.hold (StA_good G2) q4 (usA { xu with used := su }) TUs (p := w3.heap.size) rfl)
    | (go_at_call 66; (with_reducible refine (HSUM.out _).mono ?_); rintro r wz ⟨rfl, rfl⟩)
    | (refine us_storeC (OB.good ((rowE_good _ _ _ _ _).star ((rowE_good _ _ _ _ _).star ((rowE_good _ _ _ _ _).star G2)))) rfl _ _ rfl rfl rfl ({ xu with used := su } : Us) rfl (q4u.imp (OB.up _ _ _)) hjl ?_; intro W5 hW5; have q5 := hW5.imp (OB.dn _ _ _); clear hW5; have k50 := OB.at q5 (i := 0) rfl; have e50 := k50.cell; have g50 := k50.froz; have l50 := k50.lt; have k52 := OB.at q5 (i := 2) rfl; have e52 := k52.cell; have g52 := k52.froz; have l52 := k52.lt)
    | (at_builtin; refine se_dupC (OB.good ((rowE_good _ _ _ _ _).star ((rowE_good _ _ _ _ _).star ((rowE_good _ _ _ _ _).star ((rowE_good _ _ _ _ _).star G2))))) rfl _ _ rfl (some ⟨gs, 0, Option.none⟩) k (k + 1) (s.ss.take k) rfl (by simp) rfl q5 (seIn_take ((OB.rest q5).drop.seI rfl rfl (by show s.ss.length ≤ 4398046511104; omega)) hk) (by simp) (by omega) ?_; intro a6 c6 w6 hS6; have k60 := OB.at hS6.drop (i := 0) rfl; have e60 := k60.cell; have g60 := k60.froz; have l60 := k60.lt; have hg7 := se_grow (c := 0) (k := 0) (n := k) (OB.good ((rowE_good _ _ _ _ _).star ((rowE_good _ _ _ _ _).star ((rowE_good _ _ _ _ _).star ((rowE_good _ _ _ _ _).star G2))))) hS6 (show SeAt w6 gs 0 (s.ss.drop (k + 1)) from by rw [List.drop_of_length_le (by omega)]; exact seAt_nil) (by rw [List.length_drop]; show 0 = s.ss.length - (k + 1); omega) (by rw [List.length_take]; omega) 25)
    | (at_builtin; obtain ⟨a7, c7, w7, hr7, hS7⟩ := hg7; refine se_app rfl _ _ rfl rfl rfl hr7 ?_; have k70 := OB.at hS7.drop (i := 0) rfl; have e70 := k70.cell; have g70 := k70.froz; have l70 := k70.lt; have k72 := OB.at hS7.drop (i := 2) rfl; have e72 := k72.cell; have g72 := k72.froz; have l72 := k72.lt; have q8 := OB.poke ((rowE_good _ _ _ _ _).star ((rowE_good _ _ _ _ _).star ((rowE_good _ _ _ _ _).star ((rowE_good _ _ _ _ _).star ((rowE_good _ _ _ _ _).star G2))))) (hS7.imp (OB.dn _ _ _)) 0 rfl 4 (.slice a7 (k + 0) c7)))
  refine bodyPost_ret (v := .tuple #[.agg #[.int .i64 s.b, .int .i64 s.e, .int .i64 s.n, .slice (some ⟨gu, 0, Option.none⟩) s.us.length huc, .slice a7 (k + 0) c7, .slice a2 s.ad.length c2, .slice hi' s.sp.length hic], .bool true]) (by simp [*, results, Tryz.results48, go_sem]) rfl ⟨⟨(some ⟨gu, 0, Option.none⟩), huc, a7, c7, a2, c2, hi', hic⟩, by simp only [stC, ← HONE.out, HL.out, List.length_set], ?_⟩
  have q9 := OB.wr7 ((rowE_good _ _ _ _ _).star ((rowE_good _ _ _ _ _).star ((rowE_good _ _ _ _ _).star ((rowE_good _ _ _ _ _).star ((rowE_good _ _ _ _ _).star G2))))) q8 (i := 2) rfl (.int .i64 s.b) (.int .i64 s.e) (.int .i64 s.n) (.slice (some ⟨gu, 0, Option.none⟩) s.us.length huc) (.slice a7 (k + 0) c7) (.slice a2 s.ad.length c2) (.slice hi' s.sp.length hic)
  have q10 := drop5 (drop5 (q9.imp (mv_se _ _ _ _ _ _)))
  simp only [StA, ← HONE.out, HL.out, List.length_set] at q10 ⊢
  exact q10
end Go.Proofs.YtopkcaflmpjhgaaGreat

namespace Go.Proofs.YtopkcaflmpjhgaaGreat
open Go Go.RowKit

abbrev bor0 : Oper := { dst := some 32, op := Op.fieldAddr 29 (Operand.tmp 4) 5, type := 0, pos := "ref.go:117", after := #[], guard := none }
abbrev bor1 : Oper := { dst := some 33, op := Op.load 26 (Operand.tmp 32), type := 26, pos := "ref.go:117", after := #[{ on := 0, ground := Ground.data }], guard := none }
abbrev bor2 : Oper := { dst := some 34, op := Op.fieldAddr 29 (Operand.tmp 4) 4, type := 0, pos := "ref.go:117", after := #[], guard := none }
abbrev bor3 : Oper := { dst := some 35, op := Op.load 25 (Operand.tmp 34), type := 25, pos := "ref.go:117", after := #[{ on := 2, ground := Ground.data }], guard := none }
abbrev bor4 : Oper := { dst := some 36, op := Op.move (Operand.tmp 8), type := 3, pos := "ref.go:117", after := #[], guard := none }
abbrev bor5 : Oper := { dst := some 37, op := Op.indexAddr 25 (Operand.tmp 35) (Operand.tmp 36), type := 0, pos := "ref.go:117", after := #[{ on := 3, ground := Ground.data }, { on := 4, ground := Ground.data }], guard := none }
abbrev bor6 : Oper := { dst := some 38, op := Op.fieldAddr 66 (Operand.tmp 37) 2, type := 0, pos := "ref.go:117", after := #[{ on := 5, ground := Ground.data }], guard := none }
abbrev bor7 : Oper := { dst := some 39, op := Op.load 3 (Operand.tmp 38), type := 3, pos := "ref.go:117", after := #[{ on := 6, ground := Ground.data }], guard := none }
abbrev bor8 : Oper := { dst := some 40, op := Op.fieldAddr 45 (Operand.tmp 5) 7, type := 0, pos := "ref.go:117", after := #[], guard := none }
abbrev bor9 : Oper := { dst := some 41, op := Op.load 3 (Operand.tmp 40), type := 3, pos := "ref.go:117", after := #[{ on := 8, ground := Ground.data }], guard := none }
abbrev bor10 : Oper := { dst := some 42, op := Op.fieldAddr 23 (Operand.tmp 3) 9, type := 0, pos := "ref.go:117", after := #[], guard := none }
abbrev bor11 : Oper := { dst := some 43, op := Op.load 3 (Operand.tmp 42), type := 3, pos := "ref.go:117", after := #[{ on := 10, ground := Ground.data }], guard := none }
abbrev bor12 : Oper := { dst := some 44, op := Op.binOp BinOp.add 3 (Operand.tmp 41) (Operand.tmp 43) 3, type := 3, pos := "ref.go:117", after := #[{ on := 9, ground := Ground.data }, { on := 11, ground := Ground.data }], guard := none }
abbrev bor13 : Oper := { dst := some 45, op := Op.call { callee := Callee.value (Operand.func 63), args := #[Operand.tmp 33, Operand.tmp 39, Operand.tmp 44], argTypes := #[26, 3, 3] }, type := 52, pos := "ref.go:117", after := #[{ on := 1, ground := Ground.data }, { on := 7, ground := Ground.data }, { on := 12, ground := Ground.data }], guard := none }
abbrev bor14 : Oper := { dst := some 31, op := Op.move (Operand.tmp 45), type := 52, pos := "ref.go:117", after := #[{ on := 13, ground := Ground.data }], guard := none }
abbrev bor15 : Oper := { dst := some 46, op := Op.extract (Operand.tmp 31) 0, type := 26, pos := "ref.go:117", after := #[{ on := 14, ground := Ground.data }], guard := none }
abbrev bor16 : Oper := { dst := some 47, op := Op.extract (Operand.tmp 31) 1, type := 3, pos := "ref.go:117", after := #[{ on := 14, ground := Ground.data }, { on := 17, ground := Ground.gcOnly Departure.lateStores }], guard := none }
abbrev bor17 : Oper := { dst := some 9, op := Op.assign (Operand.tmp 46), type := 26, pos := "ref.go:117", after := #[{ on := 15, ground := Ground.data }, { on := 13, ground := Ground.chain }, { on := 0, ground := Ground.phase }, { on := 1, ground := Ground.phase }, { on := 2, ground := Ground.phase }, { on := 3, ground := Ground.phase }, { on := 4, ground := Ground.phase }, { on := 5, ground := Ground.phase }, { on := 6, ground := Ground.phase }, { on := 7, ground := Ground.phase }, { on := 8, ground := Ground.phase }, { on := 9, ground := Ground.phase }, { on := 10, ground := Ground.phase }, { on := 11, ground := Ground.phase }, { on := 12, ground := Ground.phase }, { on := 13, ground := Ground.phase }, { on := 14, ground := Ground.phase }, { on := 15, ground := Ground.phase }, { on := 16, ground := Ground.textOnly Departure.lateStores }], guard := none }
abbrev bor18 : Oper := { dst := some 10, op := Op.assign (Operand.tmp 47), type := 3, pos := "ref.go:117", after := #[{ on := 16, ground := Ground.data }, { on := 17, ground := Ground.chain }, { on := 0, ground := Ground.phase }, { on := 1, ground := Ground.phase }, { on := 2, ground := Ground.phase }, { on := 3, ground := Ground.phase }, { on := 4, ground := Ground.phase }, { on := 5, ground := Ground.phase }, { on := 6, ground := Ground.phase }, { on := 7, ground := Ground.phase }, { on := 8, ground := Ground.phase }, { on := 9, ground := Ground.phase }, { on := 10, ground := Ground.phase }, { on := 11, ground := Ground.phase }, { on := 12, ground := Ground.phase }, { on := 13, ground := Ground.phase }, { on := 14, ground := Ground.phase }, { on := 15, ground := Ground.phase }, { on := 16, ground := Ground.phase }, { on := 17, ground := Ground.phase }], guard := none }
theorem OB.stDrop1 {w0 w : World} {l : List Ob} {h : Sv} {s : St} {A C : Ass} (q : At w0 (OB l (StA h s (A.star C))) w) : At w0 (OB l (StA h s C)) w := (q.imp ((OB.under (st_out h s A C)).trans (OB.up _ _ _))).drop
/-- The walk's memory. -/
def BoS (w0 w : World) (c : Cf) (s : St) (C : Ass) (E : Ev) (hu : Option Addr) (huc : Nat) (hs : Option Addr) (hsc : Nat) (hi : Option Addr) (hic : Nat) (a : Option Addr) (cc : Nat) (ad : List Pa) (Z : World) : Prop :=
  At w0 (OB [(w.heap.size, cfC c, TCf), (w.heap.size + 1, #[.int .i64 (s.b + 1), .int .i64 s.e, .int .i64 s.n, .slice hu s.us.length huc, .slice hs s.ss.length hsc, .slice a s.ad.length cc, .slice hi s.sp.length hic], TSt), (w.heap.size + 1 + 1, evA E, TEvt), (w.heap.size + 1 + 1 + 1, stZ, TSt)] (StA ⟨hu, huc, hs, hsc, a, cc, hi, hic⟩ { s with b := s.b + 1, ad := ad } C)) Z
theorem stFree_step {t : Int} {ss : List Se} {k : Nat} (hk : k < ss.length) {x : Se} (hx : ss.getD k Se.none = x) (ad : List Pa) : stFreeAll t (ss.drop k) ad = if pfOk ad x.a t then stFreeAll t (ss.drop (k + 1)) (ad.set x.a.toNat ⟨false, (ad.getD x.a.toNat .none).l, t⟩) else none := by
  have e : ss.drop k = x :: ss.drop (k + 1) := by
    rw [List.drop_eq_getElem_cons hk, ← hx]; simp [List.getD, hk]
  rw [e, stFreeAll]
set_option maxRecDepth 100000 in
set_option maxHeartbeats 16000000 in
theorem rbooted_y {w0 w : World} {C : Ass} (hC : C.Good) {c : Cf} {s : St} {hu : Option Addr} {huc : Nat} {hs : Option Addr} {hsc : Nat} {hp : Option Addr} {hpc : Nat} {hi' : Option Addr} {hic : Nat} (hS : At w0 (StA ⟨hu, huc, hs, hsc, hp, hpc, hi', hic⟩ s C) w) (hi : StIn w ⟨hu, huc, hs, hsc, hp, hpc, hi', hic⟩ s) {kind user session address ea eb ec tick : Int} (b0 : 0 ≤ s.b) (b1 : s.b < 1073741823) (t0 : 0 ≤ tick) (t1 : tick ≤ 1048575) (q0 : 0 ≤ c.qua) (q1 : c.qua ≤ 65536) {adF : List Pa} (hR : stFreeAll (tick + c.qua) s.ss s.ad = some adF) :
    Calls Tryz.prog 46 #[.agg (cfC c), .agg (stC ⟨hu, huc, hs, hsc, hp, hpc, hi', hic⟩ s), .agg (evA ⟨kind, user, session, address, ea, eb, ec, tick⟩)] w fun r w' => ∃ h' : Sv, r = .returned (.tuple #[.agg (stC h' { s with b := s.b + 1, ss := [], ad := adF }), .bool true]) ∧ At w0 (StA h' { s with b := s.b + 1, ss := [], ad := adF } C) w' := by
  have hq := ob4 (StA_good hC) hS (cfC c) (stC ⟨hu, huc, hs, hsc, hp, hpc, hi', hic⟩ s) (evA ⟨kind, user, session, address, ea, eb, ec, tick⟩) stZ TCf TSt TEvt TSt
  have hq2 : BoS w0 w c s C ⟨kind, user, session, address, ea, eb, ec, tick⟩ hu huc hs hsc hi' hic hp hpc s.ad (w.alloc (.cells (cfC c) TCf) |>.alloc (.cells #[.int .i64 (s.b + 1), .int .i64 s.e, .int .i64 s.n, .slice hu s.us.length huc, .slice hs s.ss.length hsc, .slice hp s.ad.length hpc, .slice hi' s.sp.length hic] TSt) |>.alloc (.cells (evA ⟨kind, user, session, address, ea, eb, ec, tick⟩) TEvt) |>.alloc (.cells stZ TSt)) := ob4 (StA_good hC) hS (cfC c) _ (evA ⟨kind, user, session, address, ea, eb, ec, tick⟩) stZ TCf TSt TEvt TSt
  have HI := Lib.hid hi
  have hfew := hi.fs
  have hfa := hi.fa
  have hw1 : IntKind.i64.wrap (s.b + 1) = s.b + 1 := by rw [IntKind.wrap_i64]; omega
  have hwt : IntKind.i64.wrap (tick + c.qua) = tick + c.qua := by rw [IntKind.wrap_i64]; omega
  have hb0 : ¬ s.b < 0 := by omega
  have hb1 : ¬ 1073741823 ≤ s.b := by omega
  have HQ := Lib.hid hq2
  obtain ⟨tt, htt⟩ : ∃ tt, tick + c.qua = tt := ⟨_, rfl⟩
  rw [htt] at hR hwt
  have HR := Lib.hid hR
  clear hS hi hq hq2 hR
  go_enter Tryz.func46, Tryz.ntmps46
  go_wp2
  go_loopw [8] (fun i wr => ∃ (k : Nat) (ad : List Pa) (a : Option Addr) (cc : Nat), k ≤ s.ss.length ∧ i = .int .i64 (k : Int) ∧ stFreeAll tt (s.ss.drop k) ad = some adF ∧ ad.length = s.ad.length ∧ Aside (BoS w0 w c s C ⟨kind, user, session, address, ea, eb, ec, tick⟩ hu huc hs hsc hi' hic a cc ad wr)) (fun i _ => s.ss.length - (intOf i).toNat)
  case atStart => exact ⟨0, s.ad, hp, hpc, Nat.zero_le _, rfl, HR.out, rfl, (show Aside _ from HQ.out)⟩
  case round =>
    obtain ⟨k, ad, a, cc, hk, rfl, hF, hl, hall⟩ := hrel
    have q := hall.out
    clear hall
    have kB0 := OB.at q (i := 1) rfl
    have eB0 := kB0.cell
    have lB0 := kB0.lt
    have gB0 := kB0.froz
    have kR0 := OB.at q (i := 3) rfl
    have eR0 := kR0.cell
    have lR0 := kR0.lt
    have gR0 := kR0.froz
    by_cases hlt : k < s.ss.length
    · have hltI : (k : Int) < (s.ss.length : Int) := by omega
      have hk0 : ¬ (k : Int) < 0 := by omega
      obtain ⟨gs, hgs, -, -⟩ := se_big (OB.rest q).drop (by show 1 ≤ s.ss.length; omega)
      obtain rfl : hs = some ⟨gs, 0, none⟩ := hgs
      obtain ⟨x, hxx⟩ : ∃ x, s.ss.getD k Se.none = x := ⟨_, rfl⟩
      rw [stFree_step hlt hxx] at hF
      have hin : StIn wr ⟨hu, huc, some ⟨gs, 0, none⟩, hsc, a, cc, hi', hic⟩ { s with b := s.b + 1, ad := ad } := At.stIn (OB.rest q) HI.out.fu HI.out.fs (by show ad.length ≤ _; omega) HI.out.fi
      cases hpf : pfOk ad x.a tt with
      | false => rw [hpf] at hF; cases hF
      | true =>
        rw [hpf, if_pos rfl] at hF
        have HT := Lib.hid (fun (W : World) (z : StIn W ⟨hu, huc, some ⟨gs, 0, none⟩, hsc, a, cc, hi', hic⟩ { s with b := s.b + 1, ad := ad }) => by have hr := rfree (cap := cc) z.ad z.fa x.a tt; rw [hl, (pf_yes hpf).1, (pf_yes hpf).2] at hr; exact hr.mono fun _ _ z => z.on (n := s.ad.length) (by rw [List.length_set]; exact hl))
        have HQ2 := Lib.hid q
        have HF := Lib.hid hF
        have HL := Lib.hid hl
        clear q hin hF hl
        go_wp2
        refine region_held (S := fun Z => BoS w0 w c s C ⟨kind, user, session, address, ea, eb, ec, tick⟩ hu huc (some ⟨gs, 0, none⟩) hsc hi' hic a cc ad Z) 19 [false, false, false, false, false, false, false, false, false, false, false, false, false, false, false, false, false, false, false] rfl rfl (by kernel_rfl) fun V hW => ?_
        have hV : BoS w0 w c s C ⟨kind, user, session, address, ea, eb, ec, tick⟩ hu huc (some ⟨gs, 0, none⟩) hsc hi' hic a cc ad V := by rw [hW]; exact OB.lay (StA_good hC) HQ2.out (us_drew _)
        clear hW HQ2 kB0 eB0 lB0 gB0 kR0 eR0 lR0 gR0
        refine run_go [(0, bor0, some 32), (1, bor1, some 33), (2, bor2, some 34), (3, bor3, some 35), (4, bor4, some 36), (5, bor5, some 37), (6, bor6, some 38), (7, bor7, some 39), (8, bor8, some 40), (9, bor9, some 41), (10, bor10, some 42), (11, bor11, some 43), (12, bor12, some 44)] (by kernel_rfl) ?_
        iterate 13 (refine run_take ?_ rfl rfl (fun _ _ _ h => h) (Or.inl ⟨by rfl, ?_⟩) hV ?_; rotate_left; (· (intro w0' hy0; obtain ⟨y0, y1, y2, y3⟩ := seEl (OB.rest hy0).drop hlt hxx; have kA := OB.at hy0 (i := 0) rfl; have eA := kA.cell; have kB := OB.at hy0 (i := 1) rfl; have eB := kB.cell; have kD := OB.at hy0 (i := 2) rfl; have eD := kD.cell; (go_simp <;> with_reducible rfl))); simp only [Act.put, List.setIfInBounds_toArray, List.set_cons_zero, List.set_cons_succ])
        refine run_end ?_
        refine held_callv 13 bor13 (some 45) (fun v Z => ∃ a2 c2, v = .tuple #[.slice a2 s.ad.length c2, .int .i64 0] ∧ At w0 ((rowE TPa 3 (.slice a2 s.ad.length c2) s.ad.length (paCells (ad.set x.a.toNat ⟨false, (ad.getD x.a.toNat .none).l, tt⟩))).star (OB [(w.heap.size, cfC c, TCf), (w.heap.size + 1, #[.int .i64 (s.b + 1), .int .i64 s.e, .int .i64 s.n, .slice hu s.us.length huc, .slice (some ⟨gs, 0, none⟩) s.ss.length hsc, .slice a s.ad.length cc, .slice hi' s.sp.length hic], TSt), (w.heap.size + 1 + 1, evA ⟨kind, user, session, address, ea, eb, ec, tick⟩, TEvt), (w.heap.size + 1 + 1 + 1, stZ, TSt)] (StA ⟨hu, huc, some ⟨gs, 0, none⟩, hsc, a, cc, hi', hic⟩ { s with b := s.b + 1, ad := ad } C))) Z) 63 #[.slice a s.ad.length cc, .int .i64 x.a, .int .i64 tt] (by kernel_rfl) rfl rfl (by rfl) (by go_simp <;> with_reducible rfl) ((HT.out _ (At.stIn (OB.rest hV) HI.out.fu HI.out.fs (by show ad.length ≤ _; rw [HL.out]; exact HI.out.fa) HI.out.fi)).mono fun e w' ⟨a2, c2, e1, hN⟩ => ⟨_, e1, a2, c2, rfl, pa_front (OB.good (StA_good hC)) hV hN⟩) (fun v Z ⟨a2, c2, _, z⟩ => At.drop z) ?_
        rintro v V1 ⟨a2, c2, rfl, hN⟩
        have hV1 : BoS w0 w c s C ⟨kind, user, session, address, ea, eb, ec, tick⟩ hu huc (some ⟨gs, 0, none⟩) hsc hi' hic a cc ad V1 := At.drop hN
        simp only [Act.put, List.setIfInBounds_toArray, List.set_cons_zero, List.set_cons_succ]
        refine run_go [(14, bor14, some 31), (15, bor15, some 46), (16, bor16, some 47), (17, bor17, some 9), (18, bor18, some 10)] (by kernel_rfl) ?_
        iterate 5 (refine run_take ?_ rfl rfl (fun _ _ _ h => h) (Or.inl ⟨by rfl, ?_⟩) hV1 ?_; rotate_left; (· (intro w0' hy0; obtain ⟨y0, y1, y2, y3⟩ := seEl (OB.rest hy0).drop hlt hxx; have kA := OB.at hy0 (i := 0) rfl; have eA := kA.cell; have kB := OB.at hy0 (i := 1) rfl; have eB := kB.cell; have kD := OB.at hy0 (i := 2) rfl; have eD := kD.cell; (go_simp <;> with_reducible rfl))); simp only [Act.put, List.setIfInBounds_toArray, List.set_cons_zero, List.set_cons_succ])
        refine run_end ?_
        refine wpAnyH_done (by kernel_rfl) ?_ _
        have q2 := (hN.imp (OB.dn _ _ _)).imp (OB.under (st_newPa (by rw [List.length_set]; exact HL.out)))
        have q3 := OB.poke (StA_good ((rowE_good _ _ _ _ _).star hC)) q2 1 rfl 5 (.slice a2 s.ad.length c2)
        have q4 := OB.stDrop1 q3
        have H4 := Lib.hid q4
        have kB := OB.at q2 (i := 1) rfl
        have eB := kB.cell
        have lB := kB.lt
        have gB := kB.froz
        clear q2 q3 q4 hN hV1 hV
        go_wp2
        go_roundw
        case rel => exact ⟨k + 1, _, a2, c2, by omega, by go_num, HF.out, by rw [List.length_set]; exact HL.out, (show Aside _ from H4.out)⟩
        case measure => simp [intOf]; omega
    · obtain rfl : k = s.ss.length := by omega
      have hltI : ¬ (s.ss.length : Int) < (s.ss.length : Int) := by omega
      rw [List.drop_length, stFreeAll, Option.some.injEq] at hF
      subst hF
      have HL := Lib.hid hl
      have q5 := OB.poke (StA_good hC) q 1 rfl 4 (.slice none 0 0)
      have HQ5 := Lib.hid q5
      clear hl q5
      go_wp2
      refine bodyPost_ret (v := .tuple #[.agg #[.int .i64 (s.b + 1), .int .i64 s.e, .int .i64 s.n, .slice hu s.us.length huc, .slice none 0 0, .slice a s.ad.length cc, .slice hi' s.sp.length hic], .bool true]) (by simp [*, results, Tryz.results46, go_sem]) rfl ⟨⟨hu, huc, none, 0, a, cc, hi', hic⟩, by simp only [stC, HL.out, List.length_nil], ?_⟩
      have q6 := OB.wr7 (StA_good hC) HQ5.out (i := 3) rfl (.int .i64 (s.b + 1)) (.int .i64 s.e) (.int .i64 s.n) (.slice hu s.us.length huc) (.slice none 0 0) (.slice a s.ad.length cc) (.slice hi' s.sp.length hic)
      have q7 := At.erow0 TSe 4 ((q6.imp (Ass.imp.swap _ _ _)).drop)
      exact q7.imp (Ass.imp.swap _ _ _)
set_option maxRecDepth 100000 in
set_option maxHeartbeats 16000000 in
theorem rbooted_n {w0 w : World} {C : Ass} (hC : C.Good) {c : Cf} {s : St} {hu : Option Addr} {huc : Nat} {hs : Option Addr} {hsc : Nat} {hp : Option Addr} {hpc : Nat} {hi' : Option Addr} {hic : Nat} (hS : At w0 (StA ⟨hu, huc, hs, hsc, hp, hpc, hi', hic⟩ s C) w) (hi : StIn w ⟨hu, huc, hs, hsc, hp, hpc, hi', hic⟩ s) {kind user session address ea eb ec tick : Int} (b0 : 0 ≤ s.b) (b1 : s.b < 1073741823) (t0 : 0 ≤ tick) (t1 : tick ≤ 1048575) (q0 : 0 ≤ c.qua) (q1 : c.qua ≤ 65536) (hR : stFreeAll (tick + c.qua) s.ss s.ad = none) :
    Calls Tryz.prog 46 #[.agg (cfC c), .agg (stC ⟨hu, huc, hs, hsc, hp, hpc, hi', hic⟩ s), .agg (evA ⟨kind, user, session, address, ea, eb, ec, tick⟩)] w fun r w' => ∃ (h' : Sv) (s' : St), r = .returned (.tuple #[.agg (stC h' s'), .bool false]) ∧ At w0 C w' := by
  have hq := ob4 (StA_good hC) hS (cfC c) (stC ⟨hu, huc, hs, hsc, hp, hpc, hi', hic⟩ s) (evA ⟨kind, user, session, address, ea, eb, ec, tick⟩) stZ TCf TSt TEvt TSt
  have hq2 : BoS w0 w c s C ⟨kind, user, session, address, ea, eb, ec, tick⟩ hu huc hs hsc hi' hic hp hpc s.ad (w.alloc (.cells (cfC c) TCf) |>.alloc (.cells #[.int .i64 (s.b + 1), .int .i64 s.e, .int .i64 s.n, .slice hu s.us.length huc, .slice hs s.ss.length hsc, .slice hp s.ad.length hpc, .slice hi' s.sp.length hic] TSt) |>.alloc (.cells (evA ⟨kind, user, session, address, ea, eb, ec, tick⟩) TEvt) |>.alloc (.cells stZ TSt)) := ob4 (StA_good hC) hS (cfC c) _ (evA ⟨kind, user, session, address, ea, eb, ec, tick⟩) stZ TCf TSt TEvt TSt
  have HI := Lib.hid hi
  have hfew := hi.fs
  have hfa := hi.fa
  have hw1 : IntKind.i64.wrap (s.b + 1) = s.b + 1 := by rw [IntKind.wrap_i64]; omega
  have hwt : IntKind.i64.wrap (tick + c.qua) = tick + c.qua := by rw [IntKind.wrap_i64]; omega
  have hb0 : ¬ s.b < 0 := by omega
  have hb1 : ¬ 1073741823 ≤ s.b := by omega
  have HQ := Lib.hid hq2
  obtain ⟨tt, htt⟩ : ∃ tt, tick + c.qua = tt := ⟨_, rfl⟩
  rw [htt] at hR hwt
  have HR := Lib.hid hR
  clear hS hi hq hq2 hR
  go_enter Tryz.func46, Tryz.ntmps46
  go_wp2
  go_loopw [8] (fun i wr => ∃ (k : Nat) (ad : List Pa) (a : Option Addr) (cc : Nat), k ≤ s.ss.length ∧ i = .int .i64 (k : Int) ∧ stFreeAll tt (s.ss.drop k) ad = none ∧ ad.length = s.ad.length ∧ Aside (BoS w0 w c s C ⟨kind, user, session, address, ea, eb, ec, tick⟩ hu huc hs hsc hi' hic a cc ad wr)) (fun i _ => s.ss.length - (intOf i).toNat)
  case atStart => exact ⟨0, s.ad, hp, hpc, Nat.zero_le _, rfl, HR.out, rfl, (show Aside _ from HQ.out)⟩
  case round =>
    obtain ⟨k, ad, a, cc, hk, rfl, hF, hl, hall⟩ := hrel
    have q := hall.out
    clear hall
    have kB0 := OB.at q (i := 1) rfl
    have eB0 := kB0.cell
    have lB0 := kB0.lt
    have gB0 := kB0.froz
    have kR0 := OB.at q (i := 3) rfl
    have eR0 := kR0.cell
    have lR0 := kR0.lt
    have gR0 := kR0.froz
    by_cases hlt : k < s.ss.length
    · have hltI : (k : Int) < (s.ss.length : Int) := by omega
      have hk0 : ¬ (k : Int) < 0 := by omega
      obtain ⟨gs, hgs, -, -⟩ := se_big (OB.rest q).drop (by show 1 ≤ s.ss.length; omega)
      obtain rfl : hs = some ⟨gs, 0, none⟩ := hgs
      obtain ⟨x, hxx⟩ : ∃ x, s.ss.getD k Se.none = x := ⟨_, rfl⟩
      rw [stFree_step hlt hxx] at hF
      have hin : StIn wr ⟨hu, huc, some ⟨gs, 0, none⟩, hsc, a, cc, hi', hic⟩ { s with b := s.b + 1, ad := ad } := At.stIn (OB.rest q) HI.out.fu HI.out.fs (by show ad.length ≤ _; omega) HI.out.fi
      cases hpf : pfOk ad x.a tt with
      | true =>
        rw [hpf, if_pos rfl] at hF
        have HT := Lib.hid (fun (W : World) (z : StIn W ⟨hu, huc, some ⟨gs, 0, none⟩, hsc, a, cc, hi', hic⟩ { s with b := s.b + 1, ad := ad }) => by have hr := rfree (cap := cc) z.ad z.fa x.a tt; rw [hl, (pf_yes hpf).1, (pf_yes hpf).2] at hr; exact hr.mono fun _ _ z => z.on (n := s.ad.length) (by rw [List.length_set]; exact hl))
        have HQ2 := Lib.hid q
        have HF := Lib.hid hF
        have HL := Lib.hid hl
        clear q hin hF hl
        go_wp2
        refine region_held (S := fun Z => BoS w0 w c s C ⟨kind, user, session, address, ea, eb, ec, tick⟩ hu huc (some ⟨gs, 0, none⟩) hsc hi' hic a cc ad Z) 19 [false, false, false, false, false, false, false, false, false, false, false, false, false, false, false, false, false, false, false] rfl rfl (by kernel_rfl) fun V hW => ?_
        have hV : BoS w0 w c s C ⟨kind, user, session, address, ea, eb, ec, tick⟩ hu huc (some ⟨gs, 0, none⟩) hsc hi' hic a cc ad V := by rw [hW]; exact OB.lay (StA_good hC) HQ2.out (us_drew _)
        clear hW HQ2 kB0 eB0 lB0 gB0 kR0 eR0 lR0 gR0
        refine run_go [(0, bor0, some 32), (1, bor1, some 33), (2, bor2, some 34), (3, bor3, some 35), (4, bor4, some 36), (5, bor5, some 37), (6, bor6, some 38), (7, bor7, some 39), (8, bor8, some 40), (9, bor9, some 41), (10, bor10, some 42), (11, bor11, some 43), (12, bor12, some 44)] (by kernel_rfl) ?_
        iterate 13 (refine run_take ?_ rfl rfl (fun _ _ _ h => h) (Or.inl ⟨by rfl, ?_⟩) hV ?_; rotate_left; (· (intro w0' hy0; obtain ⟨y0, y1, y2, y3⟩ := seEl (OB.rest hy0).drop hlt hxx; have kA := OB.at hy0 (i := 0) rfl; have eA := kA.cell; have kB := OB.at hy0 (i := 1) rfl; have eB := kB.cell; have kD := OB.at hy0 (i := 2) rfl; have eD := kD.cell; (go_simp <;> with_reducible rfl))); simp only [Act.put, List.setIfInBounds_toArray, List.set_cons_zero, List.set_cons_succ])
        refine run_end ?_
        refine held_callv 13 bor13 (some 45) (fun v Z => ∃ a2 c2, v = .tuple #[.slice a2 s.ad.length c2, .int .i64 0] ∧ At w0 ((rowE TPa 3 (.slice a2 s.ad.length c2) s.ad.length (paCells (ad.set x.a.toNat ⟨false, (ad.getD x.a.toNat .none).l, tt⟩))).star (OB [(w.heap.size, cfC c, TCf), (w.heap.size + 1, #[.int .i64 (s.b + 1), .int .i64 s.e, .int .i64 s.n, .slice hu s.us.length huc, .slice (some ⟨gs, 0, none⟩) s.ss.length hsc, .slice a s.ad.length cc, .slice hi' s.sp.length hic], TSt), (w.heap.size + 1 + 1, evA ⟨kind, user, session, address, ea, eb, ec, tick⟩, TEvt), (w.heap.size + 1 + 1 + 1, stZ, TSt)] (StA ⟨hu, huc, some ⟨gs, 0, none⟩, hsc, a, cc, hi', hic⟩ { s with b := s.b + 1, ad := ad } C))) Z) 63 #[.slice a s.ad.length cc, .int .i64 x.a, .int .i64 tt] (by kernel_rfl) rfl rfl (by rfl) (by go_simp <;> with_reducible rfl) ((HT.out _ (At.stIn (OB.rest hV) HI.out.fu HI.out.fs (by show ad.length ≤ _; rw [HL.out]; exact HI.out.fa) HI.out.fi)).mono fun e w' ⟨a2, c2, e1, hN⟩ => ⟨_, e1, a2, c2, rfl, pa_front (OB.good (StA_good hC)) hV hN⟩) (fun v Z ⟨a2, c2, _, z⟩ => At.drop z) ?_
        rintro v V1 ⟨a2, c2, rfl, hN⟩
        have hV1 : BoS w0 w c s C ⟨kind, user, session, address, ea, eb, ec, tick⟩ hu huc (some ⟨gs, 0, none⟩) hsc hi' hic a cc ad V1 := At.drop hN
        simp only [Act.put, List.setIfInBounds_toArray, List.set_cons_zero, List.set_cons_succ]
        refine run_go [(14, bor14, some 31), (15, bor15, some 46), (16, bor16, some 47), (17, bor17, some 9), (18, bor18, some 10)] (by kernel_rfl) ?_
        iterate 5 (refine run_take ?_ rfl rfl (fun _ _ _ h => h) (Or.inl ⟨by rfl, ?_⟩) hV1 ?_; rotate_left; (· (intro w0' hy0; obtain ⟨y0, y1, y2, y3⟩ := seEl (OB.rest hy0).drop hlt hxx; have kA := OB.at hy0 (i := 0) rfl; have eA := kA.cell; have kB := OB.at hy0 (i := 1) rfl; have eB := kB.cell; have kD := OB.at hy0 (i := 2) rfl; have eD := kD.cell; (go_simp <;> with_reducible rfl))); simp only [Act.put, List.setIfInBounds_toArray, List.set_cons_zero, List.set_cons_succ])
        refine run_end ?_
        refine wpAnyH_done (by kernel_rfl) ?_ _
        have q2 := (hN.imp (OB.dn _ _ _)).imp (OB.under (st_newPa (by rw [List.length_set]; exact HL.out)))
        have q3 := OB.poke (StA_good ((rowE_good _ _ _ _ _).star hC)) q2 1 rfl 5 (.slice a2 s.ad.length c2)
        have q4 := OB.stDrop1 q3
        have H4 := Lib.hid q4
        have kB := OB.at q2 (i := 1) rfl
        have eB := kB.cell
        have lB := kB.lt
        have gB := kB.froz
        clear q2 q3 q4 hN hV1 hV
        go_wp2
        go_roundw
        case rel => exact ⟨k + 1, _, a2, c2, by omega, by go_num, HF.out, by rw [List.length_set]; exact HL.out, (show Aside _ from H4.out)⟩
        case measure => simp [intOf]; omega
      | false =>
        clear hF
        have hF : True := trivial
        have HT := Lib.hid (fun (W : World) (z : StIn W ⟨hu, huc, some ⟨gs, 0, none⟩, hsc, a, cc, hi', hic⟩ { s with b := s.b + 1, ad := ad }) => by have hr := rfree (cap := cc) z.ad z.fa x.a tt; rw [hl, (pf_no hpf).1, (pf_no hpf).2] at hr; exact hr)
        have HQ2 := Lib.hid q
        have HF := Lib.hid hF
        have HL := Lib.hid hl
        clear q hin hF hl
        go_wp2
        refine region_held (S := fun Z => BoS w0 w c s C ⟨kind, user, session, address, ea, eb, ec, tick⟩ hu huc (some ⟨gs, 0, none⟩) hsc hi' hic a cc ad Z) 19 [false, false, false, false, false, false, false, false, false, false, false, false, false, false, false, false, false, false, false] rfl rfl (by kernel_rfl) fun V hW => ?_
        have hV : BoS w0 w c s C ⟨kind, user, session, address, ea, eb, ec, tick⟩ hu huc (some ⟨gs, 0, none⟩) hsc hi' hic a cc ad V := by rw [hW]; exact OB.lay (StA_good hC) HQ2.out (us_drew _)
        clear hW HQ2 kB0 eB0 lB0 gB0 kR0 eR0 lR0 gR0
        refine run_go [(0, bor0, some 32), (1, bor1, some 33), (2, bor2, some 34), (3, bor3, some 35), (4, bor4, some 36), (5, bor5, some 37), (6, bor6, some 38), (7, bor7, some 39), (8, bor8, some 40), (9, bor9, some 41), (10, bor10, some 42), (11, bor11, some 43), (12, bor12, some 44)] (by kernel_rfl) ?_
        iterate 13 (refine run_take ?_ rfl rfl (fun _ _ _ h => h) (Or.inl ⟨by rfl, ?_⟩) hV ?_; rotate_left; (· (intro w0' hy0; obtain ⟨y0, y1, y2, y3⟩ := seEl (OB.rest hy0).drop hlt hxx; have kA := OB.at hy0 (i := 0) rfl; have eA := kA.cell; have kB := OB.at hy0 (i := 1) rfl; have eB := kB.cell; have kD := OB.at hy0 (i := 2) rfl; have eD := kD.cell; (go_simp <;> with_reducible rfl))); simp only [Act.put, List.setIfInBounds_toArray, List.set_cons_zero, List.set_cons_succ])
        refine run_end ?_
        refine held_callv 13 bor13 (some 45) (fun v Z => ∃ a2 c2, v = .tuple #[.slice a2 0 c2, .int .i64 1600] ∧ At w0 ((rowE TPa 3 (.slice a2 0 c2) 0 (paCells [])).star (OB [(w.heap.size, cfC c, TCf), (w.heap.size + 1, #[.int .i64 (s.b + 1), .int .i64 s.e, .int .i64 s.n, .slice hu s.us.length huc, .slice (some ⟨gs, 0, none⟩) s.ss.length hsc, .slice a s.ad.length cc, .slice hi' s.sp.length hic], TSt), (w.heap.size + 1 + 1, evA ⟨kind, user, session, address, ea, eb, ec, tick⟩, TEvt), (w.heap.size + 1 + 1 + 1, stZ, TSt)] (StA ⟨hu, huc, some ⟨gs, 0, none⟩, hsc, a, cc, hi', hic⟩ { s with b := s.b + 1, ad := ad } C))) Z) 63 #[.slice a s.ad.length cc, .int .i64 x.a, .int .i64 tt] (by kernel_rfl) rfl rfl (by rfl) (by go_simp <;> with_reducible rfl) ((HT.out _ (At.stIn (OB.rest hV) HI.out.fu HI.out.fs (by show ad.length ≤ _; rw [HL.out]; exact HI.out.fa) HI.out.fi)).mono fun e w' ⟨a2, c2, e1, hN⟩ => ⟨_, e1, a2, c2, rfl, pa_front (OB.good (StA_good hC)) hV hN⟩) (fun v Z ⟨a2, c2, _, z⟩ => At.drop z) ?_
        rintro v V1 ⟨a2, c2, rfl, hN⟩
        have hV1 : BoS w0 w c s C ⟨kind, user, session, address, ea, eb, ec, tick⟩ hu huc (some ⟨gs, 0, none⟩) hsc hi' hic a cc ad V1 := At.drop hN
        simp only [Act.put, List.setIfInBounds_toArray, List.set_cons_zero, List.set_cons_succ]
        refine run_go [(14, bor14, some 31), (15, bor15, some 46), (16, bor16, some 47), (17, bor17, some 9), (18, bor18, some 10)] (by kernel_rfl) ?_
        iterate 5 (refine run_take ?_ rfl rfl (fun _ _ _ h => h) (Or.inl ⟨by rfl, ?_⟩) hV1 ?_; rotate_left; (· (intro w0' hy0; obtain ⟨y0, y1, y2, y3⟩ := seEl (OB.rest hy0).drop hlt hxx; have kA := OB.at hy0 (i := 0) rfl; have eA := kA.cell; have kB := OB.at hy0 (i := 1) rfl; have eB := kB.cell; have kD := OB.at hy0 (i := 2) rfl; have eD := kD.cell; (go_simp <;> with_reducible rfl))); simp only [Act.put, List.setIfInBounds_toArray, List.set_cons_zero, List.set_cons_succ])
        refine run_end ?_
        refine wpAnyH_done (by kernel_rfl) ?_ _
        have kB := OB.at hV1 (i := 1) rfl
        have eB := kB.cell
        have lB := kB.lt
        have kR := OB.at hV1 (i := 3) rfl
        have eR := kR.cell
        have lR := kR.lt
        have gR := kR.froz
        go_wp2
        refine bodyPost_ret (v := .tuple #[.agg #[.int .i64 (s.b + 1), .int .i64 s.e, .int .i64 s.n, .slice hu s.us.length huc, .slice (some ⟨gs, 0, none⟩) s.ss.length hsc, .slice a s.ad.length cc, .slice hi' s.sp.length hic], .bool false]) (by simp [*, results, Tryz.results46, go_sem]) rfl ⟨⟨hu, huc, some ⟨gs, 0, none⟩, hsc, a, cc, hi', hic⟩, { s with b := s.b + 1 }, rfl, ?_⟩
        exact (OB.wr7 (StA_good hC) hV1 (i := 3) rfl (.int .i64 (s.b + 1)) (.int .i64 s.e) (.int .i64 s.n) (.slice hu s.us.length huc) (.slice (some ⟨gs, 0, none⟩) s.ss.length hsc) (.slice a s.ad.length cc) (.slice hi' s.sp.length hic)).stDrop
    · obtain rfl : k = s.ss.length := by omega
      rw [List.drop_length, stFreeAll] at hF
      cases hF
end Go.Proofs.YtopkcaflmpjhgaaGreat

