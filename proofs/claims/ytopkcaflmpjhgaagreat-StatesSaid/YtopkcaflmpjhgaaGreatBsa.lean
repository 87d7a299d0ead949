/- Put together: Str5, Str6. Conditions: each theorem's own. -/
import Derived.Test.YtopkcaflmpjhgaaGreatStr2
import Derived.Test.YtopkcaflmpjhgaaGreatStr4
import Derived.Test.YtopkcaflmpjhgaaGreatBpr
import Derived.Test.YtopkcaflmpjhgaaGreatBsp
namespace Go.Proofs.YtopkcaflmpjhgaaGreat
open Go Go.RowKit

abbrev TEvt : TypeId := 45
/-- A new row is laid in front. -/
theorem pa_front {w0 w w' : World} {C : Ass} (hC : C.Good) (hS : At w0 C w) {v : Value} {n : Nat} {xs : List Value} (h : At w ((rowE TPa 3 v n xs).star emp) w') : At w0 ((rowE TPa 3 v n xs).star C) w' :=
  ((At.add hC hS (pa_made h)).imp (star_assoc _ _ _)).imp ((emp_left C).under _)
/-- A pool's answer, its length told. -/
def PaOn (w : World) (es : List Pa) (n : Nat) (x : Int) (e : Ending) (w' : World) : Prop := ∃ a2 c2, e = .returned (.tuple #[.slice a2 n c2, .int .i64 x]) ∧ At w ((rowE TPa 3 (.slice a2 n c2) n (paCells es)).star emp) w'
theorem PaOut.on {w : World} {es : List Pa} {x : Int} {n : Nat} (hn : es.length = n) {e : Ending} {w' : World} (h : PaOut w es x e w') : PaOn w es n x e w' := by
  subst hn
  exact h
theorem ixN_neg {o : Option Nat} : ixN o < 0 ↔ o = none := by
  cases o with
  | none => simp [ixN]
  | some k => simp [ixN]
/-- Under blocks: the first row and the second change places. -/
theorem OB.swap (l : List Ob) (A B R : Ass) : (OB l (A.star (B.star R))).imp (OB l (B.star (A.star R))) := OB.under (Ass.imp.swap A B R)
theorem OB.stIn {w0 w W : World} {l : List Ob} {h : Sv} {s : St} {C : Ass} (q : At w0 (OB l (StA h s C)) W) (hi : StIn w h s) : StIn W h s := At.stIn (OB.rest q) hi.fu hi.fs hi.fa hi.fi
theorem pt_yes {es : List Pa} {k x : Int} (h : ptOk es k x = true) : ptL es k x = es.set k.toNat ⟨true, x, 0⟩ ∧ ptE es k x = 0 := by unfold ptL ptE; rw [h]; exact ⟨rfl, rfl⟩
theorem pt_no {es : List Pa} {k x : Int} (h : ptOk es k x = false) : ptL es k x = [] ∧ ptE es k x = 1600 := by unfold ptL ptE; rw [h]; exact ⟨rfl, rfl⟩
theorem pf_yes {es : List Pa} {k n : Int} (h : pfOk es k n = true) : pfL es k n = es.set k.toNat ⟨false, (es.getD k.toNat .none).l, n⟩ ∧ pfE es k n = 0 := by unfold pfL pfE; rw [h]; exact ⟨rfl, rfl⟩
theorem pf_no {es : List Pa} {k n : Int} (h : pfOk es k n = false) : pfL es k n = [] ∧ pfE es k n = 1600 := by unfold pfL pfE; rw [h]; exact ⟨rfl, rfl⟩
set_option maxRecDepth 100000 in
set_option maxHeartbeats 8000000 in
theorem rleased_a {w0 w : World} {C : Ass} (hC : C.Good) {c : Cf} {s : St} {h : Sv} (hS : At w0 (StA h s C) w) {kind user session address ea eb ec tick : Int} (hne : ¬ session = s.n) : Calls Tryz.prog 47 #[.agg (cfC c), .agg (stC h s), .agg (evA ⟨kind, user, session, address, ea, eb, ec, tick⟩)] w fun r w' => r = .returned (.tuple #[.agg (stC h s), .bool false]) ∧ At w0 C w' := by
  have HS := Lib.hid hS
  clear hS
  go_enter Tryz.func47, Tryz.ntmps47
  go_wp2
  refine bodyPost_ret (v := .tuple #[.agg (stC h s), .bool false]) (by simp [*, results, Tryz.results47, go_sem]) rfl ⟨rfl, ?_⟩
  exact ((((HS.out.lay1 (StA_good hC) _).lay1 (StA_good hC) _).lay1 (StA_good hC) _).lay1 (StA_good hC) _).stDrop
set_option maxRecDepth 100000 in
set_option maxHeartbeats 8000000 in
theorem rleased_b {w0 w : World} {C : Ass} (hC : C.Good) {c : Cf} {s : St} {h : Sv} (hS : At w0 (StA h s C) w) (hi : StIn w h s) {kind user session address ea eb ec tick : Int} (heq : session = s.n) (hx : usAt s.us user = none) : Calls Tryz.prog 47 #[.agg (cfC c), .agg (stC h s), .agg (evA ⟨kind, user, session, address, ea, eb, ec, tick⟩)] w fun r w' => r = .returned (.tuple #[.agg (stC h s), .bool false]) ∧ At w0 C w' := by
  have hq := ob4 (StA_good hC) hS (cfC c) (stC h s) (evA ⟨kind, user, session, address, ea, eb, ec, tick⟩) stZ TCf TSt TEvt TSt
  have HI := Lib.hid hi
  have HQ := Lib.hid hq
  have HU := Lib.hid (fun (W : World) (q : StIn W h s) => by have hr := ruserat q user; rw [hx] at hr; exact hr)
  subst heq
  clear hS hi hq hx
  go_enter Tryz.func47, Tryz.ntmps47
  go_wp2_with (first
    | (go_at_call 51; (with_reducible refine (HU.out _ (OB.stIn HQ.out HI.out)).mono ?_); rintro r w1 ⟨rfl, hb⟩; have q1 := OB.lay (StA_good hC) HQ.out hb; clear hb; have k0 := OB.at q1 (i := 0) rfl; have e10 := k0.cell; have l10 := k0.lt; have k1 := OB.at q1 (i := 1) rfl; have e11 := k1.cell; have g11 := k1.froz; have l11 := k1.lt; have k2 := OB.at q1 (i := 2) rfl; have e12 := k2.cell; have l12 := k2.lt; have k3 := OB.at q1 (i := 3) rfl; have e13 := k3.cell; have g13 := k3.froz; have l13 := k3.lt))
  refine bodyPost_ret (v := .tuple #[.agg (stC h s), .bool false]) (by simp [*, results, Tryz.results47, go_sem]) rfl ⟨rfl, ?_⟩
  exact (OB.wr7 (StA_good hC) q1 (i := 3) rfl (.int .i64 s.b) (.int .i64 s.e) (.int .i64 s.n) (.slice h.u s.us.length h.uc) (.slice h.s s.ss.length h.sc) (.slice h.p s.ad.length h.pc) (.slice h.i s.sp.length h.ic)).stDrop
set_option maxRecDepth 100000 in
set_option maxHeartbeats 8000000 in
theorem rleased_c {w0 w : World} {C : Ass} (hC : C.Good) {c : Cf} {s : St} {h : Sv} (hS : At w0 (StA h s C) w) (hi : StIn w h s) {kind user session address ea eb ec tick : Int} (heq : session = s.n) {j : Nat} (hx : usAt s.us user = some j) (hfull : c.ses ≤ (s.ss.length : Int)) : Calls Tryz.prog 47 #[.agg (cfC c), .agg (stC h s), .agg (evA ⟨kind, user, session, address, ea, eb, ec, tick⟩)] w fun r w' => r = .returned (.tuple #[.agg (stC h s), .bool false]) ∧ At w0 C w' := by
  have hq := ob4 (StA_good hC) hS (cfC c) (stC h s) (evA ⟨kind, user, session, address, ea, eb, ec, tick⟩) stZ TCf TSt TEvt TSt
  have HI := Lib.hid hi
  have HQ := Lib.hid hq
  have HU := Lib.hid (fun (W : World) (q : StIn W h s) => by have hr := ruserat q user; rw [hx] at hr; exact hr)
  subst heq
  have hfew := hi.fs
  have hj0 : ¬ ixN (some j) < 0 := by simp [ixN]
  generalize ixN (some j) = jj at *
  clear hS hi hq hx
  go_enter Tryz.func47, Tryz.ntmps47
  go_wp2_with (first
    | (go_at_call 51; (with_reducible refine (HU.out _ (OB.stIn HQ.out HI.out)).mono ?_); rintro r w1 ⟨rfl, hb⟩; have q1 := OB.lay (StA_good hC) HQ.out hb; clear hb; have k0 := OB.at q1 (i := 0) rfl; have e10 := k0.cell; have l10 := k0.lt; have k1 := OB.at q1 (i := 1) rfl; have e11 := k1.cell; have g11 := k1.froz; have l11 := k1.lt; have k2 := OB.at q1 (i := 2) rfl; have e12 := k2.cell; have l12 := k2.lt; have k3 := OB.at q1 (i := 3) rfl; have e13 := k3.cell; have g13 := k3.froz; have l13 := k3.lt))
  refine bodyPost_ret (v := .tuple #[.agg (stC h s), .bool false]) (by simp [*, results, Tryz.results47, go_sem]) rfl ⟨rfl, ?_⟩
  exact (OB.wr7 (StA_good hC) q1 (i := 3) rfl (.int .i64 s.b) (.int .i64 s.e) (.int .i64 s.n) (.slice h.u s.us.length h.uc) (.slice h.s s.ss.length h.sc) (.slice h.p s.ad.length h.pc) (.slice h.i s.sp.length h.ic)).stDrop
set_option maxRecDepth 100000 in
set_option maxHeartbeats 8000000 in
theorem rleased_d {w0 w : World} {C : Ass} (hC : C.Good) {c : Cf} {s : St} {h : Sv} (hS : At w0 (StA h s C) w) (hi : StIn w h s) {kind user session address ea eb ec tick : Int} (heq : session = s.n) {j : Nat} (hx : usAt s.us user = some j) (hroom : (s.ss.length : Int) < c.ses) (hpt : ptOk s.ad address user = false) : Calls Tryz.prog 47 #[.agg (cfC c), .agg (stC h s), .agg (evA ⟨kind, user, session, address, ea, eb, ec, tick⟩)] w fun r w' => r = .returned (.tuple #[.agg (stC h s), .bool false]) ∧ At w0 C w' := by
  have hq := ob4 (StA_good hC) hS (cfC c) (stC h s) (evA ⟨kind, user, session, address, ea, eb, ec, tick⟩) stZ TCf TSt TEvt TSt
  have HI := Lib.hid hi
  have HQ := Lib.hid hq
  have HU := Lib.hid (fun (W : World) (q : StIn W h s) => by have hr := ruserat q user; rw [hx] at hr; exact hr)
  have HT := Lib.hid (fun (W : World) (q : StIn W h s) => by have hr := rtake (cap := h.pc) q.ad q.fa address user; rw [(pt_no hpt).1, (pt_no hpt).2] at hr; exact hr)
  subst heq
  have hfew := hi.fs
  have hj0 : ¬ ixN (some j) < 0 := by simp [ixN]
  generalize ixN (some j) = jj at *
  clear hS hi hq hx hpt
  go_enter Tryz.func47, Tryz.ntmps47
  go_wp2_with (first
    | (go_at_call 51; (with_reducible refine (HU.out _ (OB.stIn HQ.out HI.out)).mono ?_); rintro r w1 ⟨rfl, hb⟩; have q1 := OB.lay (StA_good hC) HQ.out hb; clear hb; have k0 := OB.at q1 (i := 0) rfl; have e10 := k0.cell; have l10 := k0.lt; have k1 := OB.at q1 (i := 1) rfl; have e11 := k1.cell; have g11 := k1.froz; have l11 := k1.lt; have k2 := OB.at q1 (i := 2) rfl; have e12 := k2.cell; have l12 := k2.lt; have k3 := OB.at q1 (i := 3) rfl; have e13 := k3.cell; have g13 := k3.froz; have l13 := k3.lt)
    | (go_at_call 64; (with_reducible refine (HT.out _ (OB.stIn q1 HI.out)).mono ?_); rintro r w2 ⟨a2, c2, rfl, hN⟩; have q2 := OB.lay (StA_good hC) q1 (At.bel hN); clear hN; have k21 := OB.at q2 (i := 1) rfl; have e21 := k21.cell; have l21 := k21.lt; have k23 := OB.at q2 (i := 3) rfl; have e23 := k23.cell; have g23 := k23.froz; have l23 := k23.lt))
  refine bodyPost_ret (v := .tuple #[.agg (stC h s), .bool false]) (by simp [*, results, Tryz.results47, go_sem]) rfl ⟨rfl, ?_⟩
  exact (OB.wr7 (StA_good hC) q2 (i := 3) rfl (.int .i64 s.b) (.int .i64 s.e) (.int .i64 s.n) (.slice h.u s.us.length h.uc) (.slice h.s s.ss.length h.sc) (.slice h.p s.ad.length h.pc) (.slice h.i s.sp.length h.ic)).stDrop
set_option maxRecDepth 100000 in
set_option maxHeartbeats 8000000 in
theorem rleased_y {w0 w : World} {C : Ass} (hC : C.Good) {c : Cf} {s : St} {h : Sv} (hS : At w0 (StA h s C) w) (hi : StIn w h s) {kind user session address ea eb ec tick : Int} (heq : session = s.n) (hs0 : 0 ≤ session) (hs1 : session ≤ 1073741823) {j : Nat} (hx : usAt s.us user = some j) (hroom : (s.ss.length : Int) < c.ses) (hpt : ptOk s.ad address user = true) :
    Calls Tryz.prog 47 #[.agg (cfC c), .agg (stC h s), .agg (evA ⟨kind, user, session, address, ea, eb, ec, tick⟩)] w fun r w' => ∃ h' : Sv, r = .returned (.tuple #[.agg (stC h' { s with n := s.n + 1, ss := s.ss ++ [⟨s.n, user, address, tick⟩], ad := s.ad.set address.toNat ⟨true, user, 0⟩ }), .bool true]) ∧ At w0 (StA h' { s with n := s.n + 1, ss := s.ss ++ [⟨s.n, user, address, tick⟩], ad := s.ad.set address.toNat ⟨true, user, 0⟩ } C) w' := by
  have hq := ob4 (StA_good hC) hS (cfC c) (stC h s) (evA ⟨kind, user, session, address, ea, eb, ec, tick⟩) stZ TCf TSt TEvt TSt
  have HI := Lib.hid hi
  have HQ := Lib.hid hq
  have HU := Lib.hid (fun (W : World) (q : StIn W h s) => by have hr := ruserat q user; rw [hx] at hr; exact hr)
  have HT := Lib.hid (fun (W : World) (q : StIn W h s) => by have hr := rtake (cap := h.pc) q.ad q.fa address user; rw [(pt_yes hpt).1, (pt_yes hpt).2] at hr; exact hr.mono fun _ _ z => z.on (n := s.ad.length) List.length_set)
  subst heq
  have hw : IntKind.i64.wrap (s.n + 1) = s.n + 1 := by rw [IntKind.wrap_i64]; omega
  have hfew := hi.fs
  have hfew2 : s.ss.length + 1 ≤ 4398046511104 := by omega
  have hj0 : ¬ ixN (some j) < 0 := by simp [ixN]
  generalize ixN (some j) = jj at *
  have hlad : (s.ad.set address.toNat ⟨true, user, 0⟩).length = s.ad.length := List.length_set
  generalize s.ad.set address.toNat ⟨true, user, 0⟩ = ad' at *
  have HL := Lib.hid hlad
  clear hlad
  clear hS hi hq hx hpt
  go_enter Tryz.func47, Tryz.ntmps47
  go_wp2_with (first
    | (go_at_call 51; (with_reducible refine (HU.out _ (OB.stIn HQ.out HI.out)).mono ?_); rintro r w1 ⟨rfl, hb⟩; have q1 := OB.lay (StA_good hC) HQ.out hb; clear hb; have k0 := OB.at q1 (i := 0) rfl; have e10 := k0.cell; have l10 := k0.lt; have k1 := OB.at q1 (i := 1) rfl; have e11 := k1.cell; have g11 := k1.froz; have l11 := k1.lt; have k2 := OB.at q1 (i := 2) rfl; have e12 := k2.cell; have l12 := k2.lt; have k3 := OB.at q1 (i := 3) rfl; have e13 := k3.cell; have g13 := k3.froz; have l13 := k3.lt)
    | (go_at_call 64; (with_reducible refine (HT.out _ (OB.stIn q1 HI.out)).mono ?_); rintro r w2 ⟨a2, c2, rfl, hN⟩; have q2 := (pa_front (OB.good (StA_good hC)) q1 hN).imp (OB.dn _ _ _); clear hN; have k21 := OB.at q2 (i := 1) rfl; have e21 := k21.cell; have g21 := k21.froz; have l21 := k21.lt; have k22 := OB.at q2 (i := 2) rfl; have e22 := k22.cell; have l22 := k22.lt; have q3 := OB.poke ((rowE_good _ _ _ _ _).star (StA_good hC)) (OB.poke ((rowE_good _ _ _ _ _).star (StA_good hC)) q2 1 rfl 5 (.slice a2 s.ad.length c2)) 1 rfl 2 (.int .i64 (s.n + 1)); have q4 := q3.imp ((OB.under (Ass.imp.up2 _ _ _ _)).trans (OB.up _ _ _)))
    | (at_builtin; refine se_appLit2 (OB.good ((rowE_good _ _ _ _ _).star ((rowE_good _ _ _ _ _).star ((rowE_good _ _ _ _ _).star ((rowE_good _ _ _ _ _).star hC))))) rfl _ _ rfl h.s s.ss.length h.sc s.ss [⟨s.n, user, address, tick⟩] 1 rfl rfl (by simp) rfl rfl q4 hfew2 ?_; intro a5 c5 w5 hS5; have q5 := hS5.imp (OB.dn _ _ _); clear hS5; have k51 := OB.at q5 (i := 1) rfl; have e51 := k51.cell; have g51 := k51.froz; have l51 := k51.lt; have k53 := OB.at q5 (i := 3) rfl; have e53 := k53.cell; have g53 := k53.froz; have l53 := k53.lt; have q6 := OB.poke ((rowE_good _ _ _ _ _).star ((rowE_good _ _ _ _ _).star ((rowE_good _ _ _ _ _).star ((rowE_good _ _ _ _ _).star ((rowE_good _ _ _ _ _).star hC))))) q5 1 rfl 4 (.slice a5 (s.ss.length + 1) c5)))
  refine bodyPost_ret (v := .tuple #[.agg #[.int .i64 s.b, .int .i64 s.e, .int .i64 (s.n + 1), .slice h.u s.us.length h.uc, .slice a5 (s.ss.length + 1) c5, .slice a2 s.ad.length c2, .slice h.i s.sp.length h.ic], .bool true]) (by simp [*, results, Tryz.results47, go_sem]) rfl ⟨⟨h.u, h.uc, a5, c5, a2, c2, h.i, h.ic⟩, by simp [HL.out], ?_⟩
  have q9 := OB.wr7 ((rowE_good _ _ _ _ _).star ((rowE_good _ _ _ _ _).star ((rowE_good _ _ _ _ _).star ((rowE_good _ _ _ _ _).star ((rowE_good _ _ _ _ _).star hC))))) q6 (i := 3) rfl (.int .i64 s.b) (.int .i64 s.e) (.int .i64 (s.n + 1)) (.slice h.u s.us.length h.uc) (.slice a5 (s.ss.length + 1) c5) (.slice a2 s.ad.length c2) (.slice h.i s.sp.length h.ic)
  have q10 := ((q9.imp (Ass.imp.up3 _ _ _ _ _)).drop).imp (Ass.imp.up2 _ _ _ _)
  simp only [StA, List.length_append, List.length_singleton, HL.out] at q10 ⊢
  exact q10
end Go.Proofs.YtopkcaflmpjhgaaGreat

namespace Go.Proofs.YtopkcaflmpjhgaaGreat
open Go Go.RowKit

abbrev adr0 : Oper := { dst := some 32, op := Op.move (Operand.tmp 8), type := 4, pos := "ref.go:136", after := #[], guard := none }
abbrev adr1 : Oper := { dst := some 33, op := Op.unOp UnOp.not 4 (Operand.tmp 32), type := 4, pos := "ref.go:136", after := #[{ on := 0, ground := Ground.data }], guard := none }
abbrev adr2 : Oper := { dst := some 34, op := Op.move (Operand.tmp 33), type := 4, pos := "ref.go:136", after := #[{ on := 1, ground := Ground.data }], guard := none }
abbrev adr3 : Oper := { dst := some 35, op := Op.fieldAddr 29 (Operand.tmp 2) 3, type := 0, pos := "ref.go:136", after := #[{ on := 2, ground := Ground.guard }], guard := some (2, true) }
abbrev adr4 : Oper := { dst := some 36, op := Op.load 24 (Operand.tmp 35), type := 24, pos := "ref.go:136", after := #[{ on := 3, ground := Ground.data }, { on := 2, ground := Ground.guard }], guard := some (2, true) }
abbrev adr5 : Oper := { dst := some 37, op := Op.move (Operand.tmp 9), type := 3, pos := "ref.go:136", after := #[{ on := 2, ground := Ground.guard }], guard := some (2, true) }
abbrev adr6 : Oper := { dst := some 38, op := Op.indexAddr 24 (Operand.tmp 36) (Operand.tmp 37), type := 0, pos := "ref.go:136", after := #[{ on := 4, ground := Ground.data }, { on := 5, ground := Ground.data }, { on := 2, ground := Ground.guard }], guard := some (2, true) }
abbrev adr7 : Oper := { dst := some 39, op := Op.fieldAddr 63 (Operand.tmp 38) 0, type := 0, pos := "ref.go:136", after := #[{ on := 6, ground := Ground.data }, { on := 2, ground := Ground.guard }], guard := some (2, true) }
abbrev adr8 : Oper := { dst := some 40, op := Op.load 3 (Operand.tmp 39), type := 3, pos := "ref.go:136", after := #[{ on := 7, ground := Ground.data }, { on := 2, ground := Ground.guard }], guard := some (2, true) }
abbrev adr9 : Oper := { dst := some 41, op := Op.fieldAddr 45 (Operand.tmp 3) 1, type := 0, pos := "ref.go:136", after := #[{ on := 2, ground := Ground.guard }], guard := some (2, true) }
abbrev adr10 : Oper := { dst := some 42, op := Op.load 3 (Operand.tmp 41), type := 3, pos := "ref.go:136", after := #[{ on := 9, ground := Ground.data }, { on := 2, ground := Ground.guard }], guard := some (2, true) }
abbrev adr11 : Oper := { dst := some 43, op := Op.binOp BinOp.gtr 3 (Operand.tmp 40) (Operand.tmp 42) 3, type := 4, pos := "ref.go:136", after := #[{ on := 8, ground := Ground.data }, { on := 10, ground := Ground.data }, { on := 2, ground := Ground.guard }], guard := some (2, true) }
abbrev adr12 : Oper := { dst := some 44, op := Op.pick (Operand.tmp 34) (Operand.tmp 43) (Operand.const (Value.bool false)), type := 4, pos := "ref.go:136", after := #[{ on := 2, ground := Ground.data }, { on := 11, ground := Ground.data }], guard := none }
theorem stAdd_none {u : Us} {L : List Us} (h : L.any (fun x => decide (u.u < x.u)) = false) : stAdd u L = L ++ [u] := by
  induction L with
  | nil => rfl
  | cons x r ih =>
    simp only [List.any_cons, Bool.or_eq_false_iff, decide_eq_false_iff_not] at h
    rw [stAdd, if_neg h.1, ih h.2]
    rfl
theorem stAdd_some {u : Us} {L : List Us} (h : L.any (fun x => decide (u.u < x.u)) = true) (y : Us) : stAdd u (L ++ [y]) = stAdd u L ++ [y] := by
  induction L with
  | nil => cases h
  | cons x r ih =>
    by_cases c : u.u < x.u
    · rw [List.cons_append, stAdd, if_pos c, stAdd, if_pos c]; rfl
    · rw [List.any_cons, decide_eq_false c, Bool.false_or] at h
      rw [List.cons_append, stAdd, if_neg c, stAdd, if_neg c, ih h]; rfl
theorem stAdd_new {u : Us} {L : List Us} (h : L.any (fun x => decide (u.u < x.u)) = false) {y : Us} (hy : u.u < y.u) : stAdd u (L ++ [y]) = (L ++ [u]) ++ [y] := by
  induction L with
  | nil => rw [List.nil_append, stAdd, if_pos hy]; rfl
  | cons x r ih =>
    simp only [List.any_cons, Bool.or_eq_false_iff, decide_eq_false_iff_not] at h
    rw [List.cons_append, stAdd, if_neg h.1, ih h.2]
    rfl
/-- What has been laid down. -/
def adL (u : Us) (p : Bool) (L : List Us) : List Us := if p then stAdd u L else L
theorem adL_len (u : Us) (p : Bool) (L : List Us) : (adL u p L).length ≤ L.length + 1 := by
  unfold adL; split
  · rw [stAdd_len]; exact Nat.le_refl _
  · omega
/-- The walk's memory. -/
def AdS (w0 w : World) (p : Nat) (h : Sv) (s : St) (C : Ass) (E : Ev) (a : Option Addr) (n c : Nat) (L : List Us) (W : World) : Prop :=
  At w0 ((rowE TUs 9 (.slice a n c) L.length (usCells L)).star (OB [(w.heap.size, stC h s, TSt), (w.heap.size + 1, evA E, TEvt), (w.heap.size + 1 + 1, stZ, TSt), (p, #[.int .i64 E.user, .int .i64 E.a, .int .i64 E.b, .int .i64 E.c, .int .i64 0, .int .i64 0, .int .i64 0, .int .i64 0, .int .i64 0], TUs)] (StA h s C))) W
section
variable {w0 w W W' : World} {p : Nat} {h : Sv} {s : St} {C : Ass} {E : Ev} {a : Option Addr} {n c : Nat} {L : List Us}
theorem AdS.ob (q : AdS w0 w p h s C E a n c L W) : At w0 (OB [(w.heap.size, stC h s, TSt), (w.heap.size + 1, evA E, TEvt), (w.heap.size + 1 + 1, stZ, TSt), (p, #[.int .i64 E.user, .int .i64 E.a, .int .i64 E.b, .int .i64 E.c, .int .i64 0, .int .i64 0, .int .i64 0, .int .i64 0, .int .i64 0], TUs)] (StA h s C)) W := At.drop q
theorem AdS.lay (hC : C.Good) (q : AdS w0 w p h s C E a n c L W) (hb : Below W.heap.size W W') : AdS w0 w p h s C E a n c L W' := At.lay ((rowE_good _ _ _ _ _).star (OB.good (StA_good hC))) q hb
end
theorem us_el2 {w : World} {b off n : Nat} {es : List Us} (h : UsIn [] w (some ⟨b, off, Option.none⟩) n es) {k : Nat} (hk : k < n) {x : Us} (hx : es.getD k Us.none = x) : w.cell? ⟨b, off + k * 9, Option.none⟩ = some (.int .i64 x.u) ∧ w.cell? ⟨b, off + k * 9 + 1, Option.none⟩ = some (.int .i64 x.k) ∧ w.cell? ⟨b, off + k * 9 + 2, Option.none⟩ = some (.int .i64 x.s) ∧ w.cell? ⟨b, off + k * 9 + 3, Option.none⟩ = some (.int .i64 x.q) ∧ w.cell? ⟨b, off + k * 9 + 4, Option.none⟩ = some (.int .i64 x.used) ∧ w.cell? ⟨b, off + k * 9 + 5, Option.none⟩ = some (.int .i64 x.lf) ∧ w.cell? ⟨b, off + k * 9 + 6, Option.none⟩ = some (.int .i64 x.lu) ∧ w.cell? ⟨b, off + k * 9 + 7, Option.none⟩ = some (.int .i64 x.st) ∧ w.cell? ⟨b, off + k * 9 + 8, Option.none⟩ = some (.int .i64 x.g) := by
  obtain ⟨b', off', a, e, ha, hc⟩ := us_el h hk
  obtain ⟨rfl, rfl⟩ : b = b' ∧ off = off' := by simpa using e
  obtain rfl : x = a := hx.symm.trans ha
  exact hc w (Below.refl _ _)
theorem StIn.usOf {w w0 W : World} {l : List Ob} {h : Sv} {s : St} {C : Ass} (hi : StIn w h s) {b off : Nat} (hu : h.u = some ⟨b, off, Option.none⟩) (q : At w0 (OB l (StA h s C)) W) : UsIn [] W (some ⟨b, off, Option.none⟩) s.us.length s.us := by
  have := (OB.stIn q hi).us
  rwa [hu] at this
set_option maxRecDepth 100000 in
set_option maxHeartbeats 8000000 in
theorem radded_no {w0 w : World} {C : Ass} (hC : C.Good) {s : St} {h : Sv} (hS : At w0 (StA h s C) w) (hi : StIn w h s) {kind user session address ea eb ec tick : Int} {j : Nat} (hx : usAt s.us user = some j) :
    Calls Tryz.prog 50 #[.agg (stC h s), .agg (evA ⟨kind, user, session, address, ea, eb, ec, tick⟩)] w fun r w' => r = .returned (.tuple #[.agg (stC h s), .bool false]) ∧ At w0 C w' := by
  have hq := ob3 (StA_good hC) hS (stC h s) (evA ⟨kind, user, session, address, ea, eb, ec, tick⟩) stZ TSt TEvt TSt
  have HI := Lib.hid hi
  have HQ := Lib.hid hq
  have HU := Lib.hid (fun (W : World) (q : StIn W h s) => by have hr := ruserat q user; rw [hx] at hr; exact hr)
  have hj0 : 0 ≤ ixN (some j) := by simp [ixN]
  generalize ixN (some j) = jj at *
  clear hS hi hq hx
  go_enter Tryz.func50, Tryz.ntmps50
  go_wp2_with (first
    | (go_at_call 51; (with_reducible refine (HU.out _ (OB.stIn HQ.out HI.out)).mono ?_); rintro r w1 ⟨rfl, hb⟩; have q1 := OB.lay (StA_good hC) HQ.out hb; clear hb; have k1 := OB.at q1 (i := 0) rfl; have e11 := k1.cell; have l11 := k1.lt; have k3 := OB.at q1 (i := 2) rfl; have e13 := k3.cell; have g13 := k3.froz; have l13 := k3.lt))
  refine bodyPost_ret (v := .tuple #[.agg (stC h s), .bool false]) (by simp [*, results, Tryz.results50, go_sem]) rfl ⟨rfl, ?_⟩
  exact (OB.wr7 (StA_good hC) q1 (i := 2) rfl (.int .i64 s.b) (.int .i64 s.e) (.int .i64 s.n) (.slice h.u s.us.length h.uc) (.slice h.s s.ss.length h.sc) (.slice h.p s.ad.length h.pc) (.slice h.i s.sp.length h.ic)).stDrop
set_option maxRecDepth 100000 in
set_option maxHeartbeats 16000000 in
theorem radded_yes {w0 w : World} {C : Ass} (hC : C.Good) {s : St} {h : Sv} (hS : At w0 (StA h s C) w) (hi : StIn w h s) {kind user session address ea eb ec tick : Int} (hx : usAt s.us user = none) {U : Us} (hU : U = ⟨user, ea, eb, ec, 0, 0, 0, 0, 0⟩) :
    Calls Tryz.prog 50 #[.agg (stC h s), .agg (evA ⟨kind, user, session, address, ea, eb, ec, tick⟩)] w fun r w' => ∃ h' : Sv, r = .returned (.tuple #[.agg (stC h' { s with us := stAdd U s.us }), .bool true]) ∧ At w0 (StA h' { s with us := stAdd U s.us } C) w' := by
  obtain ⟨hu, huc, hs', hsc, hp', hpc, hi', hic⟩ := h
  have hq := ob3 (StA_good hC) hS (stC ⟨hu, huc, hs', hsc, hp', hpc, hi', hic⟩ s) (evA ⟨kind, user, session, address, ea, eb, ec, tick⟩) stZ TSt TEvt TSt
  have HI := Lib.hid hi
  have HQ := Lib.hid hq
  have HU := Lib.hid (fun (W : World) (q : StIn W ⟨hu, huc, hs', hsc, hp', hpc, hi', hic⟩ s) => by have hr := ruserat q user; rw [hx] at hr; exact hr)
  have hfew := hi.fu
  have HUu := Lib.hid hU
  have hUu : U.u = user := by rw [hU]
  clear hS hi hq hx hU
  go_enter Tryz.func50, Tryz.ntmps50
  go_wp2_with (first
    | (go_at_call 51; (with_reducible refine (HU.out _ (OB.stIn HQ.out HI.out)).mono ?_); rintro r w1 ⟨rfl, hb⟩; have q1 := OB.lay (StA_good hC) HQ.out hb; clear hb; have k1 := OB.at q1 (i := 0) rfl; have e11 := k1.cell; have l11 := k1.lt; have k2 := OB.at q1 (i := 1) rfl; have e12 := k2.cell; have l12 := k2.lt; have k3 := OB.at q1 (i := 2) rfl; have l13 := k3.lt; have q0 : AdS w0 w w1.heap.size ⟨hu, huc, hs', hsc, hp', hpc, hi', hic⟩ s C ⟨kind, user, session, address, ea, eb, ec, tick⟩ none 0 0 [] (w1.alloc (.cells #[.int .i64 user, .int .i64 ea, .int .i64 eb, .int .i64 ec, .int .i64 0, .int .i64 0, .int .i64 0, .int .i64 0, .int .i64 0] TUs)) := At.erow0 TUs 9 (OB.hold (StA_good hC) q1 #[.int .i64 user, .int .i64 ea, .int .i64 eb, .int .i64 ec, .int .i64 0, .int .i64 0, .int .i64 0, .int .i64 0, .int .i64 0] TUs rfl)))
  generalize w1.heap.size = p at *
  clear q1 k1 e11 l11 k2 e12 l12 k3 l13
  go_loopw [6, 8, 9] (fun out pt i wr => ∃ (k : Nat) (b : Bool) (a : Option Addr) (c : Nat), k ≤ s.us.length ∧ i = .int .i64 (k : Int) ∧ pt = .bool b ∧ b = (s.us.take k).any (fun x => decide (U.u < x.u)) ∧ out = .slice a (adL U b (s.us.take k)).length c ∧ Aside (AdS w0 w p ⟨hu, huc, hs', hsc, hp', hpc, hi', hic⟩ s C ⟨kind, user, session, address, ea, eb, ec, tick⟩ a (adL U b (s.us.take k)).length c (adL U b (s.us.take k)) wr)) (fun _ _ i _ => s.us.length - (intOf i).toNat)
  case atStart => exact ⟨0, false, none, 0, Nat.zero_le _, rfl, rfl, rfl, rfl, (show Aside _ from q0)⟩
  case round =>
    clear q0
    obtain ⟨k, b, a, c, hk, rfl, rfl, hb, rfl, hall⟩ := hrel
    have q := hall.out
    clear hall
    have hlen := adL_len U b (s.us.take k)
    rw [List.length_take] at hlen
    by_cases hlt : k < s.us.length
    · have hltI : (k : Int) < (s.us.length : Int) := by omega
      have hk0 : ¬ (k : Int) < 0 := by omega
      obtain ⟨bb, off, x, rfl, hxx, -⟩ := us_el (OB.stIn q.ob HI.out).us hlt
      have hnx : s.us.take (k + 1) = s.us.take k ++ [x] := by
        rw [List.take_succ_eq_append_getElem hlt, ← hxx]; simp [List.getD, hlt]
      have hany : (s.us.take (k + 1)).any (fun y => decide (U.u < y.u)) = ((s.us.take k).any (fun y => decide (U.u < y.u)) || decide (U.u < x.u)) := by rw [hnx]; simp
      have kA := OB.at q.ob (i := 0) rfl
      have eA := kA.cell
      have lA := kA.lt
      have hf1 : (adL U b (s.us.take k)).length + 1 ≤ 1954687338268 := by omega
      generalize hLL : adL U b (s.us.take k) = L at *
      cases b with
      | true =>
        have HN := Lib.hid (show adL U true (s.us.take (k + 1)) = L ++ [x] ∧ (s.us.take (k + 1)).any (fun y => decide (U.u < y.u)) = true from ⟨by rw [← hLL, hnx]; exact stAdd_some hb.symm x, by rw [hany, ← hb]; rfl⟩)
        clear hLL hb hany hnx
        have HQ2 := Lib.hid q
        clear q
        go_wp2
        refine region_held (S := AdS w0 w p ⟨some ⟨bb, off, none⟩, huc, hs', hsc, hp', hpc, hi', hic⟩ s C ⟨kind, user, session, address, ea, eb, ec, tick⟩ a L.length c L) 13 [false, false, false, false, false, false, false, false, false, false, false, false, false] rfl rfl (by kernel_rfl) fun V hW => ?_
        have hV : AdS w0 w p ⟨some ⟨bb, off, none⟩, huc, hs', hsc, hp', hpc, hi', hic⟩ s C ⟨kind, user, session, address, ea, eb, ec, tick⟩ a L.length c L V := by rw [hW]; exact AdS.lay hC HQ2.out (us_drew _)
        clear hW HQ2 kA eA lA
        refine run_go [(0, adr0, some 32), (1, adr1, some 33), (2, adr2, some 34)] (by kernel_rfl) ?_
        iterate 3 (refine run_take ?_ rfl rfl (fun _ _ _ h => h) (Or.inl ⟨by rfl, ?_⟩) hV ?_; rotate_left; (· (intro w0 hy0; obtain ⟨z0, z1, z2, z3, z4, z5, z6, z7, z8⟩ := us_el2 (HI.out.usOf rfl (AdS.ob hy0)) hlt hxx; have kA := OB.at (AdS.ob hy0) (i := 0) rfl; have eA := kA.cell; have kB := OB.at (AdS.ob hy0) (i := 1) rfl; have eB := kB.cell; (go_simp <;> with_reducible rfl))); simp only [Act.put, List.setIfInBounds_toArray, List.set_cons_zero, List.set_cons_succ])
        refine run_end ?_
        refine held_skip 3 adr3 (some 35) rfl rfl (by kernel_rfl) (by kernel_rfl) (by kernel_rfl) (fun _ _ _ h => h) (by rfl) hV ?_
        simp only [Act.put, List.setIfInBounds_toArray, List.set_cons_zero, List.set_cons_succ]
        refine held_skip 4 adr4 (some 36) rfl rfl (by kernel_rfl) (by kernel_rfl) (by kernel_rfl) (fun _ _ _ h => h) (by rfl) hV ?_
        simp only [Act.put, List.setIfInBounds_toArray, List.set_cons_zero, List.set_cons_succ]
        refine held_skip 5 adr5 (some 37) rfl rfl (by kernel_rfl) (by kernel_rfl) (by kernel_rfl) (fun _ _ _ h => h) (by rfl) hV ?_
        simp only [Act.put, List.setIfInBounds_toArray, List.set_cons_zero, List.set_cons_succ]
        refine held_skip 6 adr6 (some 38) rfl rfl (by kernel_rfl) (by kernel_rfl) (by kernel_rfl) (fun _ _ _ h => h) (by rfl) hV ?_
        simp only [Act.put, List.setIfInBounds_toArray, List.set_cons_zero, List.set_cons_succ]
        refine held_skip 7 adr7 (some 39) rfl rfl (by kernel_rfl) (by kernel_rfl) (by kernel_rfl) (fun _ _ _ h => h) (by rfl) hV ?_
        simp only [Act.put, List.setIfInBounds_toArray, List.set_cons_zero, List.set_cons_succ]
        refine held_skip 8 adr8 (some 40) rfl rfl (by kernel_rfl) (by kernel_rfl) (by kernel_rfl) (fun _ _ _ h => h) (by rfl) hV ?_
        simp only [Act.put, List.setIfInBounds_toArray, List.set_cons_zero, List.set_cons_succ]
        refine held_skip 9 adr9 (some 41) rfl rfl (by kernel_rfl) (by kernel_rfl) (by kernel_rfl) (fun _ _ _ h => h) (by rfl) hV ?_
        simp only [Act.put, List.setIfInBounds_toArray, List.set_cons_zero, List.set_cons_succ]
        refine held_skip 10 adr10 (some 42) rfl rfl (by kernel_rfl) (by kernel_rfl) (by kernel_rfl) (fun _ _ _ h => h) (by rfl) hV ?_
        simp only [Act.put, List.setIfInBounds_toArray, List.set_cons_zero, List.set_cons_succ]
        refine held_skip 11 adr11 (some 43) rfl rfl (by kernel_rfl) (by kernel_rfl) (by kernel_rfl) (fun _ _ _ h => h) (by rfl) hV ?_
        simp only [Act.put, List.setIfInBounds_toArray, List.set_cons_zero, List.set_cons_succ]
        refine run_go [(12, adr12, some 44)] (by kernel_rfl) ?_
        iterate 1 (refine run_take ?_ rfl rfl (fun _ _ _ h => h) (Or.inl ⟨by rfl, ?_⟩) hV ?_; rotate_left; (· (intro w0 hy0; obtain ⟨z0, z1, z2, z3, z4, z5, z6, z7, z8⟩ := us_el2 (HI.out.usOf rfl (AdS.ob hy0)) hlt hxx; have kA := OB.at (AdS.ob hy0) (i := 0) rfl; have eA := kA.cell; have kB := OB.at (AdS.ob hy0) (i := 1) rfl; have eB := kB.cell; (go_simp <;> with_reducible rfl))); simp only [Act.put, List.setIfInBounds_toArray, List.set_cons_zero, List.set_cons_succ])
        refine run_end ?_
        refine wpAnyH_done (by kernel_rfl) ?_ _
        obtain ⟨z0, z1, z2, z3, z4, z5, z6, z7, z8⟩ := us_el2 (HI.out.usOf rfl hV.ob) hlt hxx
        have kA := OB.at hV.ob (i := 0) rfl
        have eA := kA.cell
        go_wp2_with (at_builtin; refine us_appLit2 (OB.good (StA_good hC)) rfl _ _ rfl a L.length c L [x] 1 rfl rfl (by simp) rfl rfl hV hf1 ?_; intro a4 c4 w4 hS4; have H4 := Lib.hid (show AdS w0 w p ⟨some ⟨bb, off, none⟩, huc, hs', hsc, hp', hpc, hi', hic⟩ s C ⟨kind, user, session, address, ea, eb, ec, tick⟩ a4 (L.length + 1) c4 (L ++ [x]) w4 from hS4); clear hS4)
        go_roundw
        case rel => exact ⟨k + 1, true, a4, c4, by omega, by go_num, rfl, HN.out.2.symm, by rw [HN.out.1, List.length_append]; rfl, (show Aside _ from by rw [HN.out.1, List.length_append]; exact H4.out)⟩
        case measure => simp [intOf]; omega
      | false =>
        by_cases hgt : U.u < x.u
        · have HN := Lib.hid (show adL U true (s.us.take (k + 1)) = (L ++ [U]) ++ [x] ∧ (s.us.take (k + 1)).any (fun y => decide (U.u < y.u)) = true from ⟨by rw [← hLL, hnx]; exact stAdd_new hb.symm hgt, by rw [hany, ← hb, decide_eq_true hgt]; rfl⟩)
          have hgt2 : user < x.u := by rw [← hUu]; exact hgt
          have hf2 : (L ++ [U]).length + 1 ≤ 1954687338268 := by rw [← hLL, List.length_append]; show (s.us.take k).length + 1 + 1 ≤ _; rw [List.length_take]; omega
          clear hLL hb hany hnx
          have HQ2 := Lib.hid q
          clear q
          go_wp2
          refine region_held (S := AdS w0 w p ⟨some ⟨bb, off, none⟩, huc, hs', hsc, hp', hpc, hi', hic⟩ s C ⟨kind, user, session, address, ea, eb, ec, tick⟩ a L.length c L) 13 [false, false, false, false, false, false, false, false, false, false, false, false, false] rfl rfl (by kernel_rfl) fun V hW => ?_
          have hV : AdS w0 w p ⟨some ⟨bb, off, none⟩, huc, hs', hsc, hp', hpc, hi', hic⟩ s C ⟨kind, user, session, address, ea, eb, ec, tick⟩ a L.length c L V := by rw [hW]; exact AdS.lay hC HQ2.out (us_drew _)
          clear hW HQ2 kA eA lA
          refine run_go [(0, adr0, some 32), (1, adr1, some 33), (2, adr2, some 34), (3, adr3, some 35), (4, adr4, some 36), (5, adr5, some 37), (6, adr6, some 38), (7, adr7, some 39), (8, adr8, some 40), (9, adr9, some 41), (10, adr10, some 42), (11, adr11, some 43), (12, adr12, some 44)] (by kernel_rfl) ?_
          iterate 13 (refine run_take ?_ rfl rfl (fun _ _ _ h => h) (Or.inl ⟨by rfl, ?_⟩) hV ?_; rotate_left; (· (intro w0 hy0; obtain ⟨z0, z1, z2, z3, z4, z5, z6, z7, z8⟩ := us_el2 (HI.out.usOf rfl (AdS.ob hy0)) hlt hxx; have kA := OB.at (AdS.ob hy0) (i := 0) rfl; have eA := kA.cell; have kB := OB.at (AdS.ob hy0) (i := 1) rfl; have eB := kB.cell; (go_simp <;> with_reducible rfl))); simp only [Act.put, List.setIfInBounds_toArray, List.set_cons_zero, List.set_cons_succ])
          refine run_end ?_
          refine wpAnyH_done (by kernel_rfl) ?_ _
          have kD := OB.at hV.ob (i := 3) rfl
          have eD := kD.cell
          go_wp2_with (at_builtin; first
            | (refine us_appLit2 (OB.good (StA_good hC)) rfl _ _ rfl a L.length c L [U] 1 rfl rfl (by simp) rfl (by rw [HUu.out]; rfl) hV hf1 ?_; intro a3 c3 w3 hS3; have hV3 : AdS w0 w p ⟨some ⟨bb, off, none⟩, huc, hs', hsc, hp', hpc, hi', hic⟩ s C ⟨kind, user, session, address, ea, eb, ec, tick⟩ a3 (L.length + 1) c3 (L ++ [U]) w3 := hS3; clear hS3; obtain ⟨z0, z1, z2, z3, z4, z5, z6, z7, z8⟩ := us_el2 (HI.out.usOf rfl hV3.ob) hlt hxx; have kA := OB.at hV3.ob (i := 0) rfl; have eA := kA.cell)
            | (refine us_appLit2 (OB.good (StA_good hC)) rfl _ _ rfl a3 (L.length + 1) c3 (L ++ [U]) [x] 1 rfl rfl (by simp) rfl rfl hV3 hf2 ?_; intro a4 c4 w4 hS4; have H4 := Lib.hid (show AdS w0 w p ⟨some ⟨bb, off, none⟩, huc, hs', hsc, hp', hpc, hi', hic⟩ s C ⟨kind, user, session, address, ea, eb, ec, tick⟩ a4 (L.length + 1 + 1) c4 ((L ++ [U]) ++ [x]) w4 from hS4); clear hS4))
          go_roundw
          case rel => exact ⟨k + 1, true, a4, c4, by omega, by go_num, rfl, HN.out.2.symm, by rw [HN.out.1, List.length_append, List.length_append]; rfl, (show Aside _ from by rw [HN.out.1, List.length_append, List.length_append]; exact H4.out)⟩
          case measure => simp [intOf]; omega
        · have HN := Lib.hid (show adL U false (s.us.take (k + 1)) = L ++ [x] ∧ (s.us.take (k + 1)).any (fun y => decide (U.u < y.u)) = false from ⟨by rw [← hLL, hnx]; rfl, by rw [hany, ← hb, decide_eq_false hgt]; rfl⟩)
          have hgt2 : ¬ user < x.u := by rw [← hUu]; exact hgt
          clear hLL hb hany hnx
          have HQ2 := Lib.hid q
          clear q
          go_wp2
          refine region_held (S := AdS w0 w p ⟨some ⟨bb, off, none⟩, huc, hs', hsc, hp', hpc, hi', hic⟩ s C ⟨kind, user, session, address, ea, eb, ec, tick⟩ a L.length c L) 13 [false, false, false, false, false, false, false, false, false, false, false, false, false] rfl rfl (by kernel_rfl) fun V hW => ?_
          have hV : AdS w0 w p ⟨some ⟨bb, off, none⟩, huc, hs', hsc, hp', hpc, hi', hic⟩ s C ⟨kind, user, session, address, ea, eb, ec, tick⟩ a L.length c L V := by rw [hW]; exact AdS.lay hC HQ2.out (us_drew _)
          clear hW HQ2 kA eA lA
          refine run_go [(0, adr0, some 32), (1, adr1, some 33), (2, adr2, some 34), (3, adr3, some 35), (4, adr4, some 36), (5, adr5, some 37), (6, adr6, some 38), (7, adr7, some 39), (8, adr8, some 40), (9, adr9, some 41), (10, adr10, some 42), (11, adr11, some 43), (12, adr12, some 44)] (by kernel_rfl) ?_
          iterate 13 (refine run_take ?_ rfl rfl (fun _ _ _ h => h) (Or.inl ⟨by rfl, ?_⟩) hV ?_; rotate_left; (· (intro w0 hy0; obtain ⟨z0, z1, z2, z3, z4, z5, z6, z7, z8⟩ := us_el2 (HI.out.usOf rfl (AdS.ob hy0)) hlt hxx; have kA := OB.at (AdS.ob hy0) (i := 0) rfl; have eA := kA.cell; have kB := OB.at (AdS.ob hy0) (i := 1) rfl; have eB := kB.cell; (go_simp <;> with_reducible rfl))); simp only [Act.put, List.setIfInBounds_toArray, List.set_cons_zero, List.set_cons_succ])
          refine run_end ?_
          refine wpAnyH_done (by kernel_rfl) ?_ _
          obtain ⟨z0, z1, z2, z3, z4, z5, z6, z7, z8⟩ := us_el2 (HI.out.usOf rfl hV.ob) hlt hxx
          have kA := OB.at hV.ob (i := 0) rfl
          have eA := kA.cell
          go_wp2_with (at_builtin; refine us_appLit2 (OB.good (StA_good hC)) rfl _ _ rfl a L.length c L [x] 1 rfl rfl (by simp) rfl rfl hV hf1 ?_; intro a4 c4 w4 hS4; have H4 := Lib.hid (show AdS w0 w p ⟨some ⟨bb, off, none⟩, huc, hs', hsc, hp', hpc, hi', hic⟩ s C ⟨kind, user, session, address, ea, eb, ec, tick⟩ a4 (L.length + 1) c4 (L ++ [x]) w4 from hS4); clear hS4)
          go_roundw
          case rel => exact ⟨k + 1, false, a4, c4, by omega, by go_num, rfl, HN.out.2.symm, by rw [HN.out.1, List.length_append]; rfl, (show Aside _ from by rw [HN.out.1, List.length_append]; exact H4.out)⟩
          case measure => simp [intOf]; omega
    · obtain rfl : k = s.us.length := by omega
      have hltI : ¬ (s.us.length : Int) < (s.us.length : Int) := by omega
      rw [List.take_length] at *
      have hLL : adL U b s.us = adL U b s.us := rfl
      cases b with
      | true =>
        have HFIN := Lib.hid (show stAdd U s.us = adL U true s.us from rfl)
        generalize adL U true s.us = L at *
        clear hLL hb
        have kA := OB.at q.ob (i := 0) rfl
        have eA := kA.cell
        have lA := kA.lt
        have gA := kA.froz
        have kR := OB.at q.ob (i := 2) rfl
        have eR := kR.cell
        have gR := kR.froz
        have lR := kR.lt
        have q6 := OB.poke ((rowE_good _ _ _ _ _).star (StA_good hC)) (At.imp q (OB.dn _ _ _)) 0 rfl 3 (.slice a L.length c)
        go_wp2
        refine bodyPost_ret (v := .tuple #[.agg #[.int .i64 s.b, .int .i64 s.e, .int .i64 s.n, .slice a L.length c, .slice hs' s.ss.length hsc, .slice hp' s.ad.length hpc, .slice hi' s.sp.length hic], .bool true]) (by simp [*, results, Tryz.results50, go_sem]) rfl ⟨⟨a, c, hs', hsc, hp', hpc, hi', hic⟩, by rw [HFIN.out], ?_⟩
        have q7 := OB.wr7 ((rowE_good _ _ _ _ _).star (StA_good hC)) q6 (i := 2) rfl (.int .i64 s.b) (.int .i64 s.e) (.int .i64 s.n) (.slice a L.length c) (.slice hs' s.ss.length hsc) (.slice hp' s.ad.length hpc) (.slice hi' s.sp.length hic)
        have q8 := (q7.imp (Ass.imp.swap _ _ _)).drop
        simp only [StA, HFIN.out] at q8 ⊢
        exact q8
      | false =>
        have HFIN := Lib.hid (show stAdd U s.us = s.us ++ [U] from stAdd_none hb.symm)
        have hq2 : AdS w0 w p ⟨hu, huc, hs', hsc, hp', hpc, hi', hic⟩ s C ⟨kind, user, session, address, ea, eb, ec, tick⟩ a s.us.length c s.us wr := q
        have hf3 : s.us.length + 1 ≤ 1954687338268 := by omega
        clear hLL hb q
        have kA := OB.at hq2.ob (i := 0) rfl
        have eA := kA.cell
        have lA := kA.lt
        have kD := OB.at hq2.ob (i := 3) rfl
        have eD := kD.cell
        have lD := kD.lt
        go_wp2_with (at_builtin; refine us_appLit2 (OB.good (StA_good hC)) rfl _ _ rfl a s.us.length c s.us [U] 1 rfl rfl (by simp) rfl (by rw [HUu.out]; rfl) hq2 hf3 ?_; intro a3 c3 w3 hS3; have hV3 : AdS w0 w p ⟨hu, huc, hs', hsc, hp', hpc, hi', hic⟩ s C ⟨kind, user, session, address, ea, eb, ec, tick⟩ a3 (s.us.length + 1) c3 (s.us ++ [U]) w3 := hS3; clear hS3; have kA := OB.at hV3.ob (i := 0) rfl; have eA := kA.cell; have lA := kA.lt; have gA := kA.froz; have kR := OB.at hV3.ob (i := 2) rfl; have eR := kR.cell; have gR := kR.froz; have lR := kR.lt; have q6 := OB.poke ((rowE_good _ _ _ _ _).star (StA_good hC)) (At.imp hV3 (OB.dn _ _ _)) 0 rfl 3 (.slice a3 (s.us.length + 1) c3))
        refine bodyPost_ret (v := .tuple #[.agg #[.int .i64 s.b, .int .i64 s.e, .int .i64 s.n, .slice a3 (s.us.length + 1) c3, .slice hs' s.ss.length hsc, .slice hp' s.ad.length hpc, .slice hi' s.sp.length hic], .bool true]) (by simp [*, results, Tryz.results50, go_sem]) rfl ⟨⟨a3, c3, hs', hsc, hp', hpc, hi', hic⟩, by simp [HFIN.out], ?_⟩
        have q7 := OB.wr7 ((rowE_good _ _ _ _ _).star (StA_good hC)) q6 (i := 2) rfl (.int .i64 s.b) (.int .i64 s.e) (.int .i64 s.n) (.slice a3 (s.us.length + 1) c3) (.slice hs' s.ss.length hsc) (.slice hp' s.ad.length hpc) (.slice hi' s.sp.length hic)
        have q8 := (q7.imp (Ass.imp.swap _ _ _)).drop
        simp only [StA, HFIN.out, List.length_append, List.length_singleton] at q8 ⊢
        exact q8
end Go.Proofs.YtopkcaflmpjhgaaGreat

