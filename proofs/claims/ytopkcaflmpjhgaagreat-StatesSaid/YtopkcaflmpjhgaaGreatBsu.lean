/- Put together: Str12, Str13. Conditions: each theorem's own. -/
import Derived.Test.YtopkcaflmpjhgaaGreatBsn
import Derived.Test.YtopkcaflmpjhgaaGreatBrm
import Derived.Test.YtopkcaflmpjhgaaGreatBsp
namespace Go.Proofs.YtopkcaflmpjhgaaGreat
open Go Go.RowKit

set_option maxRecDepth 100000 in
set_option maxHeartbeats 8000000 in
theorem rapply_no_a {w : World} {h : Sv} {c : Cf} {s : St} {e : Ev} (c1 : c.may = false) :
    Calls Tryz.prog 14 #[.agg (cfC c), .agg (stC h s), .agg (evA e)] w fun r w' => r = .returned (.tuple #[.agg (stC .none .none), .int .i64 2000]) ∧ Below w.heap.size w w' := by
  have HQ := Lib.hid (ob4 emp_good (At.none (Below.refl w.heap.size w)) (cfC c) (stC h s) (evA e) stZ TCf TSt TEvt TSt)
  have HC := Lib.hid (fun W => (c1 ▸ rcfmay c W : Calls Tryz.prog 30 #[.agg (cfC c)] W fun e w' => e = .returned (.bool false) ∧ Below W.heap.size W w'))
  clear c1
  go_enter Tryz.func14, Tryz.ntmps14
  go_wp2_with (first
    | (go_at_call 30; (with_reducible refine (HC.out _).mono ?_); rintro r w1 ⟨rfl, hb1⟩; have q1 := OB.lay emp_good HQ.out hb1; clear hb1; have ka0 := OB.at q1 (i := 0) rfl; have ea0 := ka0.cell; have ga0 := ka0.froz; have la0 := ka0.lt; have ka1 := OB.at q1 (i := 1) rfl; have ea1 := ka1.cell; have ga1 := ka1.froz; have la1 := ka1.lt; have ka2 := OB.at q1 (i := 2) rfl; have ea2 := ka2.cell; have ga2 := ka2.froz; have la2 := ka2.lt; have ka3 := OB.at q1 (i := 3) rfl; have ea3 := ka3.cell; have ga3 := ka3.froz; have la3 := ka3.lt))
  refine bodyPost_ret (v := .tuple #[.agg (stC .none .none), .int .i64 2000]) (by simp [*, St.none, results, Tryz.results14, go_sem]) rfl ⟨rfl, ?_⟩
  exact (OB.wr7 emp_good q1 (i := 3) rfl _ _ _ _ _ _ _).bel
set_option maxRecDepth 100000 in
set_option maxHeartbeats 8000000 in
theorem rapply_no_b {w : World} {h : Sv} {c : Cf} {s : St} {e : Ev} (c1 : c.may = true) (c2 : e.may = false) :
    Calls Tryz.prog 14 #[.agg (cfC c), .agg (stC h s), .agg (evA e)] w fun r w' => r = .returned (.tuple #[.agg (stC .none .none), .int .i64 2000]) ∧ Below w.heap.size w w' := by
  have HQ := Lib.hid (ob4 emp_good (At.none (Below.refl w.heap.size w)) (cfC c) (stC h s) (evA e) stZ TCf TSt TEvt TSt)
  have HC := Lib.hid (fun W => (c1 ▸ rcfmay c W : Calls Tryz.prog 30 #[.agg (cfC c)] W fun e w' => e = .returned (.bool true) ∧ Below W.heap.size W w'))
  have HE := Lib.hid (fun W => (c2 ▸ remay e W : Calls Tryz.prog 31 #[.agg (evA e)] W fun e w' => e = .returned (.bool false) ∧ Below W.heap.size W w'))
  clear c1 c2
  go_enter Tryz.func14, Tryz.ntmps14
  go_wp2_with (first
    | (go_at_call 30; (with_reducible refine (HC.out _).mono ?_); rintro r w1 ⟨rfl, hb1⟩; have q1 := OB.lay emp_good HQ.out hb1; clear hb1; have ka0 := OB.at q1 (i := 0) rfl; have ea0 := ka0.cell; have ga0 := ka0.froz; have la0 := ka0.lt; have ka1 := OB.at q1 (i := 1) rfl; have ea1 := ka1.cell; have ga1 := ka1.froz; have la1 := ka1.lt; have ka2 := OB.at q1 (i := 2) rfl; have ea2 := ka2.cell; have ga2 := ka2.froz; have la2 := ka2.lt; have ka3 := OB.at q1 (i := 3) rfl; have ea3 := ka3.cell; have ga3 := ka3.froz; have la3 := ka3.lt)
    | (go_at_call 31; (with_reducible refine (HE.out _).mono ?_); rintro r w2 ⟨rfl, hb2⟩; have q2 := OB.lay emp_good q1 hb2; clear hb2; have kb0 := OB.at q2 (i := 0) rfl; have eb0 := kb0.cell; have gb0 := kb0.froz; have lb0 := kb0.lt; have kb1 := OB.at q2 (i := 1) rfl; have eb1 := kb1.cell; have gb1 := kb1.froz; have lb1 := kb1.lt; have kb2 := OB.at q2 (i := 2) rfl; have eb2 := kb2.cell; have gb2 := kb2.froz; have lb2 := kb2.lt; have kb3 := OB.at q2 (i := 3) rfl; have eb3 := kb3.cell; have gb3 := kb3.froz; have lb3 := kb3.lt))
  refine bodyPost_ret (v := .tuple #[.agg (stC .none .none), .int .i64 2000]) (by simp [*, St.none, results, Tryz.results14, go_sem]) rfl ⟨rfl, ?_⟩
  exact (OB.wr7 emp_good q2 (i := 3) rfl _ _ _ _ _ _ _).bel
set_option maxRecDepth 100000 in
set_option maxHeartbeats 8000000 in
theorem rapply_no_d {w : World} {h : Sv} {c : Cf} {s : St} {e : Ev} (c1 : c.may = true) (c2 : e.may = true) (c3 : ¬ (s.ad.length : Int) = c.adr) :
    Calls Tryz.prog 14 #[.agg (cfC c), .agg (stC h s), .agg (evA e)] w fun r w' => r = .returned (.tuple #[.agg (stC .none .none), .int .i64 2000]) ∧ Below w.heap.size w w' := by
  have HQ := Lib.hid (ob4 emp_good (At.none (Below.refl w.heap.size w)) (cfC c) (stC h s) (evA e) stZ TCf TSt TEvt TSt)
  have HC := Lib.hid (fun W => (c1 ▸ rcfmay c W : Calls Tryz.prog 30 #[.agg (cfC c)] W fun e w' => e = .returned (.bool true) ∧ Below W.heap.size W w'))
  have HE := Lib.hid (fun W => (c2 ▸ remay e W : Calls Tryz.prog 31 #[.agg (evA e)] W fun e w' => e = .returned (.bool true) ∧ Below W.heap.size W w'))
  clear c1 c2
  go_enter Tryz.func14, Tryz.ntmps14
  go_wp2_with (first
    | (go_at_call 30; (with_reducible refine (HC.out _).mono ?_); rintro r w1 ⟨rfl, hb1⟩; have q1 := OB.lay emp_good HQ.out hb1; clear hb1; have ka0 := OB.at q1 (i := 0) rfl; have ea0 := ka0.cell; have ga0 := ka0.froz; have la0 := ka0.lt; have ka1 := OB.at q1 (i := 1) rfl; have ea1 := ka1.cell; have ga1 := ka1.froz; have la1 := ka1.lt; have ka2 := OB.at q1 (i := 2) rfl; have ea2 := ka2.cell; have ga2 := ka2.froz; have la2 := ka2.lt; have ka3 := OB.at q1 (i := 3) rfl; have ea3 := ka3.cell; have ga3 := ka3.froz; have la3 := ka3.lt)
    | (go_at_call 31; (with_reducible refine (HE.out _).mono ?_); rintro r w2 ⟨rfl, hb2⟩; have q2 := OB.lay emp_good q1 hb2; clear hb2; have kb0 := OB.at q2 (i := 0) rfl; have eb0 := kb0.cell; have gb0 := kb0.froz; have lb0 := kb0.lt; have kb1 := OB.at q2 (i := 1) rfl; have eb1 := kb1.cell; have gb1 := kb1.froz; have lb1 := kb1.lt; have kb2 := OB.at q2 (i := 2) rfl; have eb2 := kb2.cell; have gb2 := kb2.froz; have lb2 := kb2.lt; have kb3 := OB.at q2 (i := 3) rfl; have eb3 := kb3.cell; have gb3 := kb3.froz; have lb3 := kb3.lt))
  refine bodyPost_ret (v := .tuple #[.agg (stC .none .none), .int .i64 2000]) (by simp [*, St.none, results, Tryz.results14, go_sem]) rfl ⟨rfl, ?_⟩
  exact (OB.wr7 emp_good q2 (i := 3) rfl _ _ _ _ _ _ _).bel
theorem rapply_no {w : World} {h : Sv} {c : Cf} {s : St} {e : Ev} (hk : stOk c s e = false) :
    Calls Tryz.prog 14 #[.agg (cfC c), .agg (stC h s), .agg (evA e)] w fun r w' => r = .returned (.tuple #[.agg (stC .none .none), .int .i64 2000]) ∧ Below w.heap.size w w' := by
  cases c1 : c.may with
  | false => exact rapply_no_a c1
  | true =>
    cases c2 : e.may with
    | false => exact rapply_no_b c1 c2
    | true => exact rapply_no_d c1 c2 (fun q => by rw [stOk, c1, c2, decide_eq_true q] at hk; cases hk)
end Go.Proofs.YtopkcaflmpjhgaaGreat

namespace Go.Proofs.YtopkcaflmpjhgaaGreat
open Go Go.RowKit

abbrev apr0 : Oper := { dst := some 28, op := Op.load 23 (Operand.tmp 3), type := 23, pos := "ref.go:72", after := #[], guard := none }
abbrev apr1 : Oper := { dst := some 29, op := Op.load 29 (Operand.tmp 4), type := 29, pos := "ref.go:72", after := #[], guard := none }
abbrev apr2 : Oper := { dst := some 30, op := Op.call { callee := Callee.value (Operand.func 33), args := #[Operand.tmp 29], argTypes := #[29] }, type := 29, pos := "ref.go:72", after := #[{ on := 1, ground := Ground.data }], guard := none }
abbrev apr3 : Oper := { dst := some 31, op := Op.load 45 (Operand.tmp 5), type := 45, pos := "ref.go:72", after := #[], guard := none }
abbrev apr4 : Oper := { dst := some 32, op := Op.call { callee := Callee.value (Operand.func 32), args := #[Operand.tmp 28, Operand.tmp 30, Operand.tmp 31], argTypes := #[23, 29, 45] }, type := 73, pos := "ref.go:72", after := #[{ on := 0, ground := Ground.data }, { on := 2, ground := Ground.data }, { on := 3, ground := Ground.data }, { on := 2, ground := Ground.chain }], guard := none }
abbrev apr5 : Oper := { dst := some 27, op := Op.move (Operand.tmp 32), type := 73, pos := "ref.go:72", after := #[{ on := 4, ground := Ground.data }], guard := none }
abbrev apr6 : Oper := { dst := some 33, op := Op.extract (Operand.tmp 27) 0, type := 29, pos := "ref.go:72", after := #[{ on := 5, ground := Ground.data }], guard := none }
abbrev apr7 : Oper := { dst := some 34, op := Op.extract (Operand.tmp 27) 1, type := 4, pos := "ref.go:72", after := #[{ on := 5, ground := Ground.data }, { on := 9, ground := Ground.gcOnly Departure.lateStores }], guard := none }
abbrev apr8 : Oper := { dst := some 8, op := Op.alloc 29, type := 0, pos := "ref.go:72", after := #[], guard := none }
abbrev apr9 : Oper := { dst := none, op := Op.store 29 (Operand.tmp 8) (Operand.tmp 33), type := 0, pos := "ref.go:72", after := #[{ on := 8, ground := Ground.data }, { on := 6, ground := Ground.data }, { on := 4, ground := Ground.chain }, { on := 0, ground := Ground.phase }, { on := 1, ground := Ground.phase }, { on := 2, ground := Ground.phase }, { on := 3, ground := Ground.phase }, { on := 4, ground := Ground.phase }, { on := 5, ground := Ground.phase }, { on := 6, ground := Ground.phase }, { on := 7, ground := Ground.textOnly Departure.lateStores }, { on := 8, ground := Ground.phase }], guard := none }
abbrev apr10 : Oper := { dst := some 9, op := Op.assign (Operand.tmp 34), type := 4, pos := "ref.go:72", after := #[{ on := 7, ground := Ground.data }, { on := 9, ground := Ground.chain }, { on := 0, ground := Ground.phase }, { on := 1, ground := Ground.phase }, { on := 2, ground := Ground.phase }, { on := 3, ground := Ground.phase }, { on := 4, ground := Ground.phase }, { on := 5, ground := Ground.phase }, { on := 6, ground := Ground.phase }, { on := 7, ground := Ground.phase }, { on := 8, ground := Ground.phase }, { on := 9, ground := Ground.phase }], guard := none }
theorem ocopy {w0 V : World} {R : Ass} {l : List Ob} (hR : R.Good) {h : Sv} {s : St} (q : At w0 (OB l R) V) (hi : StIn V h s) :
    Calls Tryz.prog 33 #[.agg (stC h s)] V fun e Z => ∃ v, e = .returned v ∧ ∃ h1 : Sv, v = .agg (stC h1 s) ∧ At w0 (OB l (StA h1 s R)) Z :=
  (rcopystate hi).mono fun _ _ ⟨h1, e1, z⟩ => ⟨_, e1, h1, rfl, (StNew.front (OB.good hR) q z).imp (OB.outof _ _ _ _)⟩
theorem oapply_y {w0 V w : World} {R : Ass} {l : List Ob} (hR : R.Good) {h h1 : Sv} {c : Cf} {s t : St} {e : Ev} (q : At w0 (OB l (StA h1 s R)) V) (hi : StIn w h s) (hn : s.nums) (c1 : c.may = true) (c2 : e.may = true) (hE : stEv c s e = some t) :
    Calls Tryz.prog 32 #[.agg (cfC c), .agg (stC h1 s), .agg (evA e)] V fun r Z => ∃ v, r = .returned v ∧ ∃ h2 : Sv, v = .tuple #[.agg (stC h2 t), .bool true] ∧ At w0 (OB l (StA h2 t R)) Z := by
  refine (rapplied (OB.good hR) (q.imp (OB.into _ _ _ _)) (At.stIn (OB.rest q) hi.fu hi.fs hi.fa hi.fi) hn c1 c2).mono fun r Z z => ?_
  unfold ApS at z
  rw [hE] at z
  obtain ⟨h2, e2, z⟩ := z
  exact ⟨_, e2, h2, rfl, z.imp (OB.outof _ _ _ _)⟩
theorem oapply_n {w0 V w : World} {R : Ass} {l : List Ob} (hR : R.Good) {h h1 : Sv} {c : Cf} {s : St} {e : Ev} (q : At w0 (OB l (StA h1 s R)) V) (hi : StIn w h s) (hn : s.nums) (c1 : c.may = true) (c2 : e.may = true) (hE : stEv c s e = none) :
    Calls Tryz.prog 32 #[.agg (cfC c), .agg (stC h1 s), .agg (evA e)] V fun r Z => ∃ v, r = .returned v ∧ ∃ (h2 : Sv) (t : St), v = .tuple #[.agg (stC h2 t), .bool false] ∧ At w0 (OB l R) Z := by
  refine (rapplied (OB.good hR) (q.imp (OB.into _ _ _ _)) (At.stIn (OB.rest q) hi.fu hi.fs hi.fa hi.fi) hn c1 c2).mono fun r Z z => ?_
  unfold ApS at z
  rw [hE] at z
  obtain ⟨h2, t, e2, z⟩ := z
  exact ⟨_, e2, h2, t, rfl, z⟩
/-- A state's block is written whole. -/
theorem OB.put7 {l : List Ob} {R : Ass} {w0 w : World} (hR : R.Good) (h : At w0 (OB l R) w) {i b : Nat} {T : TypeId} {z0 z1 z2 z3 z4 z5 z6 : Value} (hi : l[i]? = some (b, #[z0, z1, z2, z3, z4, z5, z6], T)) (v0 v1 v2 v3 v4 v5 v6 : Value) : At w0 (OB (l.set i (b, #[v0, v1, v2, v3, v4, v5, v6], T)) R) (((((((w.setCell ⟨b, 0, none⟩ v0).setCell ⟨b, 1, none⟩ v1).setCell ⟨b, 2, none⟩ v2).setCell ⟨b, 3, none⟩ v3).setCell ⟨b, 4, none⟩ v4).setCell ⟨b, 5, none⟩ v5).setCell ⟨b, 6, none⟩ v6) := by
  have h0 : At w0 ((ownA b #[z0, z1, z2, z3, z4, z5, z6] T).star (OB (l.eraseIdx i) R)) w := (h.imp (OB.pick R hi))
  have g := OB.good (l := l.eraseIdx i) hR
  have h1 : At w0 ((ownA b #[v0, z1, z2, z3, z4, z5, z6] T).star (OB (l.eraseIdx i) R)) (w.setCell ⟨b, 0, none⟩ v0) := h0.poke g 0 v0
  have h2 : At w0 ((ownA b #[v0, v1, z2, z3, z4, z5, z6] T).star (OB (l.eraseIdx i) R)) ((w.setCell ⟨b, 0, none⟩ v0).setCell ⟨b, 1, none⟩ v1) := h1.poke g 1 v1
  have h3 : At w0 ((ownA b #[v0, v1, v2, z3, z4, z5, z6] T).star (OB (l.eraseIdx i) R)) (((w.setCell ⟨b, 0, none⟩ v0).setCell ⟨b, 1, none⟩ v1).setCell ⟨b, 2, none⟩ v2) := h2.poke g 2 v2
  have h4 : At w0 ((ownA b #[v0, v1, v2, v3, z4, z5, z6] T).star (OB (l.eraseIdx i) R)) ((((w.setCell ⟨b, 0, none⟩ v0).setCell ⟨b, 1, none⟩ v1).setCell ⟨b, 2, none⟩ v2).setCell ⟨b, 3, none⟩ v3) := h3.poke g 3 v3
  have h5 : At w0 ((ownA b #[v0, v1, v2, v3, v4, z5, z6] T).star (OB (l.eraseIdx i) R)) (((((w.setCell ⟨b, 0, none⟩ v0).setCell ⟨b, 1, none⟩ v1).setCell ⟨b, 2, none⟩ v2).setCell ⟨b, 3, none⟩ v3).setCell ⟨b, 4, none⟩ v4) := h4.poke g 4 v4
  have h6 : At w0 ((ownA b #[v0, v1, v2, v3, v4, v5, z6] T).star (OB (l.eraseIdx i) R)) ((((((w.setCell ⟨b, 0, none⟩ v0).setCell ⟨b, 1, none⟩ v1).setCell ⟨b, 2, none⟩ v2).setCell ⟨b, 3, none⟩ v3).setCell ⟨b, 4, none⟩ v4).setCell ⟨b, 5, none⟩ v5) := h5.poke g 5 v5
  have h7 : At w0 ((ownA b #[v0, v1, v2, v3, v4, v5, v6] T).star (OB (l.eraseIdx i) R)) (((((((w.setCell ⟨b, 0, none⟩ v0).setCell ⟨b, 1, none⟩ v1).setCell ⟨b, 2, none⟩ v2).setCell ⟨b, 3, none⟩ v3).setCell ⟨b, 4, none⟩ v4).setCell ⟨b, 5, none⟩ v5).setCell ⟨b, 6, none⟩ v6) := h6.poke g 6 v6
  exact h7.imp (OB.put R (b, #[v0, v1, v2, v3, v4, v5, v6], T) hi)
set_option maxRecDepth 100000 in
set_option maxHeartbeats 16000000 in
theorem rapply_y {w : World} {h : Sv} {c : Cf} {s t : St} {e : Ev} (hi : StIn w h s) (hn : s.nums) (c1 : c.may = true) (c2 : e.may = true) (c3 : (s.ad.length : Int) = c.adr) (hE : stEv c s e = some t) :
    Calls Tryz.prog 14 #[.agg (cfC c), .agg (stC h s), .agg (evA e)] w fun r w' => ∃ h' : Sv, r = .returned (.tuple #[.agg (stC h' t), .int .i64 0]) ∧ StNew w h' t w' := by
  have HQ := Lib.hid (ob4 emp_good (At.none (Below.refl w.heap.size w)) (cfC c) (stC h s) (evA e) stZ TCf TSt TEvt TSt)
  have HC := Lib.hid (fun W => (c1 ▸ rcfmay c W : Calls Tryz.prog 30 #[.agg (cfC c)] W fun e w' => e = .returned (.bool true) ∧ Below W.heap.size W w'))
  have HM := Lib.hid (fun W => (c2 ▸ remay e W : Calls Tryz.prog 31 #[.agg (evA e)] W fun e w' => e = .returned (.bool true) ∧ Below W.heap.size W w'))
  have HI := Lib.hid hi
  have HA := Lib.hid (And.intro hn (And.intro c1 c2))
  have HE := Lib.hid hE
  have c4 : ((s.ad.length : Int) != c.adr) = false := by simp [c3]
  clear c1 c2 hi hn hE
  go_enter Tryz.func14, Tryz.ntmps14
  go_wp2_with (first
    | (go_at_call 30; (with_reducible refine (HC.out _).mono ?_); rintro r w1 ⟨rfl, hb1⟩; have q1 := OB.lay emp_good HQ.out hb1; clear hb1; have ka0 := OB.at q1 (i := 0) rfl; have ea0 := ka0.cell; have ka1 := OB.at q1 (i := 1) rfl; have ea1 := ka1.cell; have ka2 := OB.at q1 (i := 2) rfl; have ea2 := ka2.cell)
    | (go_at_call 31; (with_reducible refine (HM.out _).mono ?_); rintro r w2 ⟨rfl, hb2⟩; have q2 := OB.lay emp_good q1 hb2; clear hb2; have kb0 := OB.at q2 (i := 0) rfl; have eb0 := kb0.cell; have kb1 := OB.at q2 (i := 1) rfl; have eb1 := kb1.cell))
  clear ka0 ka1 ka2 ea0 ea1 ea2 kb0 eb0 kb1 eb1 q1 c3 c4
  refine region_held (S := fun Z => Blk Z w.heap.size (cfC c) ∧ Blk Z (w.heap.size + 1) (stC h s) ∧ Blk Z (w.heap.size + 1 + 1) (evA e)) 11 [false, false, false, false, false, false, false, false, false, false, false] rfl rfl (by kernel_rfl) fun V hW => ?_
  have q3 := OB.lay emp_good q2 (us_drew w2)
  rw [← hW] at q3
  have hS3 : _ ∧ _ ∧ _ := ⟨OB.at q3 (i := 0) rfl, OB.at q3 (i := 1) rfl, OB.at q3 (i := 2) rfl⟩
  clear hW q2
  refine run_go [(0, apr0, (some 28)), (1, apr1, (some 29)), (3, apr3, (some 31))] (by kernel_rfl) ?_
  iterate 3 (refine run_take ?_ rfl rfl (fun _ _ _ h => h) (Or.inl ⟨by rfl, ?_⟩) hS3 ?_; rotate_left; (· (intro w0' hy0; obtain ⟨k0, k1, k2⟩ := hy0; have e0 := k0.cell; have e1 := k1.cell; have e2 := k2.cell; clear k0 k1 k2; (go_simp <;> with_reducible rfl))); simp only [Act.put, List.setIfInBounds_toArray, List.set_cons_zero, List.set_cons_succ])
  refine run_end ?_
  refine jtwo 2 8 (by kernel_rfl) ?_ ?_
  · refine jop_callv 2 apr2 (some 30) (fun v Z => ∃ h1 : Sv, v = .agg (stC h1 s) ∧ At w (OB [(w.heap.size, cfC c, TCf), (w.heap.size + 1, stC h s, TSt), (w.heap.size + 1 + 1, evA e, TEvt), (w.heap.size + 1 + 1 + 1, stZ, TSt)] (StA h1 s emp)) Z) 33 #[.agg (stC h s)] rfl rfl (by rfl) (by go_simp <;> with_reducible rfl) (ocopy emp_good q3 (HI.out.on q3.bel)) (fun v Z ⟨h1, _, z⟩ => ⟨OB.at z (i := 0) rfl, OB.at z (i := 1) rfl, OB.at z (i := 2) rfl⟩) ?_
    rintro v V4 ⟨h1, rfl, q4⟩
    simp only [Act.put, List.setIfInBounds_toArray, List.set_cons_zero, List.set_cons_succ]
    have hS4 : _ ∧ _ ∧ _ := ⟨OB.at q4 (i := 0) rfl, OB.at q4 (i := 1) rfl, OB.at q4 (i := 2) rfl⟩
    refine jtwo 4 8 (by kernel_rfl) ?_ ?_
    · refine jop_callv 4 apr4 (some 32) (fun v Z => ∃ h2 : Sv, v = .tuple #[.agg (stC h2 t), .bool true] ∧ At w (OB [(w.heap.size, cfC c, TCf), (w.heap.size + 1, stC h s, TSt), (w.heap.size + 1 + 1, evA e, TEvt), (w.heap.size + 1 + 1 + 1, stZ, TSt)] (StA h2 t emp)) Z) 32 #[.agg (cfC c), .agg (stC h1 s), .agg (evA e)] rfl rfl (by rfl) (by go_simp <;> with_reducible rfl) (oapply_y emp_good q4 HI.out HA.out.1 HA.out.2.1 HA.out.2.2 HE.out) (fun v Z ⟨h2, _, z⟩ => ⟨OB.at z (i := 0) rfl, OB.at z (i := 1) rfl, OB.at z (i := 2) rfl⟩) ?_
      rintro v V5 ⟨h2, rfl, q5⟩
      simp only [Act.put, List.setIfInBounds_toArray, List.set_cons_zero, List.set_cons_succ]
      have hS5 : _ ∧ _ ∧ _ := ⟨OB.at q5 (i := 0) rfl, OB.at q5 (i := 1) rfl, OB.at q5 (i := 2) rfl⟩
      refine run_go [(5, apr5, (some 27)), (6, apr6, (some 33)), (7, apr7, (some 34))] (by kernel_rfl) ?_
      iterate 3 (refine run_take ?_ rfl rfl (fun _ _ _ h => h) (Or.inl ⟨by rfl, ?_⟩) hS5 ?_; rotate_left; (· (intro w0' hy0; obtain ⟨k0, k1, k2⟩ := hy0; have e0 := k0.cell; have e1 := k1.cell; have e2 := k2.cell; clear k0 k1 k2; (go_simp <;> with_reducible rfl))); simp only [Act.put, List.setIfInBounds_toArray, List.set_cons_zero, List.set_cons_succ])
      refine run_end ?_
      have q6 := OB.hold (by first | exact StA_good emp_good | exact emp_good) q5 stZ TSt rfl
      refine held_one 8 apr8 (some 8) (.pointer (some ⟨V5.heap.size, 0, none⟩)) (V5.alloc (.cells stZ TSt)) (by kernel_rfl) rfl rfl (by rfl) (by go_simp <;> with_reducible rfl) (⟨OB.at q6 (i := 0) rfl, OB.at q6 (i := 1) rfl, OB.at q6 (i := 2) rfl⟩) ?_
      simp only [Act.put, List.setIfInBounds_toArray, List.set_cons_zero, List.set_cons_succ]
      generalize V5.alloc (.cells stZ TSt) = V6 at *
      generalize V5.heap.size = p at *
      have kp := OB.at q6 (i := 4) rfl
      have ep := kp.cell
      have gp := kp.froz
      have q7 := OB.put7 (by first | exact StA_good emp_good | exact emp_good) q6 (i := 4) rfl (.int .i64 t.b) (.int .i64 t.e) (.int .i64 t.n) (.slice h2.u t.us.length h2.uc) (.slice h2.s t.ss.length h2.sc) (.slice h2.p t.ad.length h2.pc) (.slice h2.i t.sp.length h2.ic)
      refine held_void 9 apr9 _ (by kernel_rfl) rfl (by rfl) (by go_simp <;> with_reducible rfl) ⟨OB.at q7 (i := 0) rfl, OB.at q7 (i := 1) rfl, OB.at q7 (i := 2) rfl⟩ ?_
      simp only [Act.put, List.setIfInBounds_toArray, List.set_cons_zero, List.set_cons_succ]
      refine run_go [(10, apr10, (some 9))] (by kernel_rfl) ?_
      iterate 1 (refine run_take ?_ rfl rfl (fun _ _ _ h => h) (Or.inl ⟨by rfl, ?_⟩) ⟨OB.at q7 (i := 0) rfl, OB.at q7 (i := 1) rfl, OB.at q7 (i := 2) rfl⟩ ?_; rotate_left; (· (intro w0' hy0; obtain ⟨k0, k1, k2⟩ := hy0; have e0 := k0.cell; have e1 := k1.cell; have e2 := k2.cell; clear k0 k1 k2; (go_simp <;> with_reducible rfl))); simp only [Act.put, List.setIfInBounds_toArray, List.set_cons_zero, List.set_cons_succ])
      refine run_end ?_
      refine wpAnyH_done (by kernel_rfl) ?_ _
      have kr := OB.at q7 (i := 3) rfl
      have er := kr.cell
      have gr := kr.froz
      have lr := kr.lt
      have kq := OB.at q7 (i := 4) rfl
      have eq := kq.cell
      have HF := Lib.hid q7
      clear kr kq
      go_wp2
      refine bodyPost_ret (v := .tuple #[.agg (stC h2 t), .int .i64 0]) (by simp [*, results, Tryz.results14, go_sem]) rfl ⟨h2, rfl, ?_⟩
      exact OB.wr7 (StA_good emp_good) HF.out (i := 3) rfl _ _ _ _ _ _ _
    · have q5 := OB.hold (by first | exact StA_good emp_good | exact emp_good) q4 stZ TSt rfl
      refine jop_one 8 apr8 (some 8) (.pointer (some ⟨V4.heap.size, 0, none⟩)) (V4.alloc (.cells stZ TSt)) rfl rfl (by rfl) (by go_simp <;> with_reducible rfl) (⟨OB.at q5 (i := 0) rfl, OB.at q5 (i := 1) rfl, OB.at q5 (i := 2) rfl⟩) ?_
      simp only [Act.put, List.setIfInBounds_toArray, List.set_cons_zero, List.set_cons_succ]
      generalize V4.alloc (.cells stZ TSt) = V5 at *
      generalize V4.heap.size = p at *
      refine held_callv 4 apr4 (some 32) (fun v Z => ∃ h2 : Sv, v = .tuple #[.agg (stC h2 t), .bool true] ∧ At w (OB [(w.heap.size, cfC c, TCf), (w.heap.size + 1, stC h s, TSt), (w.heap.size + 1 + 1, evA e, TEvt), (w.heap.size + 1 + 1 + 1, stZ, TSt), (p, stZ, TSt)] (StA h2 t emp)) Z) 32 #[.agg (cfC c), .agg (stC h1 s), .agg (evA e)] (by kernel_rfl) rfl rfl (by rfl) (by go_simp <;> with_reducible rfl) (oapply_y emp_good q5 HI.out HA.out.1 HA.out.2.1 HA.out.2.2 HE.out) (fun v Z ⟨h2, _, z⟩ => ⟨OB.at z (i := 0) rfl, OB.at z (i := 1) rfl, OB.at z (i := 2) rfl⟩) ?_
      rintro v V6 ⟨h2, rfl, q6⟩
      simp only [Act.put, List.setIfInBounds_toArray, List.set_cons_zero, List.set_cons_succ]
      have hS6 : _ ∧ _ ∧ _ := ⟨OB.at q6 (i := 0) rfl, OB.at q6 (i := 1) rfl, OB.at q6 (i := 2) rfl⟩
      refine run_go [(5, apr5, (some 27)), (6, apr6, (some 33)), (7, apr7, (some 34))] (by kernel_rfl) ?_
      iterate 3 (refine run_take ?_ rfl rfl (fun _ _ _ h => h) (Or.inl ⟨by rfl, ?_⟩) hS6 ?_; rotate_left; (· (intro w0' hy0; obtain ⟨k0, k1, k2⟩ := hy0; have e0 := k0.cell; have e1 := k1.cell; have e2 := k2.cell; clear k0 k1 k2; (go_simp <;> with_reducible rfl))); simp only [Act.put, List.setIfInBounds_toArray, List.set_cons_zero, List.set_cons_succ])
      refine run_end ?_
      have kp := OB.at q6 (i := 4) rfl
      have ep := kp.cell
      have gp := kp.froz
      have q7 := OB.put7 (by first | exact StA_good emp_good | exact emp_good) q6 (i := 4) rfl (.int .i64 t.b) (.int .i64 t.e) (.int .i64 t.n) (.slice h2.u t.us.length h2.uc) (.slice h2.s t.ss.length h2.sc) (.slice h2.p t.ad.length h2.pc) (.slice h2.i t.sp.length h2.ic)
      refine held_void 9 apr9 _ (by kernel_rfl) rfl (by rfl) (by go_simp <;> with_reducible rfl) ⟨OB.at q7 (i := 0) rfl, OB.at q7 (i := 1) rfl, OB.at q7 (i := 2) rfl⟩ ?_
      simp only [Act.put, List.setIfInBounds_toArray, List.set_cons_zero, List.set_cons_succ]
      refine run_go [(10, apr10, (some 9))] (by kernel_rfl) ?_
      iterate 1 (refine run_take ?_ rfl rfl (fun _ _ _ h => h) (Or.inl ⟨by rfl, ?_⟩) ⟨OB.at q7 (i := 0) rfl, OB.at q7 (i := 1) rfl, OB.at q7 (i := 2) rfl⟩ ?_; rotate_left; (· (intro w0' hy0; obtain ⟨k0, k1, k2⟩ := hy0; have e0 := k0.cell; have e1 := k1.cell; have e2 := k2.cell; clear k0 k1 k2; (go_simp <;> with_reducible rfl))); simp only [Act.put, List.setIfInBounds_toArray, List.set_cons_zero, List.set_cons_succ])
      refine run_end ?_
      refine wpAnyH_done (by kernel_rfl) ?_ _
      have kr := OB.at q7 (i := 3) rfl
      have er := kr.cell
      have gr := kr.froz
      have lr := kr.lt
      have kq := OB.at q7 (i := 4) rfl
      have eq := kq.cell
      have HF := Lib.hid q7
      clear kr kq
      go_wp2
      refine bodyPost_ret (v := .tuple #[.agg (stC h2 t), .int .i64 0]) (by simp [*, results, Tryz.results14, go_sem]) rfl ⟨h2, rfl, ?_⟩
      exact OB.wr7 (StA_good emp_good) HF.out (i := 3) rfl _ _ _ _ _ _ _
  · have q4 := OB.hold (by first | exact StA_good emp_good | exact emp_good) q3 stZ TSt rfl
    refine jop_one 8 apr8 (some 8) (.pointer (some ⟨V.heap.size, 0, none⟩)) (V.alloc (.cells stZ TSt)) rfl rfl (by rfl) (by go_simp <;> with_reducible rfl) (⟨OB.at q4 (i := 0) rfl, OB.at q4 (i := 1) rfl, OB.at q4 (i := 2) rfl⟩) ?_
    simp only [Act.put, List.setIfInBounds_toArray, List.set_cons_zero, List.set_cons_succ]
    generalize V.alloc (.cells stZ TSt) = V4 at *
    generalize V.heap.size = p at *
    refine held_callv 2 apr2 (some 30) (fun v Z => ∃ h1 : Sv, v = .agg (stC h1 s) ∧ At w (OB [(w.heap.size, cfC c, TCf), (w.heap.size + 1, stC h s, TSt), (w.heap.size + 1 + 1, evA e, TEvt), (w.heap.size + 1 + 1 + 1, stZ, TSt), (p, stZ, TSt)] (StA h1 s emp)) Z) 33 #[.agg (stC h s)] (by kernel_rfl) rfl rfl (by rfl) (by go_simp <;> with_reducible rfl) (ocopy emp_good q4 (HI.out.on q4.bel)) (fun v Z ⟨h1, _, z⟩ => ⟨OB.at z (i := 0) rfl, OB.at z (i := 1) rfl, OB.at z (i := 2) rfl⟩) ?_
    rintro v V5 ⟨h1, rfl, q5⟩
    simp only [Act.put, List.setIfInBounds_toArray, List.set_cons_zero, List.set_cons_succ]
    have hS5 : _ ∧ _ ∧ _ := ⟨OB.at q5 (i := 0) rfl, OB.at q5 (i := 1) rfl, OB.at q5 (i := 2) rfl⟩
    refine held_callv 4 apr4 (some 32) (fun v Z => ∃ h2 : Sv, v = .tuple #[.agg (stC h2 t), .bool true] ∧ At w (OB [(w.heap.size, cfC c, TCf), (w.heap.size + 1, stC h s, TSt), (w.heap.size + 1 + 1, evA e, TEvt), (w.heap.size + 1 + 1 + 1, stZ, TSt), (p, stZ, TSt)] (StA h2 t emp)) Z) 32 #[.agg (cfC c), .agg (stC h1 s), .agg (evA e)] (by kernel_rfl) rfl rfl (by rfl) (by go_simp <;> with_reducible rfl) (oapply_y emp_good q5 HI.out HA.out.1 HA.out.2.1 HA.out.2.2 HE.out) (fun v Z ⟨h2, _, z⟩ => ⟨OB.at z (i := 0) rfl, OB.at z (i := 1) rfl, OB.at z (i := 2) rfl⟩) ?_
    rintro v V6 ⟨h2, rfl, q6⟩
    simp only [Act.put, List.setIfInBounds_toArray, List.set_cons_zero, List.set_cons_succ]
    have hS6 : _ ∧ _ ∧ _ := ⟨OB.at q6 (i := 0) rfl, OB.at q6 (i := 1) rfl, OB.at q6 (i := 2) rfl⟩
    refine run_go [(5, apr5, (some 27)), (6, apr6, (some 33)), (7, apr7, (some 34))] (by kernel_rfl) ?_
    iterate 3 (refine run_take ?_ rfl rfl (fun _ _ _ h => h) (Or.inl ⟨by rfl, ?_⟩) hS6 ?_; rotate_left; (· (intro w0' hy0; obtain ⟨k0, k1, k2⟩ := hy0; have e0 := k0.cell; have e1 := k1.cell; have e2 := k2.cell; clear k0 k1 k2; (go_simp <;> with_reducible rfl))); simp only [Act.put, List.setIfInBounds_toArray, List.set_cons_zero, List.set_cons_succ])
    refine run_end ?_
    have kp := OB.at q6 (i := 4) rfl
    have ep := kp.cell
    have gp := kp.froz
    have q7 := OB.put7 (by first | exact StA_good emp_good | exact emp_good) q6 (i := 4) rfl (.int .i64 t.b) (.int .i64 t.e) (.int .i64 t.n) (.slice h2.u t.us.length h2.uc) (.slice h2.s t.ss.length h2.sc) (.slice h2.p t.ad.length h2.pc) (.slice h2.i t.sp.length h2.ic)
    refine held_void 9 apr9 _ (by kernel_rfl) rfl (by rfl) (by go_simp <;> with_reducible rfl) ⟨OB.at q7 (i := 0) rfl, OB.at q7 (i := 1) rfl, OB.at q7 (i := 2) rfl⟩ ?_
    simp only [Act.put, List.setIfInBounds_toArray, List.set_cons_zero, List.set_cons_succ]
    refine run_go [(10, apr10, (some 9))] (by kernel_rfl) ?_
    iterate 1 (refine run_take ?_ rfl rfl (fun _ _ _ h => h) (Or.inl ⟨by rfl, ?_⟩) ⟨OB.at q7 (i := 0) rfl, OB.at q7 (i := 1) rfl, OB.at q7 (i := 2) rfl⟩ ?_; rotate_left; (· (intro w0' hy0; obtain ⟨k0, k1, k2⟩ := hy0; have e0 := k0.cell; have e1 := k1.cell; have e2 := k2.cell; clear k0 k1 k2; (go_simp <;> with_reducible rfl))); simp only [Act.put, List.setIfInBounds_toArray, List.set_cons_zero, List.set_cons_succ])
    refine run_end ?_
    refine wpAnyH_done (by kernel_rfl) ?_ _
    have kr := OB.at q7 (i := 3) rfl
    have er := kr.cell
    have gr := kr.froz
    have lr := kr.lt
    have kq := OB.at q7 (i := 4) rfl
    have eq := kq.cell
    have HF := Lib.hid q7
    clear kr kq
    go_wp2
    refine bodyPost_ret (v := .tuple #[.agg (stC h2 t), .int .i64 0]) (by simp [*, results, Tryz.results14, go_sem]) rfl ⟨h2, rfl, ?_⟩
    exact OB.wr7 (StA_good emp_good) HF.out (i := 3) rfl _ _ _ _ _ _ _
set_option maxRecDepth 100000 in
set_option maxHeartbeats 16000000 in
theorem rapply_n {w : World} {h : Sv} {c : Cf} {s : St} {e : Ev} (hi : StIn w h s) (hn : s.nums) (c1 : c.may = true) (c2 : e.may = true) (c3 : (s.ad.length : Int) = c.adr) (hE : stEv c s e = none) :
    Calls Tryz.prog 14 #[.agg (cfC c), .agg (stC h s), .agg (evA e)] w fun r w' => r = .returned (.tuple #[.agg (stC .none .none), .int .i64 2001]) ∧ Below w.heap.size w w' := by
  have HQ := Lib.hid (ob4 emp_good (At.none (Below.refl w.heap.size w)) (cfC c) (stC h s) (evA e) stZ TCf TSt TEvt TSt)
  have HC := Lib.hid (fun W => (c1 ▸ rcfmay c W : Calls Tryz.prog 30 #[.agg (cfC c)] W fun e w' => e = .returned (.bool true) ∧ Below W.heap.size W w'))
  have HM := Lib.hid (fun W => (c2 ▸ remay e W : Calls Tryz.prog 31 #[.agg (evA e)] W fun e w' => e = .returned (.bool true) ∧ Below W.heap.size W w'))
  have HI := Lib.hid hi
  have HA := Lib.hid (And.intro hn (And.intro c1 c2))
  have HE := Lib.hid hE
  have c4 : ((s.ad.length : Int) != c.adr) = false := by simp [c3]
  clear c1 c2 hi hn hE
  go_enter Tryz.func14, Tryz.ntmps14
  go_wp2_with (first
    | (go_at_call 30; (with_reducible refine (HC.out _).mono ?_); rintro r w1 ⟨rfl, hb1⟩; have q1 := OB.lay emp_good HQ.out hb1; clear hb1; have ka0 := OB.at q1 (i := 0) rfl; have ea0 := ka0.cell; have ka1 := OB.at q1 (i := 1) rfl; have ea1 := ka1.cell; have ka2 := OB.at q1 (i := 2) rfl; have ea2 := ka2.cell)
    | (go_at_call 31; (with_reducible refine (HM.out _).mono ?_); rintro r w2 ⟨rfl, hb2⟩; have q2 := OB.lay emp_good q1 hb2; clear hb2; have kb0 := OB.at q2 (i := 0) rfl; have eb0 := kb0.cell; have kb1 := OB.at q2 (i := 1) rfl; have eb1 := kb1.cell))
  clear ka0 ka1 ka2 ea0 ea1 ea2 kb0 eb0 kb1 eb1 q1 c3 c4
  refine region_held (S := fun Z => Blk Z w.heap.size (cfC c) ∧ Blk Z (w.heap.size + 1) (stC h s) ∧ Blk Z (w.heap.size + 1 + 1) (evA e)) 11 [false, false, false, false, false, false, false, false, false, false, false] rfl rfl (by kernel_rfl) fun V hW => ?_
  have q3 := OB.lay emp_good q2 (us_drew w2)
  rw [← hW] at q3
  have hS3 : _ ∧ _ ∧ _ := ⟨OB.at q3 (i := 0) rfl, OB.at q3 (i := 1) rfl, OB.at q3 (i := 2) rfl⟩
  clear hW q2
  refine run_go [(0, apr0, (some 28)), (1, apr1, (some 29)), (3, apr3, (some 31))] (by kernel_rfl) ?_
  iterate 3 (refine run_take ?_ rfl rfl (fun _ _ _ h => h) (Or.inl ⟨by rfl, ?_⟩) hS3 ?_; rotate_left; (· (intro w0' hy0; obtain ⟨k0, k1, k2⟩ := hy0; have e0 := k0.cell; have e1 := k1.cell; have e2 := k2.cell; clear k0 k1 k2; (go_simp <;> with_reducible rfl))); simp only [Act.put, List.setIfInBounds_toArray, List.set_cons_zero, List.set_cons_succ])
  refine run_end ?_
  refine jtwo 2 8 (by kernel_rfl) ?_ ?_
  · refine jop_callv 2 apr2 (some 30) (fun v Z => ∃ h1 : Sv, v = .agg (stC h1 s) ∧ At w (OB [(w.heap.size, cfC c, TCf), (w.heap.size + 1, stC h s, TSt), (w.heap.size + 1 + 1, evA e, TEvt), (w.heap.size + 1 + 1 + 1, stZ, TSt)] (StA h1 s emp)) Z) 33 #[.agg (stC h s)] rfl rfl (by rfl) (by go_simp <;> with_reducible rfl) (ocopy emp_good q3 (HI.out.on q3.bel)) (fun v Z ⟨h1, _, z⟩ => ⟨OB.at z (i := 0) rfl, OB.at z (i := 1) rfl, OB.at z (i := 2) rfl⟩) ?_
    rintro v V4 ⟨h1, rfl, q4⟩
    simp only [Act.put, List.setIfInBounds_toArray, List.set_cons_zero, List.set_cons_succ]
    have hS4 : _ ∧ _ ∧ _ := ⟨OB.at q4 (i := 0) rfl, OB.at q4 (i := 1) rfl, OB.at q4 (i := 2) rfl⟩
    refine jtwo 4 8 (by kernel_rfl) ?_ ?_
    · refine jop_callv 4 apr4 (some 32) (fun v Z => ∃ (h2 : Sv) (t : St), v = .tuple #[.agg (stC h2 t), .bool false] ∧ At w (OB [(w.heap.size, cfC c, TCf), (w.heap.size + 1, stC h s, TSt), (w.heap.size + 1 + 1, evA e, TEvt), (w.heap.size + 1 + 1 + 1, stZ, TSt)] emp) Z) 32 #[.agg (cfC c), .agg (stC h1 s), .agg (evA e)] rfl rfl (by rfl) (by go_simp <;> with_reducible rfl) (oapply_n emp_good q4 HI.out HA.out.1 HA.out.2.1 HA.out.2.2 HE.out) (fun v Z ⟨h2, t, _, z⟩ => ⟨OB.at z (i := 0) rfl, OB.at z (i := 1) rfl, OB.at z (i := 2) rfl⟩) ?_
      rintro v V5 ⟨h2, t, rfl, q5⟩
      simp only [Act.put, List.setIfInBounds_toArray, List.set_cons_zero, List.set_cons_succ]
      have hS5 : _ ∧ _ ∧ _ := ⟨OB.at q5 (i := 0) rfl, OB.at q5 (i := 1) rfl, OB.at q5 (i := 2) rfl⟩
      refine run_go [(5, apr5, (some 27)), (6, apr6, (some 33)), (7, apr7, (some 34))] (by kernel_rfl) ?_
      iterate 3 (refine run_take ?_ rfl rfl (fun _ _ _ h => h) (Or.inl ⟨by rfl, ?_⟩) hS5 ?_; rotate_left; (· (intro w0' hy0; obtain ⟨k0, k1, k2⟩ := hy0; have e0 := k0.cell; have e1 := k1.cell; have e2 := k2.cell; clear k0 k1 k2; (go_simp <;> with_reducible rfl))); simp only [Act.put, List.setIfInBounds_toArray, List.set_cons_zero, List.set_cons_succ])
      refine run_end ?_
      have q6 := OB.hold (by first | exact StA_good emp_good | exact emp_good) q5 stZ TSt rfl
      refine held_one 8 apr8 (some 8) (.pointer (some ⟨V5.heap.size, 0, none⟩)) (V5.alloc (.cells stZ TSt)) (by kernel_rfl) rfl rfl (by rfl) (by go_simp <;> with_reducible rfl) (⟨OB.at q6 (i := 0) rfl, OB.at q6 (i := 1) rfl, OB.at q6 (i := 2) rfl⟩) ?_
      simp only [Act.put, List.setIfInBounds_toArray, List.set_cons_zero, List.set_cons_succ]
      generalize V5.alloc (.cells stZ TSt) = V6 at *
      generalize V5.heap.size = p at *
      have kp := OB.at q6 (i := 4) rfl
      have ep := kp.cell
      have gp := kp.froz
      have q7 := OB.put7 (by first | exact StA_good emp_good | exact emp_good) q6 (i := 4) rfl (.int .i64 t.b) (.int .i64 t.e) (.int .i64 t.n) (.slice h2.u t.us.length h2.uc) (.slice h2.s t.ss.length h2.sc) (.slice h2.p t.ad.length h2.pc) (.slice h2.i t.sp.length h2.ic)
      refine held_void 9 apr9 _ (by kernel_rfl) rfl (by rfl) (by go_simp <;> with_reducible rfl) ⟨OB.at q7 (i := 0) rfl, OB.at q7 (i := 1) rfl, OB.at q7 (i := 2) rfl⟩ ?_
      simp only [Act.put, List.setIfInBounds_toArray, List.set_cons_zero, List.set_cons_succ]
      refine run_go [(10, apr10, (some 9))] (by kernel_rfl) ?_
      iterate 1 (refine run_take ?_ rfl rfl (fun _ _ _ h => h) (Or.inl ⟨by rfl, ?_⟩) ⟨OB.at q7 (i := 0) rfl, OB.at q7 (i := 1) rfl, OB.at q7 (i := 2) rfl⟩ ?_; rotate_left; (· (intro w0' hy0; obtain ⟨k0, k1, k2⟩ := hy0; have e0 := k0.cell; have e1 := k1.cell; have e2 := k2.cell; clear k0 k1 k2; (go_simp <;> with_reducible rfl))); simp only [Act.put, List.setIfInBounds_toArray, List.set_cons_zero, List.set_cons_succ])
      refine run_end ?_
      refine wpAnyH_done (by kernel_rfl) ?_ _
      have kr := OB.at q7 (i := 3) rfl
      have er := kr.cell
      have gr := kr.froz
      have lr := kr.lt
      have kq := OB.at q7 (i := 4) rfl
      have eq := kq.cell
      have HF := Lib.hid q7
      clear kr kq
      go_wp2
      refine bodyPost_ret (v := .tuple #[.agg (stC .none .none), .int .i64 2001]) (by simp [*, St.none, results, Tryz.results14, go_sem]) rfl ⟨rfl, ?_⟩
      exact (OB.wr7 emp_good HF.out (i := 3) rfl _ _ _ _ _ _ _).bel
    · have q5 := OB.hold (by first | exact StA_good emp_good | exact emp_good) q4 stZ TSt rfl
      refine jop_one 8 apr8 (some 8) (.pointer (some ⟨V4.heap.size, 0, none⟩)) (V4.alloc (.cells stZ TSt)) rfl rfl (by rfl) (by go_simp <;> with_reducible rfl) (⟨OB.at q5 (i := 0) rfl, OB.at q5 (i := 1) rfl, OB.at q5 (i := 2) rfl⟩) ?_
      simp only [Act.put, List.setIfInBounds_toArray, List.set_cons_zero, List.set_cons_succ]
      generalize V4.alloc (.cells stZ TSt) = V5 at *
      generalize V4.heap.size = p at *
      refine held_callv 4 apr4 (some 32) (fun v Z => ∃ (h2 : Sv) (t : St), v = .tuple #[.agg (stC h2 t), .bool false] ∧ At w (OB [(w.heap.size, cfC c, TCf), (w.heap.size + 1, stC h s, TSt), (w.heap.size + 1 + 1, evA e, TEvt), (w.heap.size + 1 + 1 + 1, stZ, TSt), (p, stZ, TSt)] emp) Z) 32 #[.agg (cfC c), .agg (stC h1 s), .agg (evA e)] (by kernel_rfl) rfl rfl (by rfl) (by go_simp <;> with_reducible rfl) (oapply_n emp_good q5 HI.out HA.out.1 HA.out.2.1 HA.out.2.2 HE.out) (fun v Z ⟨h2, t, _, z⟩ => ⟨OB.at z (i := 0) rfl, OB.at z (i := 1) rfl, OB.at z (i := 2) rfl⟩) ?_
      rintro v V6 ⟨h2, t, rfl, q6⟩
      simp only [Act.put, List.setIfInBounds_toArray, List.set_cons_zero, List.set_cons_succ]
      have hS6 : _ ∧ _ ∧ _ := ⟨OB.at q6 (i := 0) rfl, OB.at q6 (i := 1) rfl, OB.at q6 (i := 2) rfl⟩
      refine run_go [(5, apr5, (some 27)), (6, apr6, (some 33)), (7, apr7, (some 34))] (by kernel_rfl) ?_
      iterate 3 (refine run_take ?_ rfl rfl (fun _ _ _ h => h) (Or.inl ⟨by rfl, ?_⟩) hS6 ?_; rotate_left; (· (intro w0' hy0; obtain ⟨k0, k1, k2⟩ := hy0; have e0 := k0.cell; have e1 := k1.cell; have e2 := k2.cell; clear k0 k1 k2; (go_simp <;> with_reducible rfl))); simp only [Act.put, List.setIfInBounds_toArray, List.set_cons_zero, List.set_cons_succ])
      refine run_end ?_
      have kp := OB.at q6 (i := 4) rfl
      have ep := kp.cell
      have gp := kp.froz
      have q7 := OB.put7 (by first | exact StA_good emp_good | exact emp_good) q6 (i := 4) rfl (.int .i64 t.b) (.int .i64 t.e) (.int .i64 t.n) (.slice h2.u t.us.length h2.uc) (.slice h2.s t.ss.length h2.sc) (.slice h2.p t.ad.length h2.pc) (.slice h2.i t.sp.length h2.ic)
      refine held_void 9 apr9 _ (by kernel_rfl) rfl (by rfl) (by go_simp <;> with_reducible rfl) ⟨OB.at q7 (i := 0) rfl, OB.at q7 (i := 1) rfl, OB.at q7 (i := 2) rfl⟩ ?_
      simp only [Act.put, List.setIfInBounds_toArray, List.set_cons_zero, List.set_cons_succ]
      refine run_go [(10, apr10, (some 9))] (by kernel_rfl) ?_
      iterate 1 (refine run_take ?_ rfl rfl (fun _ _ _ h => h) (Or.inl ⟨by rfl, ?_⟩) ⟨OB.at q7 (i := 0) rfl, OB.at q7 (i := 1) rfl, OB.at q7 (i := 2) rfl⟩ ?_; rotate_left; (· (intro w0' hy0; obtain ⟨k0, k1, k2⟩ := hy0; have e0 := k0.cell; have e1 := k1.cell; have e2 := k2.cell; clear k0 k1 k2; (go_simp <;> with_reducible rfl))); simp only [Act.put, List.setIfInBounds_toArray, List.set_cons_zero, List.set_cons_succ])
      refine run_end ?_
      refine wpAnyH_done (by kernel_rfl) ?_ _
      have kr := OB.at q7 (i := 3) rfl
      have er := kr.cell
      have gr := kr.froz
      have lr := kr.lt
      have kq := OB.at q7 (i := 4) rfl
      have eq := kq.cell
      have HF := Lib.hid q7
      clear kr kq
      go_wp2
      refine bodyPost_ret (v := .tuple #[.agg (stC .none .none), .int .i64 2001]) (by simp [*, St.none, results, Tryz.results14, go_sem]) rfl ⟨rfl, ?_⟩
      exact (OB.wr7 emp_good HF.out (i := 3) rfl _ _ _ _ _ _ _).bel
  · have q4 := OB.hold (by first | exact StA_good emp_good | exact emp_good) q3 stZ TSt rfl
    refine jop_one 8 apr8 (some 8) (.pointer (some ⟨V.heap.size, 0, none⟩)) (V.alloc (.cells stZ TSt)) rfl rfl (by rfl) (by go_simp <;> with_reducible rfl) (⟨OB.at q4 (i := 0) rfl, OB.at q4 (i := 1) rfl, OB.at q4 (i := 2) rfl⟩) ?_
    simp only [Act.put, List.setIfInBounds_toArray, List.set_cons_zero, List.set_cons_succ]
    generalize V.alloc (.cells stZ TSt) = V4 at *
    generalize V.heap.size = p at *
    refine held_callv 2 apr2 (some 30) (fun v Z => ∃ h1 : Sv, v = .agg (stC h1 s) ∧ At w (OB [(w.heap.size, cfC c, TCf), (w.heap.size + 1, stC h s, TSt), (w.heap.size + 1 + 1, evA e, TEvt), (w.heap.size + 1 + 1 + 1, stZ, TSt), (p, stZ, TSt)] (StA h1 s emp)) Z) 33 #[.agg (stC h s)] (by kernel_rfl) rfl rfl (by rfl) (by go_simp <;> with_reducible rfl) (ocopy emp_good q4 (HI.out.on q4.bel)) (fun v Z ⟨h1, _, z⟩ => ⟨OB.at z (i := 0) rfl, OB.at z (i := 1) rfl, OB.at z (i := 2) rfl⟩) ?_
    rintro v V5 ⟨h1, rfl, q5⟩
    simp only [Act.put, List.setIfInBounds_toArray, List.set_cons_zero, List.set_cons_succ]
    have hS5 : _ ∧ _ ∧ _ := ⟨OB.at q5 (i := 0) rfl, OB.at q5 (i := 1) rfl, OB.at q5 (i := 2) rfl⟩
    refine held_callv 4 apr4 (some 32) (fun v Z => ∃ (h2 : Sv) (t : St), v = .tuple #[.agg (stC h2 t), .bool false] ∧ At w (OB [(w.heap.size, cfC c, TCf), (w.heap.size + 1, stC h s, TSt), (w.heap.size + 1 + 1, evA e, TEvt), (w.heap.size + 1 + 1 + 1, stZ, TSt), (p, stZ, TSt)] emp) Z) 32 #[.agg (cfC c), .agg (stC h1 s), .agg (evA e)] (by kernel_rfl) rfl rfl (by rfl) (by go_simp <;> with_reducible rfl) (oapply_n emp_good q5 HI.out HA.out.1 HA.out.2.1 HA.out.2.2 HE.out) (fun v Z ⟨h2, t, _, z⟩ => ⟨OB.at z (i := 0) rfl, OB.at z (i := 1) rfl, OB.at z (i := 2) rfl⟩) ?_
    rintro v V6 ⟨h2, t, rfl, q6⟩
    simp only [Act.put, List.setIfInBounds_toArray, List.set_cons_zero, List.set_cons_succ]
    have hS6 : _ ∧ _ ∧ _ := ⟨OB.at q6 (i := 0) rfl, OB.at q6 (i := 1) rfl, OB.at q6 (i := 2) rfl⟩
    refine run_go [(5, apr5, (some 27)), (6, apr6, (some 33)), (7, apr7, (some 34))] (by kernel_rfl) ?_
    iterate 3 (refine run_take ?_ rfl rfl (fun _ _ _ h => h) (Or.inl ⟨by rfl, ?_⟩) hS6 ?_; rotate_left; (· (intro w0' hy0; obtain ⟨k0, k1, k2⟩ := hy0; have e0 := k0.cell; have e1 := k1.cell; have e2 := k2.cell; clear k0 k1 k2; (go_simp <;> with_reducible rfl))); simp only [Act.put, List.setIfInBounds_toArray, List.set_cons_zero, List.set_cons_succ])
    refine run_end ?_
    have kp := OB.at q6 (i := 4) rfl
    have ep := kp.cell
    have gp := kp.froz
    have q7 := OB.put7 (by first | exact StA_good emp_good | exact emp_good) q6 (i := 4) rfl (.int .i64 t.b) (.int .i64 t.e) (.int .i64 t.n) (.slice h2.u t.us.length h2.uc) (.slice h2.s t.ss.length h2.sc) (.slice h2.p t.ad.length h2.pc) (.slice h2.i t.sp.length h2.ic)
    refine held_void 9 apr9 _ (by kernel_rfl) rfl (by rfl) (by go_simp <;> with_reducible rfl) ⟨OB.at q7 (i := 0) rfl, OB.at q7 (i := 1) rfl, OB.at q7 (i := 2) rfl⟩ ?_
    simp only [Act.put, List.setIfInBounds_toArray, List.set_cons_zero, List.set_cons_succ]
    refine run_go [(10, apr10, (some 9))] (by kernel_rfl) ?_
    iterate 1 (refine run_take ?_ rfl rfl (fun _ _ _ h => h) (Or.inl ⟨by rfl, ?_⟩) ⟨OB.at q7 (i := 0) rfl, OB.at q7 (i := 1) rfl, OB.at q7 (i := 2) rfl⟩ ?_; rotate_left; (· (intro w0' hy0; obtain ⟨k0, k1, k2⟩ := hy0; have e0 := k0.cell; have e1 := k1.cell; have e2 := k2.cell; clear k0 k1 k2; (go_simp <;> with_reducible rfl))); simp only [Act.put, List.setIfInBounds_toArray, List.set_cons_zero, List.set_cons_succ])
    refine run_end ?_
    refine wpAnyH_done (by kernel_rfl) ?_ _
    have kr := OB.at q7 (i := 3) rfl
    have er := kr.cell
    have gr := kr.froz
    have lr := kr.lt
    have kq := OB.at q7 (i := 4) rfl
    have eq := kq.cell
    have HF := Lib.hid q7
    clear kr kq
    go_wp2
    refine bodyPost_ret (v := .tuple #[.agg (stC .none .none), .int .i64 2001]) (by simp [*, St.none, results, Tryz.results14, go_sem]) rfl ⟨rfl, ?_⟩
    exact (OB.wr7 emp_good HF.out (i := 3) rfl _ _ _ _ _ _ _).bel
/-- Apply. -/
theorem rapply {w : World} {h : Sv} {c : Cf} {s : St} {e : Ev} (hi : StIn w h s) (hn : s.nums) :
    Calls Tryz.prog 14 #[.agg (cfC c), .agg (stC h s), .agg (evA e)] w fun r w' => ∃ h' : Sv, r = .returned (.tuple #[.agg (stC h' (stAS c s e)), .int .i64 (stAE c s e)]) ∧ StNew w h' (stAS c s e) w' := by
  unfold stAS stAE
  cases hk : stOk c s e with
  | false =>
    simp only [Bool.false_eq_true, if_false]
    exact (rapply_no hk).mono fun _ _ ⟨a, b⟩ => ⟨.none, a, StNew.no b⟩
  | true =>
    simp only [if_true]
    have hk' := hk
    unfold stOk at hk'
    simp only [Bool.and_eq_true, decide_eq_true_eq] at hk'
    obtain ⟨⟨c1, c2⟩, c3⟩ := hk'
    cases hE : stEv c s e with
    | none => exact (rapply_n hi hn c1 c2 c3 hE).mono fun _ _ ⟨a, b⟩ => ⟨.none, a, StNew.no b⟩
    | some t => exact rapply_y hi hn c1 c2 c3 hE
end Go.Proofs.YtopkcaflmpjhgaaGreat

