
/- Put together: Str14, Str15, Sts. Conditions: each theorem's own. -/
import Derived.Test.YtopkcaflmpjhgaaBsu
import Derived.Test.YtopkcaflmpjhgaaBsn
namespace Go.Proofs.Ytopkcaflmpjhgaa
open Go Go.RowKit

abbrev alr0 : Oper := { dst := some 28, op := Op.load 23 (Operand.tmp 2), type := 23, pos := "ref.go:231", after := #[], guard := none }
abbrev alr1 : Oper := { dst := some 29, op := Op.load 32 (Operand.tmp 6), type := 32, pos := "ref.go:231", after := #[], guard := none }
abbrev alr2 : Oper := { dst := some 30, op := Op.move (Operand.tmp 1), type := 24, pos := "ref.go:231", after := #[], guard := none }
abbrev alr3 : Oper := { dst := some 31, op := Op.move (Operand.tmp 8), type := 3, pos := "ref.go:231", after := #[], guard := none }
abbrev alr4 : Oper := { dst := some 32, op := Op.indexAddr 24 (Operand.tmp 30) (Operand.tmp 31), type := 0, pos := "ref.go:231", after := #[{ on := 2, ground := Ground.data }, { on := 3, ground := Ground.data }], guard := none }
abbrev alr5 : Oper := { dst := some 33, op := Op.load 40 (Operand.tmp 32), type := 40, pos := "ref.go:231", after := #[{ on := 4, ground := Ground.data }], guard := none }
abbrev alr8 : Oper := { dst := some 35, op := Op.extract (Operand.tmp 27) 0, type := 32, pos := "ref.go:231", after := #[{ on := 7, ground := Ground.data }], guard := none }
abbrev alr9 : Oper := { dst := some 36, op := Op.extract (Operand.tmp 27) 1, type := 3, pos := "ref.go:231", after := #[{ on := 7, ground := Ground.data }, { on := 11, ground := Ground.gcOnly Departure.lateStores }], guard := none }
abbrev alr10 : Oper := { dst := some 9, op := Op.alloc 32, type := 0, pos := "ref.go:231", after := #[], guard := none }
abbrev alr11 : Oper := { dst := none, op := Op.store 32 (Operand.tmp 9) (Operand.tmp 35), type := 0, pos := "ref.go:231", after := #[{ on := 10, ground := Ground.data }, { on := 8, ground := Ground.data }, { on := 6, ground := Ground.chain }, { on := 0, ground := Ground.phase }, { on := 1, ground := Ground.phase }, { on := 2, ground := Ground.phase }, { on := 3, ground := Ground.phase }, { on := 4, ground := Ground.phase }, { on := 5, ground := Ground.phase }, { on := 6, ground := Ground.phase }, { on := 7, ground := Ground.phase }, { on := 8, ground := Ground.phase }, { on := 9, ground := Ground.textOnly Departure.lateStores }, { on := 10, ground := Ground.phase }], guard := none }
abbrev alr12 : Oper := { dst := some 10, op := Op.assign (Operand.tmp 36), type := 3, pos := "ref.go:231", after := #[{ on := 9, ground := Ground.data }, { on := 11, ground := Ground.chain }, { on := 0, ground := Ground.phase }, { on := 1, ground := Ground.phase }, { on := 2, ground := Ground.phase }, { on := 3, ground := Ground.phase }, { on := 4, ground := Ground.phase }, { on := 5, ground := Ground.phase }, { on := 6, ground := Ground.phase }, { on := 7, ground := Ground.phase }, { on := 8, ground := Ground.phase }, { on := 9, ground := Ground.phase }, { on := 10, ground := Ground.phase }, { on := 11, ground := Ground.phase }], guard := none }

theorem st_ofPa {w0 w : World} {n : Int} {a : Option Addr} {cc : Nat} (q : At w0 ((rowE TPa 3 (.slice a (pnL n).length cc) (pnL n).length (paCells (pnL n))).star emp) w) : At w0 (StA ⟨none, 0, none, 0, a, cc, none, 0⟩ (snS n) emp) w :=
  At.erow0 TUs 9 (At.erow0 TSe 4 ((At.erow0 TIn 1 q).imp (Ass.imp.swap _ _ _)))
/-- All's memory is above what came in. -/
def AlR (w Z : World) : Prop := Below w.heap.size w Z
theorem AlR.of {w W : World} {l : List Ob} {R : Ass} (q : At w (OB l R) W) : AlR w W := q.bel
theorem EvIn.elem8 {w : World} {ao : Option Addr} {n : Nat} {es : List Ev} (h : EvIn [] w ao n es) {k : Nat} (hk : k < n) : ∃ b off a, ao = some ⟨b, off, none⟩ ∧ es.getD k Ev.zero = a ∧ ∀ W, AlR w W → W.cell? ⟨b, off + k * 8, none⟩ = some (.int .i64 a.kind) ∧ W.cell? ⟨b, off + k * 8 + 1, none⟩ = some (.int .i64 a.user) ∧ W.cell? ⟨b, off + k * 8 + 2, none⟩ = some (.int .i64 a.session) ∧ W.cell? ⟨b, off + k * 8 + 3, none⟩ = some (.int .i64 a.address) ∧ W.cell? ⟨b, off + k * 8 + 4, none⟩ = some (.int .i64 a.a) ∧ W.cell? ⟨b, off + k * 8 + 5, none⟩ = some (.int .i64 a.b) ∧ W.cell? ⟨b, off + k * 8 + 6, none⟩ = some (.int .i64 a.c) ∧ W.cell? ⟨b, off + k * 8 + 7, none⟩ = some (.int .i64 a.tick) := by
  obtain ⟨hlen, hrow, _⟩ := h
  rcases hrow with c | ⟨b, off, rfl, hat, _, hlb⟩
  · omega
  · exact ⟨b, off, _, rfl, rfl, fun W hW => (hat.same (hW.block b hlb)).elem (by rw [← hlen]; exact hk)⟩
theorem sm_in {w0 W : World} {h : Sv} {s : St} {C : Ass} {k : Nat} (q : At w0 (StA h s C) W) (hm : s.sm k) : StIn W h s := At.stIn q (by have := hm.u; omega) hm.s hm.a (by have := hm.i; omega)
theorem st_shed (h1 h2 : Sv) (s t : St) (C : Ass) {w0 W : World} {l : List Ob} (q : At w0 (OB l (StA h2 t (StA h1 s C))) W) : At w0 (OB l (StA h2 t C)) W :=
  OB.stDrop1 (OB.stDrop1 (OB.stDrop1 (OB.stDrop1 q)))
theorem stRun_step {c : Cf} {es : List Ev} {k : Nat} (hk : k < es.length) {e : Ev} (he : es.getD k Ev.zero = e) (s : St) : stRun c (es.drop k) s = if stAE c s e = 0 then stRun c (es.drop (k + 1)) (stAS c s e) else (stAE c s e, .none) := by
  have x : es.drop k = e :: es.drop (k + 1) := by
    rw [List.drop_eq_getElem_cons hk, ← he]; simp [List.getD, hk]
  rw [x, stRun]
theorem alr_next {w W : World} {c : Cf} {h1 h2 : Sv} {s t : St} {b2 p : Nat} (q : At w (OB [(w.heap.size, cfC c, TCf), (w.heap.size + 1, stZ, TSt), (b2, stC h1 s, TSt), (p, stC h2 t, TSt)] (StA h2 t (StA h1 s emp))) W) :
    At w (OB [(w.heap.size, cfC c, TCf), (w.heap.size + 1, stZ, TSt), (b2, stC h2 t, TSt)] (StA h2 t emp)) (((((((W.setCell ⟨b2, 0, none⟩ (.int .i64 t.b)).setCell ⟨b2, 1, none⟩ (.int .i64 t.e)).setCell ⟨b2, 2, none⟩ (.int .i64 t.n)).setCell ⟨b2, 3, none⟩ (.slice h2.u t.us.length h2.uc)).setCell ⟨b2, 4, none⟩ (.slice h2.s t.ss.length h2.sc)).setCell ⟨b2, 5, none⟩ (.slice h2.p t.ad.length h2.pc)).setCell ⟨b2, 6, none⟩ (.slice h2.i t.sp.length h2.ic)) := by
  have h1 := OB.put7 (StA_good (StA_good emp_good)) q (i := 2) rfl (.int .i64 t.b) (.int .i64 t.e) (.int .i64 t.n) (.slice h2.u t.us.length h2.uc) (.slice h2.s t.ss.length h2.sc) (.slice h2.p t.ad.length h2.pc) (.slice h2.i t.sp.length h2.ic)
  exact st_shed _ _ _ _ _ ((h1.imp (OB.pick _ (i := 3) rfl)).drop)
theorem saE_bad {c : Cf} {es : List Ev} (h : pnOk c.adr = false) : saE c es = 2000 ∧ saS c es = .none := by unfold saE saS; rw [h]; exact ⟨rfl, rfl⟩
theorem saE_ok {c : Cf} {es : List Ev} (h : pnOk c.adr = true) : saE c es = (stRun c es (snS c.adr)).1 ∧ saS c es = (stRun c es (snS c.adr)).2 := by unfold saE saS; rw [h]; exact ⟨rfl, rfl⟩
end Go.Proofs.Ytopkcaflmpjhgaa

namespace Go.Proofs.Ytopkcaflmpjhgaa
open Go Go.RowKit

end Go.Proofs.Ytopkcaflmpjhgaa

namespace Go.Proofs.Ytopkcaflmpjhgaa
open Go Go.RowKit

theorem star_assoc' (A B C : Ass) : (A.star (B.star C)).imp ((A.star B).star C) := by
  rintro w F ⟨F1, _, rfl, h1, ⟨F2, F3, rfl, h2, h4, h5⟩, h3⟩
  refine ⟨(F1 ++ F2) ++ F3, ⟨F1 ++ F2, F3, rfl, ⟨F1, F2, rfl, h1, h2, fun k hk hc => h3 k hk (by simp [hc])⟩, h4, fun k hk hc => ?_⟩, fun k => by simp⟩
  rcases List.mem_append.1 hk with c | c
  · exact h3 k c (by simp [hc])
  · exact h5 k c hc
theorem emp_left' (C : Ass) : C.imp (emp.star C) := fun _ F h => ⟨F, ⟨[], F, rfl, rfl, h, fun _ hk => by cases hk⟩, fun _ => Iff.rfl⟩
theorem st_back (h : Sv) (s : St) (C : Ass) : (StA h s C).imp ((StA h s emp).star C) :=
  ((((((((emp_left' C).under _).trans (star_assoc' _ _ _)).under _).trans (star_assoc' _ _ _)).under _).trans (star_assoc' _ _ _)).under _).trans (star_assoc' _ _ _)
theorem StA.under {h : Sv} {s : St} {C C' : Ass} (q : C.imp C') : (StA h s C).imp (StA h s C') := (((q.under _).under _).under _).under _
theorem StA.swap (h h' : Sv) (s s' : St) (C : Ass) : (StA h s (StA h' s' C)).imp (StA h' s' (StA h s C)) :=
  (st_back h s _).trans (((st_back h' s' C).under _).trans ((Ass.imp.swap _ _ _).trans (((st_front h s C).under _).trans (st_front h' s' _))))
/-- The states, then the rest. -/
def STS : List (Sv × St) → Ass → Ass
  | [], R => R
  | x :: z, R => StA x.1 x.2 (STS z R)
theorem STS.good {z : List (Sv × St)} {R : Ass} (hR : R.Good) : (STS z R).Good := by
  induction z with
  | nil => exact hR
  | cons x z ih => exact StA_good ih
theorem STS.under {z : List (Sv × St)} {R R' : Ass} (h : R.imp R') : (STS z R).imp (STS z R') := by
  induction z with
  | nil => exact h
  | cons x z ih => exact StA.under ih
theorem STS.pick {z : List (Sv × St)} (R : Ass) {i : Nat} {x : Sv × St} (hi : z[i]? = some x) : (STS z R).imp (StA x.1 x.2 (STS (z.eraseIdx i) R)) := by
  induction z generalizing i with
  | nil => cases hi
  | cons y z ih =>
    cases i with
    | zero =>
      obtain rfl : y = x := by simpa using hi
      exact Ass.imp.refl _
    | succ i => exact (StA.under (ih (i := i) (by simpa using hi))).trans (StA.swap _ _ _ _ _)
/-- A row behind the states comes to the front, and back. -/
theorem STS.up (z : List (Sv × St)) (A R : Ass) : (STS z (A.star R)).imp (A.star (STS z R)) := by
  induction z with
  | nil => exact Ass.imp.refl _
  | cons x z ih => exact (StA.under ih).trans (st_out x.1 x.2 A _)
theorem STS.dn (z : List (Sv × St)) (A R : Ass) : (A.star (STS z R)).imp (STS z (A.star R)) := by
  induction z with
  | nil => exact Ass.imp.refl _
  | cons x z ih => exact (st_in x.1 x.2 A _).trans (StA.under ih)
section
variable {w0 W : World} {l : List Ob} {z : List (Sv × St)} {R : Ass} {h : Sv} {s : St} {i k : Nat}
theorem STS.at (q : At w0 (OB l (STS z R)) W) (hi : z[i]? = some (h, s)) (hm : s.sm k) : StIn W h s := sm_in ((OB.rest q).imp (STS.pick R hi)) hm
theorem STS.front (hR : R.Good) (q : At w0 (OB l (STS z R)) W) {W' : World} (n : StNew W h s W') : At w0 (OB l (STS ((h, s) :: z) R)) W' := (StNew.front (OB.good (STS.good hR)) q n).imp (OB.outof _ _ _ _)
theorem STS.out (q : At w0 (OB l (STS z R)) W) (hi : z[i]? = some (h, s)) : At w0 (StA h s (OB l (STS (z.eraseIdx i) R))) W := (q.imp (OB.under (STS.pick R hi))).imp (OB.into _ _ _ _)
theorem STS.drop (i : Nat) {x : Sv × St} (hi : z[i]? = some x) (q : At w0 (OB l (STS z R)) W) : At w0 (OB l (STS (z.eraseIdx i) R)) W := At.stDrop (STS.out (h := x.1) (s := x.2) q hi)
/-- The states are dropped, all of them. -/
theorem STS.none (q : At w0 (OB l (STS z R)) W) : At w0 (OB l R) W := by
  induction z with
  | nil => exact q
  | cons x z ih => exact ih (STS.drop 0 (x := x) rfl q)
theorem OB.lay1 {C : Ass} (hC : C.Good) (q : At w0 (OB l C) W) (o : Obj) : At w0 (OB l C) (W.alloc o) := At.lay1 (OB.good hC) q o
/-- A block that is not wanted any more. -/
theorem OB.drop {C : Ass} (i : Nat) {x : Ob} (hi : l[i]? = some x) (q : At w0 (OB l C) W) : At w0 (OB (l.eraseIdx i) C) W := (q.imp (OB.pick C hi)).drop
end
/-- What a call gave. -/
def StOut (w : World) (s : St) (n : Int) (e : Ending) (w' : World) : Prop := ∃ h' : Sv, e = .returned (.tuple #[.agg (stC h' s), .int .i64 n]) ∧ StNew w h' s w'
/-- What the laws ask of the program: each call answers as the chapter says. -/
structure StatesOk : Prop where
  new : ∀ (n : Int) (w : World), Calls Try.prog 20 #[.int .i64 n] w (StOut w (snS n) (snE n))
  apply : ∀ {w : World} {h : Sv} {c : Cf} {s : St} {e : Ev}, StIn w h s → s.sm 1 → Calls Try.prog 13 #[.agg (cfC c), .agg (stC h s), .agg (evA e)] w (StOut w (stAS c s e) (stAE c s e))
  all : ∀ {w : World} {ao : Option Addr} {n cap : Nat} {es : List Ev} (c : Cf), EvIn [] w ao n es → n ≤ 2199023255552 → Calls Try.prog 10 #[.agg (cfC c), .slice ao n cap] w (StOut w (saS c es) (saE c es))
section
variable {w0 V : World} {l : List Ob} {z : List (Sv × St)} {R : Ass} {h : Sv} {c : Cf} {s t : St} {e : Ev} {r : Int} {i : Nat}
/-- The calls, over blocks and states of one's own. -/
theorem StatesOk.onew (P : StatesOk) (hR : R.Good) {n : Int} (q : At w0 (OB l (STS z R)) V) (hT : snS n = t) (hE : snE n = r) :
    Calls Try.prog 20 #[.int .i64 n] V fun e Z => ∃ h2 : Sv, e = .returned (.tuple #[.agg (stC h2 t), .int .i64 r]) ∧ At w0 (OB l (STS ((h2, t) :: z) R)) Z := by
  subst hT hE
  exact (P.new n V).mono fun _ _ ⟨h2, e1, n⟩ => ⟨h2, e1, STS.front hR q n⟩
theorem StatesOk.oapply (P : StatesOk) (hR : R.Good) (q : At w0 (OB l (STS z R)) V) (hi : z[i]? = some (h, s)) (hm : s.sm 1) (hT : stAS c s e = t) (hE : stAE c s e = r) :
    Calls Try.prog 13 #[.agg (cfC c), .agg (stC h s), .agg (evA e)] V fun e Z => ∃ h2 : Sv, e = .returned (.tuple #[.agg (stC h2 t), .int .i64 r]) ∧ At w0 (OB l (STS ((h2, t) :: z) R)) Z := by
  subst hT hE
  exact (P.apply (STS.at q hi hm) hm).mono fun _ _ ⟨h2, e1, n⟩ => ⟨h2, e1, STS.front hR q n⟩
theorem StatesOk.oall (P : StatesOk) (hR : R.Good) {ao : Option Addr} {n cap : Nat} {es : List Ev} (q : At w0 (OB l (STS z R)) V) (hes : EvIn [] V ao n es) (hn : n ≤ 2199023255552) (hT : saS c es = t) (hE : saE c es = r) :
    Calls Try.prog 10 #[.agg (cfC c), .slice ao n cap] V fun e Z => ∃ h2 : Sv, e = .returned (.tuple #[.agg (stC h2 t), .int .i64 r]) ∧ At w0 (OB l (STS ((h2, t) :: z) R)) Z := by
  subst hT hE
  exact (P.all c hes hn).mono fun _ _ ⟨h2, e1, n⟩ => ⟨h2, e1, STS.front hR q n⟩
theorem olsame (hR : R.Good) {h' : Sv} {s' : St} {b : Bool} (q : At w0 (OB l (STS z R)) V) (h1 : StIn V h s) (h2 : StIn V h' s') (hb : decide (s = s') = b) :
    Calls Try.prog 12 #[.agg (stC h s), .agg (stC h' s')] V fun e Z => e = .returned (.bool b) ∧ At w0 (OB l (STS z R)) Z ∧ Below V.heap.size V Z := by
  subst hb
  exact (st_same h1 h2).mono fun _ _ ⟨e1, b⟩ => ⟨e1, OB.lay (STS.good hR) q b, b⟩
end
end Go.Proofs.Ytopkcaflmpjhgaa

