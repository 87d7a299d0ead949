
/- Put together: Staw, Staw2, Stb. Conditions: each theorem's own. -/
import Derived.Test.YtopkcaflmpjhgaaGreatBsv
import Derived.Test.YtopkcaflmpjhgaaGreatBin
import Derived.Deep.RegionWith
namespace Go.Proofs.YtopkcaflmpjhgaaGreat
open Go Go.RowKit

/-- Rows in the text. -/
theorem ev_lit (W : World) (fs : List Ev) (hf : fs.length ≤ 2199023255552) {p : Nat} (hp : W.heap.size = p) {cs : Array Value} (hcs : cs = (evCells fs).toArray) {n : Nat} (hn : n = fs.length) : EvIn [] (W.alloc (.cells cs TEv)) (some ⟨p, 0, none⟩) n fs := by
  subst hp hcs hn
  exact ⟨rfl, .inr ⟨W.heap.size, 0, rfl, evAt_lit W fs, by simp, (Array.getElem?_eq_some_iff.1 (heap_alloc_new W _)).1⟩, by omega⟩
theorem us_lit (W : World) (fs : List Us) (hf : fs.length ≤ 1954687338268) {p : Nat} (hp : W.heap.size = p) {cs : Array Value} (hcs : cs = (usCells fs).toArray) {n : Nat} (hn : n = fs.length) : UsIn [] (W.alloc (.cells cs TUs)) (some ⟨p, 0, none⟩) n fs := by
  subst hp hcs hn
  exact ⟨rfl, .inr ⟨W.heap.size, 0, rfl, usAt_lit W fs, by simp, (Array.getElem?_eq_some_iff.1 (heap_alloc_new W _)).1⟩, by omega⟩
theorem se_lit (W : World) (fs : List Se) (hf : fs.length ≤ 4398046511104) {p : Nat} (hp : W.heap.size = p) {cs : Array Value} (hcs : cs = (seCells fs).toArray) {n : Nat} (hn : n = fs.length) : SeIn [] (W.alloc (.cells cs TSe)) (some ⟨p, 0, none⟩) n fs := by
  subst hp hcs hn
  exact ⟨rfl, .inr ⟨W.heap.size, 0, rfl, seAt_lit W fs, by simp, (Array.getElem?_eq_some_iff.1 (heap_alloc_new W _)).1⟩, by omega⟩
/-- A state's cells, numbers in its lengths' places. -/
abbrev stN (b e n : Int) (h : Sv) (nu ns na ni : Nat) : Array Value := #[.int .i64 b, .int .i64 e, .int .i64 n, .slice h.u nu h.uc, .slice h.s ns h.sc, .slice h.p na h.pc, .slice h.i ni h.ic]
theorem StatesOk.oapplyA (P : StatesOk) {w0 V : World} {l : List Ob} {z : List (Sv × St)} {R : Ass} {h : Sv} {c : Cf} {s t : St} {e : Ev} {r : Int} {i : Nat} (hR : R.Good) (q : At w0 (OB l (STS z R)) V) (hi : z[i]? = some (h, s)) (hm : s.sm 1) (A : Array Value) (hA : A = stC h s) (hT : stAS c s e = t) (hE : stAE c s e = r) :
    Calls Tryz.prog 13 #[.agg (cfC c), .agg A, .agg (evA e)] V fun e Z => ∃ h2 : Sv, e = .returned (.tuple #[.agg (stC h2 t), .int .i64 r]) ∧ At w0 (OB l (STS ((h2, t) :: z) R)) Z := by
  subst hA
  exact P.oapply hR q hi hm hT hE
/-- A state held against none. -/
theorem olnone {w0 V : World} {l : List Ob} {z : List (Sv × St)} {R : Ass} {h : Sv} {s : St} {b : Bool} (hR : R.Good) (q : At w0 (OB l (STS z R)) V) (h1 : StIn V h s) (hb : decide (s = St.none) = b) :
    Calls Tryz.prog 9 #[.agg (stC h s), .agg stZ] V fun e Z => e = .returned (.bool b) ∧ At w0 (OB l (STS z R)) Z ∧ Below V.heap.size V Z :=
  olsame (h' := .none) (s' := St.none) hR q h1 (StIn.none _) hb
/-- The plain config. -/
abbrev cfP : Cf := ⟨100, 2, 2, 3, 2, 20, 10, 15, 60, 8, 50, 1⟩
set_option maxRecDepth 100000 in
theorem lplain (w : World) : Calls Tryz.prog 38 #[] w fun e w' => e = .returned (.agg (cfC cfP)) ∧ Below w.heap.size w w' := by
  have hb := Below.refl w.heap.size w
  go_enter Tryz.func38, Tryz.ntmps38
  go_wp2
  first
    | (go_ret; exact ⟨rfl, by first | exact hb | exact stal hb _⟩)
    | (refine bodyPost_ret (v := .agg (cfC cfP)) (by simp [*, results, Tryz.results38, go_sem]) rfl ⟨rfl, by first | exact hb | exact stal hb _⟩)
set_option maxRecDepth 100000 in
set_option maxHeartbeats 4000000 in
/-- SpoilState. -/
theorem lspoil {w0 w : World} {C : Ass} (hC : C.Good) {h : Sv} {s : St} (q : At w0 (StA h s C) w) (fu : s.us.length ≤ 1954687338263) (fs : s.ss.length ≤ 4398046511099) (fa : s.ad.length ≤ 1000) (fi : s.sp.length ≤ 17592186044411) :
    Calls Tryz.prog 15 #[.agg (stC h s)] w fun e w' => e = .returned (.tuple #[]) ∧ At w0 C w' := by
  have h0 := (At.hold (StA_good hC) q (stC h s) TSt).imp (st_in h s _ _)
  have g : ∀ (v : Value) (T : TypeId) (K n : Nat) (xs : List Value) {D : Ass}, D.Good → ((rowE T K v n xs).star D).Good := fun v T K n xs {D} hD => (rowE_good T K v n xs).star hD
  have gO : ((ownA w.heap.size (stC h s) TSt).star C).Good := (ownA_good _ _ _).star hC
  obtain ⟨k1, -, -⟩ := h0.drop.drop.drop.drop.own
  have H0 := Lib.hid h0
  have G1 := Lib.hid (g (.slice h.i s.sp.length h.ic) TIn 1 s.sp.length (inCells s.sp) gO)
  have G2 := Lib.hid (g (.slice h.p s.ad.length h.pc) TPa 3 s.ad.length (paCells s.ad) G1.out)
  have G3 := Lib.hid (g (.slice h.s s.ss.length h.sc) TSe 4 s.ss.length (seCells s.ss) G2.out)
  clear h0 q g
  go_enter Tryz.func15, Tryz.ntmps15
  go_wp2_with (first
    | (go_at_call 34; (with_reducible refine (us_spoil G3.out H0.out (by omega)).mono ?_); rintro e w1 ⟨rfl, h1⟩; obtain ⟨k2, -, -⟩ := h1.drop.drop.drop.own; have H1 := Lib.hid h1; clear h1)
    | (go_at_call 35; (with_reducible refine (se_spoil G2.out H1.out (by omega)).mono ?_); rintro e w2 ⟨rfl, h2⟩; obtain ⟨k3, -, -⟩ := h2.drop.drop.own; have H2 := Lib.hid h2; clear h2)
    | (go_at_call 36; (with_reducible refine (pa_spoil G1.out H2.out (by omega)).mono ?_); rintro e w3 ⟨rfl, h3⟩; obtain ⟨k4, -, -⟩ := h3.drop.own; have H3 := Lib.hid h3; clear h3)
    | (go_at_call 37; (with_reducible refine (in_spoil gO H3.out (by omega)).mono ?_); rintro e w4 ⟨rfl, h4⟩; have H4 := Lib.hid h4; clear h4))
  refine Great.bodyPost_end0 rfl rfl ?_
  exact ⟨rfl, H4.out.drop⟩
end Go.Proofs.YtopkcaflmpjhgaaGreat

namespace Go.Proofs.YtopkcaflmpjhgaaGreat
open Go Go.RowKit

theorem us_yes {w : World} {ao bo : Option Addr} {n m c1 c2 : Nat} {es : List Us} (h1 : UsIn [] w ao n es) (h2 : UsIn [] w bo m es) :
    Calls Tryz.prog 21 #[.slice ao n c1, .slice bo m c2] w fun e w' => e = .returned (.bool true) ∧ Below w.heap.size w w' :=
  (us_same h1 h2).mono fun e w' ⟨a, b⟩ => ⟨by rw [a]; simp, b⟩
theorem se_yes {w : World} {ao bo : Option Addr} {n m c1 c2 : Nat} {es : List Se} (h1 : SeIn [] w ao n es) (h2 : SeIn [] w bo m es) :
    Calls Tryz.prog 22 #[.slice ao n c1, .slice bo m c2] w fun e w' => e = .returned (.bool true) ∧ Below w.heap.size w w' :=
  (se_same h1 h2).mono fun e w' ⟨a, b⟩ => ⟨by rw [a]; simp, b⟩
abbrev awEs : List Ev := [⟨0, 0, 0, 0, 0, 0, 0, 0⟩, ⟨1, 3, 0, 0, 5, 6, 7, 0⟩, ⟨5, 3, 0, 1, 0, 0, 0, 4⟩]
theorem awEs_lit (W : World) {p : Nat} (hp : W.heap.size = p) : EvIn [] (W.alloc (.cells #[.int .i64 0, .int .i64 0, .int .i64 0, .int .i64 0, .int .i64 0, .int .i64 0, .int .i64 0, .int .i64 0, .int .i64 1, .int .i64 3, .int .i64 0, .int .i64 0, .int .i64 5, .int .i64 6, .int .i64 7, .int .i64 0, .int .i64 5, .int .i64 3, .int .i64 0, .int .i64 1, .int .i64 0, .int .i64 0, .int .i64 0, .int .i64 4] TEv)) (some ⟨p, 0, none⟩) 3 (awEs) := ev_lit W (awEs) (by simp) hp rfl rfl
abbrev awU : List Us := [⟨3, 5, 6, 7, 0, 0, 0, 0, 0⟩]
theorem awU_lit (W : World) {p : Nat} (hp : W.heap.size = p) : UsIn [] (W.alloc (.cells #[.int .i64 3, .int .i64 5, .int .i64 6, .int .i64 7, .int .i64 0, .int .i64 0, .int .i64 0, .int .i64 0, .int .i64 0] TUs)) (some ⟨p, 0, none⟩) 1 (awU) := us_lit W (awU) (by simp) hp rfl rfl
abbrev awS : List Se := [⟨0, 3, 1, 4⟩]
theorem awS_lit (W : World) {p : Nat} (hp : W.heap.size = p) : SeIn [] (W.alloc (.cells #[.int .i64 0, .int .i64 3, .int .i64 1, .int .i64 4] TSe)) (some ⟨p, 0, none⟩) 1 (awS) := se_lit W (awS) (by simp) hp rfl rfl
abbrev aw1 : St := ⟨1, 0, 1, awU, awS, [⟨false, -1, 0⟩, ⟨true, 3, 0⟩, ⟨false, -1, 0⟩], []⟩
abbrev aw2 : St := ⟨2, 0, 1, awU, [], [⟨false, -1, 0⟩, ⟨false, 3, 17⟩, ⟨false, -1, 0⟩], []⟩
abbrev aw3 : St := ⟨0, 0, 0, [], [], [⟨false, -1, 0⟩, ⟨false, -1, 0⟩], []⟩
theorem aw1_is : saS cfP awEs = aw1 ∧ saE cfP awEs = 0 := by decide +kernel
theorem aw2_is : stAS cfP aw1 ⟨0, 0, 0, 0, 0, 0, 0, 9⟩ = aw2 ∧ stAE cfP aw1 ⟨0, 0, 0, 0, 0, 0, 0, 9⟩ = 0 := by decide +kernel
theorem awA_is : stAS cfP aw1 ⟨5, 3, 1, 1, 0, 0, 0, 4⟩ = ⟨0, 0, 0, [], [], [], []⟩ ∧ stAE cfP aw1 ⟨5, 3, 1, 1, 0, 0, 0, 4⟩ = 2001 := by decide +kernel
theorem awB_is : stAS cfP aw1 ⟨99, 0, 0, 0, 0, 0, 0, 0⟩ = ⟨0, 0, 0, [], [], [], []⟩ ∧ stAE cfP aw1 ⟨99, 0, 0, 0, 0, 0, 0, 0⟩ = 2000 := by decide +kernel
theorem aw3_is : snS 2 = aw3 ∧ snE 2 = 0 := by decide +kernel
theorem aw1_sm : aw1.sm 1 := by rw [← aw1_is.1]; exact saS_sm (by decide)
theorem aw2_sm : aw2.sm 1 := ⟨by decide +kernel, by decide, by decide, by decide, by unfold St.nums; decide, by decide⟩
/-- A state's address, wherever memory goes. -/
theorem STS.pa {w0 V : World} {l : List Ob} {z : List (Sv × St)} {R : Ass} {h : Sv} {s : St} {i k : Nat} (q : At w0 (OB l (STS z R)) V) (hi : z[i]? = some (h, s)) (hm : s.sm k) {j : Nat} (hj : j < s.ad.length) {a : Pa} (ha : s.ad.getD j Pa.none = a) :
    ∃ b off, h.p = some ⟨b, off, Option.none⟩ ∧ ∀ W, Below V.heap.size V W → W.cell? ⟨b, off + j * 3, Option.none⟩ = some (.bool a.b) ∧ W.cell? ⟨b, off + j * 3 + 1, Option.none⟩ = some (.int .i64 a.l) ∧ W.cell? ⟨b, off + j * 3 + 2, Option.none⟩ = some (.int .i64 a.u) := by
  subst ha
  obtain ⟨b, off, a, e1, e2, e3⟩ := pa_el (STS.at q hi hm).ad hj
  subst e2
  exact ⟨b, off, e1, e3⟩
set_option maxRecDepth 100000 in
set_option maxHeartbeats 8000000 in
theorem awake20 (P : StatesOk) (w : World) : Calls Tryz.prog 16 #[] w fun e w' => e = .returned (.bool true) ∧ Below w.heap.size w w' := by
  have q0 : At w (OB [] (STS [] emp)) w := OB.start (Below.refl w.heap.size w)
  go_enter Tryz.func16, Tryz.ntmps16
  go_wp2_with (first
    | (go_at_call 38; (with_reducible refine (lplain w).mono ?_); rintro e w1 ⟨rfl, hb⟩; have q1 : At w (OB [(w1.heap.size, cfC cfP, TCf)] (STS [] emp)) (w1.alloc (.cells (cfC cfP) TCf)) := OB.hold emp_good (OB.lay emp_good q0 hb) (cfC cfP) TCf rfl; clear hb)
    | (go_at_call 7; (with_reducible refine (P.oall emp_good (OB.lay1 (STS.good emp_good) q1 _) (awEs_lit _ (by go_simp)) (by decide) aw1_is.1 aw1_is.2).mono ?_); rintro e w2 ⟨⟨u1, uc1, s1, sc1, p1, pc1, i1, ic1⟩, rfl, qa⟩; obtain ⟨b1, o1, e1, ha1⟩ := STS.pa qa (i := 0) rfl aw1_sm (j := 1) (a := ⟨true, 3, 0⟩) (by decide) rfl; dsimp only at e1; subst e1; have q2 := OB.hold (STS.good emp_good) qa (stN 1 0 1 ⟨u1, uc1, s1, sc1, some ⟨b1, o1, none⟩, pc1, i1, ic1⟩ 1 1 3 0) TSt rfl; have c1 := (OB.at q2 (i := 0) rfl).cell; have c2 := (OB.at q2 (i := 1) rfl).cell)
    | (go_at_call 13; first
      | ((with_reducible refine (P.oapplyA emp_good q2 (i := 0) rfl aw1_sm (stN 1 0 1 ⟨u1, uc1, s1, sc1, some ⟨b1, o1, none⟩, pc1, i1, ic1⟩ 1 1 3 0) rfl aw2_is.1 aw2_is.2).mono ?_); rintro e w3 ⟨⟨u2, uc2, s2, sc2, p2, pc2, i2, ic2⟩, rfl, qa⟩; obtain ⟨b2, o2, e2, ha2⟩ := STS.pa qa (i := 0) rfl aw2_sm (j := 1) (a := ⟨false, 3, 17⟩) (by decide) rfl; dsimp only at e2; subst e2; have q3 := OB.hold (STS.good emp_good) qa (stN 2 0 1 ⟨u2, uc2, s2, sc2, some ⟨b2, o2, none⟩, pc2, i2, ic2⟩ 1 0 3 0) TSt rfl; replace c1 := (OB.at q3 (i := 0) rfl).cell; replace c2 := (OB.at q3 (i := 1) rfl).cell; clear ha2 qa)
      | ((with_reducible refine (P.oapplyA emp_good q3 (i := 1) rfl aw1_sm (stN 1 0 1 ⟨u1, uc1, s1, sc1, some ⟨b1, o1, none⟩, pc1, i1, ic1⟩ 1 1 3 0) rfl awA_is.1 awA_is.2).mono ?_); rintro e w4 ⟨h4, rfl, qa⟩; have q4 := OB.hold (STS.good emp_good) qa (stN 0 0 0 h4 0 0 0 0) TSt rfl; replace c1 := (OB.at q4 (i := 0) rfl).cell; replace c2 := (OB.at q4 (i := 1) rfl).cell; clear qa)
      | ((with_reducible refine (P.oapplyA emp_good q4 (i := 2) rfl aw1_sm (stN 1 0 1 ⟨u1, uc1, s1, sc1, some ⟨b1, o1, none⟩, pc1, i1, ic1⟩ 1 1 3 0) rfl awB_is.1 awB_is.2).mono ?_); rintro e w5 ⟨h5, rfl, qa⟩; have q5 := OB.hold (STS.good emp_good) qa (stN 0 0 0 h5 0 0 0 0) TSt rfl; clear qa))
    | (go_at_call 4; (with_reducible refine (P.onew emp_good q5 aw3_is.1 aw3_is.2).mono ?_); rintro e w6 ⟨h6, rfl, qa⟩; have q6 := OB.hold (STS.good emp_good) qa (stN 0 0 0 h6 0 0 2 0) TSt rfl; have d1 := (OB.at q6 (i := 1) rfl).cell; clear c1 c2 qa)
    | (go_at_call 10; (with_reducible refine (lnum _ _).mono ?_); rintro e wn ⟨rfl, rfl⟩)
    | (go_at_call 21; (with_reducible refine (us_yes (us_on (show UsIn [] _ u1 1 awU from (STS.at q6 (i := 4) rfl aw1_sm).us) (stal (Below.refl _ _) _)) (awU_lit _ (by go_simp))).mono ?_); rintro e w7 ⟨rfl, hb⟩; have q7 := OB.lay (STS.good emp_good) (OB.lay1 (STS.good emp_good) q6 _) hb; clear hb; replace d1 := (OB.at q7 (i := 1) rfl).cell)
    | (go_at_call 22; (with_reducible refine (se_yes (se_on (show SeIn [] _ s1 1 awS from (STS.at q7 (i := 4) rfl aw1_sm).ss) (stal (Below.refl _ _) _)) (awS_lit _ (by go_simp))).mono ?_); rintro e w8 ⟨rfl, hb⟩; have q8 := OB.lay (STS.good emp_good) (OB.lay1 (STS.good emp_good) q7 _) hb; clear hb; replace d1 := (OB.at q8 (i := 1) rfl).cell; have d2 := (OB.at q8 (i := 2) rfl).cell; have d3 := (OB.at q8 (i := 5) rfl).cell; obtain ⟨x1, y1, e1, m1⟩ := STS.pa q8 (i := 4) rfl aw1_sm (j := 1) (a := ⟨true, 3, 0⟩) (by decide) rfl; obtain ⟨rfl, rfl⟩ : b1 = x1 ∧ o1 = y1 := (by simpa using e1); obtain ⟨m2, m3, m4⟩ := m1 _ (Below.refl _ _); obtain ⟨x2, y2, e2, n1⟩ := STS.pa q8 (i := 3) rfl aw2_sm (j := 1) (a := ⟨false, 3, 17⟩) (by decide) rfl; obtain ⟨rfl, rfl⟩ : b2 = x2 ∧ o2 = y2 := (by simpa using e2); obtain ⟨n2, n3, n4⟩ := n1 _ (Below.refl _ _); simp only [Nat.one_mul] at m2 m3 m4 n2 n3 n4; clear m1 n1 e1 e2))
  go_ret
  exact ⟨rfl, q8.bel⟩
end Go.Proofs.YtopkcaflmpjhgaaGreat

namespace Go.Proofs.YtopkcaflmpjhgaaGreat
open Go Go.RowKit

abbrev bgr0 : Oper := { dst := some 22, op := Op.load 29 (Operand.tmp 7), type := 29, pos := "more.go:15", after := #[], guard := none }
abbrev bgr1 : Oper := { dst := some 23, op := Op.move (Operand.tmp 8), type := 31, pos := "more.go:15", after := #[], guard := none }
abbrev bgr2 : Oper := { dst := some 24, op := Op.call { callee := Callee.value (Operand.func 10), args := #[Operand.tmp 23], argTypes := #[31] }, type := 3, pos := "more.go:15", after := #[{ on := 1, ground := Ground.data }], guard := none }
abbrev bgr3 : Oper := { dst := some 25, op := Op.binOp BinOp.eql 3 (Operand.tmp 24) (Operand.const (Value.int IntKind.i64 0)) 3, type := 4, pos := "more.go:15", after := #[{ on := 2, ground := Ground.data }, { on := 4, ground := Ground.gcOnly Departure.lateStores }], guard := none }
abbrev bgr4 : Oper := { dst := none, op := Op.store 29 (Operand.tmp 4) (Operand.tmp 22), type := 0, pos := "more.go:15", after := #[{ on := 0, ground := Ground.data }, { on := 2, ground := Ground.chain }, { on := 0, ground := Ground.phase }, { on := 1, ground := Ground.textOnly Departure.lateStores }, { on := 2, ground := Ground.textOnly Departure.lateStoresUnsure }, { on := 3, ground := Ground.textOnly Departure.lateStores }], guard := none }
abbrev bgr5 : Oper := { dst := some 5, op := Op.assign (Operand.tmp 25), type := 4, pos := "more.go:15", after := #[{ on := 3, ground := Ground.data }, { on := 4, ground := Ground.chain }, { on := 0, ground := Ground.phase }, { on := 1, ground := Ground.phase }, { on := 2, ground := Ground.phase }, { on := 3, ground := Ground.phase }, { on := 4, ground := Ground.phase }], guard := none }
/-- A row in the text, taken as one's own. -/
theorem At.evOwn {w0 w : World} {C : Ass} (hC : C.Good) (h : At w0 C w) (es : List Ev) (hn : es.length ≤ 1000) : At w0 ((rowE TEv 8 (.slice (some ⟨w.heap.size, 0, Option.none⟩) es.length es.length) es.length (evCells es)).star C) (w.alloc (.cells (evCells es).toArray TEv)) := by
  refine At.add hC h ⟨[w.heap.size], ⟨⟨evCells_len es, .inr ⟨w.heap.size, es.length, (evCells es).toArray, rfl, Nat.zero_le _, heap_alloc_new w _, Nat.le_refl _, by unfold maxLen; omega, ?_, ?_⟩⟩, rfl⟩, (Tn.refl _ _).alloc _, fun k hk => .inr (by simp at hk; omega)⟩
  · rw [List.size_toArray, evCells_len]
  · rw [← evCells_len es, List.take_length]
def begB : List Ev := [⟨0, 0, 0, 0, 0, 0, 0, 0⟩, ⟨1, 0, 0, 0, 5, 6, 50, 0⟩, ⟨1, 1, 0, 0, 7, 8, 60, 0⟩]
theorem begB_own {w0 w : World} {C : Ass} (hC : C.Good) (h : At w0 C w) {p : Nat} (hp : w.heap.size = p) : At w0 ((rowE TEv 8 (.slice (some ⟨p, 0, Option.none⟩) 3 3) begB.length (evCells begB)).star C) (w.alloc (.cells #[.int .i64 0, .int .i64 0, .int .i64 0, .int .i64 0, .int .i64 0, .int .i64 0, .int .i64 0, .int .i64 0, .int .i64 1, .int .i64 0, .int .i64 0, .int .i64 0, .int .i64 5, .int .i64 6, .int .i64 50, .int .i64 0, .int .i64 1, .int .i64 1, .int .i64 0, .int .i64 0, .int .i64 7, .int .i64 8, .int .i64 60, .int .i64 0] TEv)) := by
  subst hp
  exact At.evOwn hC h begB (by decide)
/-- What more events may be handed: none, or a row. -/
def MoreIn (w : World) (ao : Option Addr) (m cap : Nat) (es : List Ev) : Prop := m = es.length ∧ m ≤ 1000 ∧ ((ao = none ∧ m = 0 ∧ cap = 0) ∨ ∃ b off, ao = some ⟨b, off, none⟩ ∧ EvAt w b off es ∧ b < w.heap.size)
theorem MoreIn.nil (w : World) : MoreIn w none 0 0 [] := ⟨rfl, by decide, .inl ⟨rfl, rfl, rfl⟩⟩
theorem MoreIn.lit (W : World) (fs : List Ev) (hf : fs.length ≤ 1000) {p : Nat} (hp : W.heap.size = p) {cs : Array Value} (hcs : cs = (evCells fs).toArray) {n : Nat} (hn : n = fs.length) : MoreIn (W.alloc (.cells cs TEv)) (some ⟨p, 0, none⟩) n n fs := by
  subst hp hcs hn
  exact ⟨rfl, hf, .inr ⟨W.heap.size, 0, rfl, evAt_lit W fs, (Array.getElem?_eq_some_iff.1 (heap_alloc_new W _)).1⟩⟩
theorem MoreIn.on {w W : World} {ao : Option Addr} {m cap : Nat} {es : List Ev} (h : MoreIn w ao m cap es) (hb : Below w.heap.size w W) : MoreIn W ao m cap es := by
  obtain ⟨h1, h2, h3⟩ := h
  refine ⟨h1, h2, ?_⟩
  rcases h3 with c | ⟨b, off, e1, e2, e3⟩
  · exact .inl c
  · exact .inr ⟨b, off, e1, e2.same (hb.block b e3), Nat.lt_of_lt_of_le e3 hb.size⟩
end Go.Proofs.YtopkcaflmpjhgaaGreat

