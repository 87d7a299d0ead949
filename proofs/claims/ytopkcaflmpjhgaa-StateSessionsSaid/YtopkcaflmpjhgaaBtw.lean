
/- Put together: Staw, Staw2, Stb. Conditions: each theorem's own. -/
import Derived.Test.YtopkcaflmpjhgaaBsv
import Derived.Test.YtopkcaflmpjhgaaBin
import Derived.Deep.RegionWith
namespace Go.Proofs.Ytopkcaflmpjhgaa
open Go Go.RowKit

/-- Rows in the text. -/
theorem ev_lit (W : World) (fs : List Ev) (hf : fs.length ≤ 2199023255552) {p : Nat} (hp : W.heap.size = p) {cs : Array Value} (hcs : cs = (evCells fs).toArray) {n : Nat} (hn : n = fs.length) : EvIn [] (W.alloc (.cells cs TEv)) (some ⟨p, 0, none⟩) n fs := by
  subst hp hcs hn
  exact ⟨rfl, .inr ⟨W.heap.size, 0, rfl, evAt_lit W fs, by simp, (Array.getElem?_eq_some_iff.1 (heap_alloc_new W _)).1⟩, by omega⟩
theorem us_lit (W : World) (fs : List Us) (hf : fs.length ≤ 1954687338268) {p : Nat} (hp : W.heap.size = p) {cs : Array Value} (hcs : cs = (usCells fs).toArray) {n : Nat} (hn : n = fs.length) : UsIn [] (W.alloc (.cells cs TUs)) (some ⟨p, 0, none⟩) n fs := by
  subst hp hcs hn
  exact ⟨rfl, .inr ⟨W.heap.size, 0, rfl, usAt_lit W fs, by simp, (Array.getElem?_eq_some_iff.1 (heap_alloc_new W _)).1⟩, by omega⟩
theorem se_lit (W : World) (fs : List Se) (hf : fs.length ≤ 4398046511104) {p : Nat} (hp : W.heap.size = p) {cs : Array Value} (hcs : cs = (seCells fs).toArray) {n : Nat} (hn : n = fs.length) : SeIn [] (W.alloc (.cells cs TSe)) (some ⟨p, 0, none⟩) n fs := by
  subst hp hcs hn
  exact ⟨rfl, .inr ⟨W.heap.size, 0, rfl, seAt_lit W fs, by simp, (Array.getElem?_eq_some_iff.1 (heap_alloc_new W _)).1⟩, by omega⟩
/-- A state's cells, numbers in its lengths' places. -/
abbrev stN (b e n : Int) (h : Sv) (nu ns na ni : Nat) : Array Value := #[.int .i64 b, .int .i64 e, .int .i64 n, .slice h.u nu h.uc, .slice h.s ns h.sc, .slice h.p na h.pc, .slice h.i ni h.ic]
theorem StatesOk.oapplyA (P : StatesOk) {w0 V : World} {l : List Ob} {z : List (Sv × St)} {R : Ass} {h : Sv} {c : Cf} {s t : St} {e : Ev} {r : Int} {i : Nat} (hR : R.Good) (q : At w0 (OB l (STS z R)) V) (hi : z[i]? = some (h, s)) (hm : s.sm 1) (A : Array Value) (hA : A = stC h s) (hT : stAS c s e = t) (hE : stAE c s e = r) :
    Calls Try.prog 13 #[.agg (cfC c), .agg A, .agg (evA e)] V fun e Z => ∃ h2 : Sv, e = .returned (.tuple #[.agg (stC h2 t), .int .i64 r]) ∧ At w0 (OB l (STS ((h2, t) :: z) R)) Z := by
  subst hA
  exact P.oapply hR q hi hm hT hE
/-- A state held against none. -/
theorem olnone {w0 V : World} {l : List Ob} {z : List (Sv × St)} {R : Ass} {h : Sv} {s : St} {b : Bool} (hR : R.Good) (q : At w0 (OB l (STS z R)) V) (h1 : StIn V h s) (hb : decide (s = St.none) = b) :
    Calls Try.prog 12 #[.agg (stC h s), .agg stZ] V fun e Z => e = .returned (.bool b) ∧ At w0 (OB l (STS z R)) Z ∧ Below V.heap.size V Z :=
  olsame (h' := .none) (s' := St.none) hR q h1 (StIn.none _) hb
/-- The plain config. -/
abbrev cfP : Cf := ⟨100, 2, 2, 3, 2, 20, 10, 15, 60, 8, 50, 1⟩
set_option maxRecDepth 100000 in
theorem lplain (w : World) : Calls Try.prog 14 #[] w fun e w' => e = .returned (.agg (cfC cfP)) ∧ Below w.heap.size w w' := by
  have hb := Below.refl w.heap.size w
  go_enter Try.func14, Try.ntmps14
  go_wp2
  first
    | (go_ret; exact ⟨rfl, by first | exact hb | exact stal hb _⟩)
    | (refine bodyPost_ret (v := .agg (cfC cfP)) (by simp [*, results, Try.results14, go_sem]) rfl ⟨rfl, by first | exact hb | exact stal hb _⟩)
end Go.Proofs.Ytopkcaflmpjhgaa

namespace Go.Proofs.Ytopkcaflmpjhgaa
open Go Go.RowKit

theorem us_yes {w : World} {ao bo : Option Addr} {n m c1 c2 : Nat} {es : List Us} (h1 : UsIn [] w ao n es) (h2 : UsIn [] w bo m es) :
    Calls Try.prog 18 #[.slice ao n c1, .slice bo m c2] w fun e w' => e = .returned (.bool true) ∧ Below w.heap.size w w' :=
  (us_same h1 h2).mono fun e w' ⟨a, b⟩ => ⟨by rw [a]; simp, b⟩
theorem se_yes {w : World} {ao bo : Option Addr} {n m c1 c2 : Nat} {es : List Se} (h1 : SeIn [] w ao n es) (h2 : SeIn [] w bo m es) :
    Calls Try.prog 16 #[.slice ao n c1, .slice bo m c2] w fun e w' => e = .returned (.bool true) ∧ Below w.heap.size w w' :=
  (se_same h1 h2).mono fun e w' ⟨a, b⟩ => ⟨by rw [a]; simp, b⟩
abbrev awEs : List Ev := [⟨0, 0, 0, 0, 0, 0, 0, 0⟩, ⟨1, 3, 0, 0, 5, 6, 7, 0⟩, ⟨5, 3, 0, 1, 0, 0, 0, 4⟩]
theorem awEs_lit (W : World) {p : Nat} (hp : W.heap.size = p) : EvIn [] (W.alloc (.cells #[.int .i64 0, .int .i64 0, .int .i64 0, .int .i64 0, .int .i64 0, .int .i64 0, .int .i64 0, .int .i64 0, .int .i64 1, .int .i64 3, .int .i64 0, .int .i64 0, .int .i64 5, .int .i64 6, .int .i64 7, .int .i64 0, .int .i64 5, .int .i64 3, .int .i64 0, .int .i64 1, .int .i64 0, .int .i64 0, .int .i64 0, .int .i64 4] TEv)) (some ⟨p, 0, none⟩) 3 (awEs) := ev_lit W (awEs) (by simp) hp rfl rfl
abbrev awU : List Us := [⟨3, 5, 6, 7, 0, 0, 0, 0, 0⟩]
theorem awU_lit (W : World) {p : Nat} (hp : W.heap.size = p) : UsIn [] (W.alloc (.cells #[.int .i64 3, .int .i64 5, .int .i64 6, .int .i64 7, .int .i64 0, .int .i64 0, .int .i64 0, .int .i64 0, .int .i64 0] TUs)) (some ⟨p, 0, none⟩) 1 (awU) := us_lit W (awU) (by simp) hp rfl rfl
abbrev awS : List Se := [⟨0, 3, 1, 4⟩]
theorem awS_lit (W : World) {p : Nat} (hp : W.heap.size = p) : SeIn [] (W.alloc (.cells #[.int .i64 0, .int .i64 3, .int .i64 1, .int .i64 4] TSe)) (some ⟨p, 0, none⟩) 1 (awS) := se_lit W (awS) (by simp) hp rfl rfl
abbrev aw1 : St := ⟨1, 0, 1, awU, awS, [⟨false, -1, 0⟩, ⟨true, 3, 0⟩, ⟨false, -1, 0⟩], []⟩
abbrev aw2 : St := ⟨2, 0, 1, awU, [], [⟨false, -1, 0⟩, ⟨false, 3, 17⟩, ⟨false, -1, 0⟩], []⟩
abbrev aw3 : St := ⟨0, 0, 0, [], [], [⟨false, -1, 0⟩, ⟨false, -1, 0⟩], []⟩
theorem aw1_is : saS cfP awEs = aw1 ∧ saE cfP awEs = 0 := by decide +kernel
theorem aw2_is : stAS cfP aw1 ⟨0, 0, 0, 0, 0, 0, 0, 9⟩ = aw2 ∧ stAE cfP aw1 ⟨0, 0, 0, 0, 0, 0, 0, 9⟩ = 0 := by decide +kernel
theorem awA_is : stAS cfP aw1 ⟨5, 3, 1, 1, 0, 0, 0, 4⟩ = ⟨0, 0, 0, [], [], [], []⟩ ∧ stAE cfP aw1 ⟨5, 3, 1, 1, 0, 0, 0, 4⟩ = 2001 := by decide +kernel
theorem awB_is : stAS cfP aw1 ⟨99, 0, 0, 0, 0, 0, 0, 0⟩ = ⟨0, 0, 0, [], [], [], []⟩ ∧ stAE cfP aw1 ⟨99, 0, 0, 0, 0, 0, 0, 0⟩ = 2000 := by decide +kernel
theorem aw3_is : snS 2 = aw3 ∧ snE 2 = 0 := by decide +kernel
theorem aw1_sm : aw1.sm 1 := by rw [← aw1_is.1]; exact saS_sm (by decide)
theorem aw2_sm : aw2.sm 1 := ⟨by decide +kernel, by decide, by decide, by decide, by unfold St.nums; decide, by decide⟩
/-- A state's address, wherever memory goes. -/
theorem STS.pa {w0 V : World} {l : List Ob} {z : List (Sv × St)} {R : Ass} {h : Sv} {s : St} {i k : Nat} (q : At w0 (OB l (STS z R)) V) (hi : z[i]? = some (h, s)) (hm : s.sm k) {j : Nat} (hj : j < s.ad.length) {a : Pa} (ha : s.ad.getD j Pa.none = a) :
    ∃ b off, h.p = some ⟨b, off, Option.none⟩ ∧ ∀ W, Below V.heap.size V W → W.cell? ⟨b, off + j * 3, Option.none⟩ = some (.bool a.b) ∧ W.cell? ⟨b, off + j * 3 + 1, Option.none⟩ = some (.int .i64 a.l) ∧ W.cell? ⟨b, off + j * 3 + 2, Option.none⟩ = some (.int .i64 a.u) := by
  subst ha
  obtain ⟨b, off, a, e1, e2, e3⟩ := pa_el (STS.at q hi hm).ad hj
  subst e2
  exact ⟨b, off, e1, e3⟩
set_option maxRecDepth 100000 in
set_option maxHeartbeats 8000000 in
theorem awake20 (P : StatesOk) (w : World) : Calls Try.prog 9 #[] w fun e w' => e = .returned (.bool true) ∧ Below w.heap.size w w' := by
  have q0 : At w (OB [] (STS [] emp)) w := OB.start (Below.refl w.heap.size w)
  go_enter Try.func9, Try.ntmps9
  go_wp2_with (first
    | (go_at_call 14; (with_reducible refine (lplain w).mono ?_); rintro e w1 ⟨rfl, hb⟩; have q1 : At w (OB [(w1.heap.size, cfC cfP, TCf)] (STS [] emp)) (w1.alloc (.cells (cfC cfP) TCf)) := OB.hold emp_good (OB.lay emp_good q0 hb) (cfC cfP) TCf rfl; clear hb)
    | (go_at_call 10; (with_reducible refine (P.oall emp_good (OB.lay1 (STS.good emp_good) q1 _) (awEs_lit _ (by go_simp)) (by decide) aw1_is.1 aw1_is.2).mono ?_); rintro e w2 ⟨⟨u1, uc1, s1, sc1, p1, pc1, i1, ic1⟩, rfl, qa⟩; obtain ⟨b1, o1, e1, ha1⟩ := STS.pa qa (i := 0) rfl aw1_sm (j := 1) (a := ⟨true, 3, 0⟩) (by decide) rfl; dsimp only at e1; subst e1; have q2 := OB.hold (STS.good emp_good) qa (stN 1 0 1 ⟨u1, uc1, s1, sc1, some ⟨b1, o1, none⟩, pc1, i1, ic1⟩ 1 1 3 0) TSt rfl; have c1 := (OB.at q2 (i := 0) rfl).cell; have c2 := (OB.at q2 (i := 1) rfl).cell)
    | (go_at_call 13; first
      | ((with_reducible refine (P.oapplyA emp_good q2 (i := 0) rfl aw1_sm (stN 1 0 1 ⟨u1, uc1, s1, sc1, some ⟨b1, o1, none⟩, pc1, i1, ic1⟩ 1 1 3 0) rfl aw2_is.1 aw2_is.2).mono ?_); rintro e w3 ⟨⟨u2, uc2, s2, sc2, p2, pc2, i2, ic2⟩, rfl, qa⟩; obtain ⟨b2, o2, e2, ha2⟩ := STS.pa qa (i := 0) rfl aw2_sm (j := 1) (a := ⟨false, 3, 17⟩) (by decide) rfl; dsimp only at e2; subst e2; have q3 := OB.hold (STS.good emp_good) qa (stN 2 0 1 ⟨u2, uc2, s2, sc2, some ⟨b2, o2, none⟩, pc2, i2, ic2⟩ 1 0 3 0) TSt rfl; replace c1 := (OB.at q3 (i := 0) rfl).cell; replace c2 := (OB.at q3 (i := 1) rfl).cell; clear ha2 qa)
      | ((with_reducible refine (P.oapplyA emp_good q3 (i := 1) rfl aw1_sm (stN 1 0 1 ⟨u1, uc1, s1, sc1, some ⟨b1, o1, none⟩, pc1, i1, ic1⟩ 1 1 3 0) rfl awA_is.1 awA_is.2).mono ?_); rintro e w4 ⟨h4, rfl, qa⟩; have q4 := OB.hold (STS.good emp_good) qa (stN 0 0 0 h4 0 0 0 0) TSt rfl; replace c1 := (OB.at q4 (i := 0) rfl).cell; replace c2 := (OB.at q4 (i := 1) rfl).cell; clear qa)
      | ((with_reducible refine (P.oapplyA emp_good q4 (i := 2) rfl aw1_sm (stN 1 0 1 ⟨u1, uc1, s1, sc1, some ⟨b1, o1, none⟩, pc1, i1, ic1⟩ 1 1 3 0) rfl awB_is.1 awB_is.2).mono ?_); rintro e w5 ⟨h5, rfl, qa⟩; have q5 := OB.hold (STS.good emp_good) qa (stN 0 0 0 h5 0 0 0 0) TSt rfl; clear qa))
    | (go_at_call 20; (with_reducible refine (P.onew emp_good q5 aw3_is.1 aw3_is.2).mono ?_); rintro e w6 ⟨h6, rfl, qa⟩; have q6 := OB.hold (STS.good emp_good) qa (stN 0 0 0 h6 0 0 2 0) TSt rfl; have d1 := (OB.at q6 (i := 1) rfl).cell; clear c1 c2 qa)
    | (go_at_call 11; (with_reducible refine (lnum _ _).mono ?_); rintro e wn ⟨rfl, rfl⟩)
    | (go_at_call 18; (with_reducible refine (us_yes (us_on (show UsIn [] _ u1 1 awU from (STS.at q6 (i := 4) rfl aw1_sm).us) (stal (Below.refl _ _) _)) (awU_lit _ (by go_simp))).mono ?_); rintro e w7 ⟨rfl, hb⟩; have q7 := OB.lay (STS.good emp_good) (OB.lay1 (STS.good emp_good) q6 _) hb; clear hb; replace d1 := (OB.at q7 (i := 1) rfl).cell)
    | (go_at_call 16; (with_reducible refine (se_yes (se_on (show SeIn [] _ s1 1 awS from (STS.at q7 (i := 4) rfl aw1_sm).ss) (stal (Below.refl _ _) _)) (awS_lit _ (by go_simp))).mono ?_); rintro e w8 ⟨rfl, hb⟩; have q8 := OB.lay (STS.good emp_good) (OB.lay1 (STS.good emp_good) q7 _) hb; clear hb; replace d1 := (OB.at q8 (i := 1) rfl).cell; have d2 := (OB.at q8 (i := 2) rfl).cell; have d3 := (OB.at q8 (i := 5) rfl).cell; obtain ⟨x1, y1, e1, m1⟩ := STS.pa q8 (i := 4) rfl aw1_sm (j := 1) (a := ⟨true, 3, 0⟩) (by decide) rfl; obtain ⟨rfl, rfl⟩ : b1 = x1 ∧ o1 = y1 := (by simpa using e1); obtain ⟨m2, m3, m4⟩ := m1 _ (Below.refl _ _); obtain ⟨x2, y2, e2, n1⟩ := STS.pa q8 (i := 3) rfl aw2_sm (j := 1) (a := ⟨false, 3, 17⟩) (by decide) rfl; obtain ⟨rfl, rfl⟩ : b2 = x2 ∧ o2 = y2 := (by simpa using e2); obtain ⟨n2, n3, n4⟩ := n1 _ (Below.refl _ _); simp only [Nat.one_mul] at m2 m3 m4 n2 n3 n4; clear m1 n1 e1 e2))
  go_ret
  exact ⟨rfl, q8.bel⟩
end Go.Proofs.Ytopkcaflmpjhgaa

namespace Go.Proofs.Ytopkcaflmpjhgaa
open Go Go.RowKit

abbrev bgr0 : Oper := { dst := some 22, op := Op.load 32 (Operand.tmp 7), type := 32, pos := "more.go:15", after := #[], guard := none }
abbrev bgr1 : Oper := { dst := some 23, op := Op.move (Operand.tmp 8), type := 33, pos := "more.go:15", after := #[], guard := none }
abbrev bgr2 : Oper := { dst := some 24, op := Op.call { callee := Callee.value (Operand.func 11), args := #[Operand.tmp 23], argTypes := #[33] }, type := 3, pos := "more.go:15", after := #[{ on := 1, ground := Ground.data }], guard := none }
abbrev bgr3 : Oper := { dst := some 25, op := Op.binOp BinOp.eql 3 (Operand.tmp 24) (Operand.const (Value.int IntKind.i64 0)) 3, type := 4, pos := "more.go:15", after := #[{ on := 2, ground := Ground.data }, { on := 4, ground := Ground.gcOnly Departure.lateStores }], guard := none }
abbrev bgr4 : Oper := { dst := none, op := Op.store 32 (Operand.tmp 4) (Operand.tmp 22), type := 0, pos := "more.go:15", after := #[{ on := 0, ground := Ground.data }, { on := 2, ground := Ground.chain }, { on := 0, ground := Ground.phase }, { on := 1, ground := Ground.textOnly Departure.lateStores }, { on := 2, ground := Ground.textOnly Departure.lateStoresUnsure }, { on := 3, ground := Ground.textOnly Departure.lateStores }], guard := none }
abbrev bgr5 : Oper := { dst := some 5, op := Op.assign (Operand.tmp 25), type := 4, pos := "more.go:15", after := #[{ on := 3, ground := Ground.data }, { on := 4, ground := Ground.chain }, { on := 0, ground := Ground.phase }, { on := 1, ground := Ground.phase }, { on := 2, ground := Ground.phase }, { on := 3, ground := Ground.phase }, { on := 4, ground := Ground.phase }], guard := none }
/-- A row in the text, taken as one's own. -/
theorem At.evOwn {w0 w : World} {C : Ass} (hC : C.Good) (h : At w0 C w) (es : List Ev) (hn : es.length ≤ 1000) : At w0 ((rowE TEv 8 (.slice (some ⟨w.heap.size, 0, Option.none⟩) es.length es.length) es.length (evCells es)).star C) (w.alloc (.cells (evCells es).toArray TEv)) := by
  refine At.add hC h ⟨[w.heap.size], ⟨⟨evCells_len es, .inr ⟨w.heap.size, es.length, (evCells es).toArray, rfl, Nat.zero_le _, heap_alloc_new w _, Nat.le_refl _, by unfold maxLen; omega, ?_, ?_⟩⟩, rfl⟩, (Tn.refl _ _).alloc _, fun k hk => .inr (by simp at hk; omega)⟩
  · rw [List.size_toArray, evCells_len]
  · rw [← evCells_len es, List.take_length]
def begB : List Ev := [⟨0, 0, 0, 0, 0, 0, 0, 0⟩, ⟨1, 0, 0, 0, 5, 6, 50, 0⟩, ⟨1, 1, 0, 0, 7, 8, 60, 0⟩]
theorem begB_own {w0 w : World} {C : Ass} (hC : C.Good) (h : At w0 C w) {p : Nat} (hp : w.heap.size = p) : At w0 ((rowE TEv 8 (.slice (some ⟨p, 0, Option.none⟩) 3 3) begB.length (evCells begB)).star C) (w.alloc (.cells #[.int .i64 0, .int .i64 0, .int .i64 0, .int .i64 0, .int .i64 0, .int .i64 0, .int .i64 0, .int .i64 0, .int .i64 1, .int .i64 0, .int .i64 0, .int .i64 0, .int .i64 5, .int .i64 6, .int .i64 50, .int .i64 0, .int .i64 1, .int .i64 1, .int .i64 0, .int .i64 0, .int .i64 7, .int .i64 8, .int .i64 60, .int .i64 0] TEv)) := by
  subst hp
  exact At.evOwn hC h begB (by decide)
/-- What more events may be handed: none, or a row. -/
def MoreIn (w : World) (ao : Option Addr) (m cap : Nat) (es : List Ev) : Prop := m = es.length ∧ m ≤ 1000 ∧ ((ao = none ∧ m = 0 ∧ cap = 0) ∨ ∃ b off, ao = some ⟨b, off, none⟩ ∧ EvAt w b off es ∧ b < w.heap.size)
theorem MoreIn.nil (w : World) : MoreIn w none 0 0 [] := ⟨rfl, by decide, .inl ⟨rfl, rfl, rfl⟩⟩
theorem MoreIn.lit (W : World) (fs : List Ev) (hf : fs.length ≤ 1000) {p : Nat} (hp : W.heap.size = p) {cs : Array Value} (hcs : cs = (evCells fs).toArray) {n : Nat} (hn : n = fs.length) : MoreIn (W.alloc (.cells cs TEv)) (some ⟨p, 0, none⟩) n n fs := by
  subst hp hcs hn
  exact ⟨rfl, hf, .inr ⟨W.heap.size, 0, rfl, evAt_lit W fs, (Array.getElem?_eq_some_iff.1 (heap_alloc_new W _)).1⟩⟩
theorem MoreIn.on {w W : World} {ao : Option Addr} {m cap : Nat} {es : List Ev} (h : MoreIn w ao m cap es) (hb : Below w.heap.size w W) : MoreIn W ao m cap es := by
  obtain ⟨h1, h2, h3⟩ := h
  refine ⟨h1, h2, ?_⟩
  rcases h3 with c | ⟨b, off, e1, e2, e3⟩
  · exact .inl c
  · exact .inr ⟨b, off, e1, e2.same (hb.block b e3), Nat.lt_of_lt_of_le e3 hb.size⟩
set_option maxRecDepth 100000 in
set_option maxHeartbeats 8000000 in
theorem begun_ok (P : StatesOk) {w : World} {c : Cf} {ao : Option Addr} {m cap : Nat} {es : List Ev} {S : St} {b : Bool} (hm : MoreIn w ao m cap es) (hS : saS c (begB ++ es) = S) (hE : decide (saE c (begB ++ es) = 0) = b) :
    Calls Try.prog 15 #[.agg (cfC c), .slice ao m cap] w fun e Z => ∃ h : Sv, e = .returned (.tuple #[.agg (stC h S), .bool b]) ∧ StNew w h S Z := by
  have hq : At w (OB [(w.heap.size, cfC c, TCf), (w.heap.size + 1, stZ, TSt)] emp) ((w.alloc (.cells (cfC c) TCf)).alloc (.cells stZ TSt)) :=
    OB.hold emp_good (OB.hold emp_good (OB.start (Below.refl w.heap.size w)) (cfC c) TCf rfl) stZ TSt (by simp)
  have hr := begB_own (OB.good emp_good) hq (p := w.heap.size + 1 + 1) (by simp)
  have hm2 := hm.on (stal (stal (stal (Below.refl w.heap.size w) (.cells (cfC c) TCf)) (.cells stZ TSt)) (.cells #[.int .i64 0, .int .i64 0, .int .i64 0, .int .i64 0, .int .i64 0, .int .i64 0, .int .i64 0, .int .i64 0, .int .i64 1, .int .i64 0, .int .i64 0, .int .i64 0, .int .i64 5, .int .i64 6, .int .i64 50, .int .i64 0, .int .i64 1, .int .i64 1, .int .i64 0, .int .i64 0, .int .i64 7, .int .i64 8, .int .i64 60, .int .i64 0] TEv))
  obtain ⟨hml, hmx, hmr⟩ := hm2
  obtain ⟨v', w2, k1, k2, k3, -, k5⟩ := ev_runApp (es := es) 24 begB hr.erow ao m cap hml (by show 3 + m ≤ _; omega) (by
    rcases hmr with c | ⟨b, off, e1, e2, -⟩
    · exact .inl c
    · exact .inr ⟨b, off, e1, e2⟩)
  obtain ⟨a2, c2, rfl⟩ := rowE_shape k2
  have hS2 := hr.appendedE (OB.good emp_good) k3 k2 (by
    rcases k5 with e | e
    · exact .inl e
    · exact .inr ⟨_, Nat.le_refl _, e⟩)
  rw [← evCells_app] at hS2
  have hlen : 3 + m = (begB ++ es).length := by rw [List.length_append, hml]; rfl
  have hI := At.evI hS2 (show begB.length + m = _ from hlen) (show begB.length + m = _ from hlen) (by rw [← hlen]; omega)
  have HQ := Lib.hid hS2.drop
  have kc := (OB.at hS2.drop (i := 0) rfl).cell
  have hA := P.all (cap := c2) (n := 3 + m) (ao := a2) c (show EvIn [] w2 a2 (3 + m) (begB ++ es) from hI) (by show 3 + m ≤ _; omega)
  rw [hS] at hA
  obtain ⟨r, hr0⟩ : ∃ r, saE c (begB ++ es) = r := ⟨_, rfl⟩
  rw [hr0] at hA hE
  have HA := Lib.hid hA
  have HE := Lib.hid hE
  have HK := Lib.hid (show (Builtin.append_ #[24, 24] 24 #[.slice (some ⟨w.heap.size + 1 + 1, 0, none⟩) 3 3, .slice ao m cap]).run Try.prog _ = .ok (.slice a2 (3 + m) c2) w2 from k1)
  clear hA hE hr hq k1 k2 k3 k5 hS2 hI hmr hm hml hlen hS hr0
  go_enter Try.func15, Try.ntmps15
  go_wp2_with (first
    | (at_builtin; refine ev_app rfl _ _ rfl rfl rfl HK.out ?_)
    | (go_at_call 10; (with_reducible refine HA.out.mono ?_); rintro e w3 ⟨h3, rfl, hN⟩; have q3 : At w (OB [(w.heap.size, cfC c, TCf), (w.heap.size + 1, stZ, TSt), (w3.heap.size, stC h3 S, TSt)] (StA h3 S emp)) (w3.alloc (.cells (stC h3 S) TSt)) := OB.hold (StA_good emp_good) ((StNew.front (OB.good emp_good) HQ.out hN).imp (OB.outof _ _ _ _)) (stC h3 S) TSt rfl; clear hN))
  refine region_held (S := fun Z => Blk Z w3.heap.size (stC h3 S)) 6 [false, false, false, false, false, false] rfl rfl (by kernel_rfl) fun V hW => ?_
  have q4 := OB.lay (StA_good emp_good) q3 (us_drew _)
  rw [← hW] at q4
  have hS4 := OB.at q4 (i := 2) rfl
  clear hW q3
  refine run_go [(0, bgr0, (some 22)), (1, bgr1, (some 23))] (by kernel_rfl) ?_
  iterate 2 (refine run_take ?_ rfl rfl (fun _ _ _ h => h) (Or.inl ⟨by rfl, ?_⟩) hS4 ?_; rotate_left; (· (intro w0' hy0; have k0 := hy0.cell; (go_simp <;> with_reducible rfl))); simp only [Act.put, List.setIfInBounds_toArray, List.set_cons_zero, List.set_cons_succ])
  refine run_end ?_
  refine held_callv 2 bgr2 (some 24) (fun v Z => v = .int .i64 r ∧ Z = V) 11 #[.int .i64 r] (by kernel_rfl) rfl rfl (by rfl) (by go_simp <;> with_reducible rfl) ((lnum _ _).mono fun e w' ⟨e1, e2⟩ => ⟨_, e1, rfl, e2.symm⟩) (fun v Z ⟨_, z⟩ => z ▸ hS4) ?_
  rintro v V1 ⟨rfl, rfl⟩
  simp only [Act.put, List.setIfInBounds_toArray, List.set_cons_zero, List.set_cons_succ]
  refine run_go [(3, bgr3, (some 25))] (by kernel_rfl) ?_
  iterate 1 (refine run_take ?_ rfl rfl (fun _ _ _ h => h) (Or.inl ⟨by rfl, ?_⟩) hS4 ?_; rotate_left; (· (intro w0' hy0; have k0 := hy0.cell; (go_simp <;> with_reducible rfl))); simp only [Act.put, List.setIfInBounds_toArray, List.set_cons_zero, List.set_cons_succ])
  refine run_end ?_
  have k1 := (OB.at q4 (i := 1) rfl).cell
  have g1 := (OB.at q4 (i := 1) rfl).froz
  have q5 := OB.put7 (StA_good emp_good) q4 (i := 1) rfl (.int .i64 S.b) (.int .i64 S.e) (.int .i64 S.n) (.slice h3.u S.us.length h3.uc) (.slice h3.s S.ss.length h3.sc) (.slice h3.p S.ad.length h3.pc) (.slice h3.i S.sp.length h3.ic)
  have hS5 := OB.at q5 (i := 2) rfl
  refine held_void 4 bgr4 _ (by kernel_rfl) rfl (by rfl) (by go_simp <;> with_reducible rfl) hS5 ?_
  simp only [Act.put, List.setIfInBounds_toArray, List.set_cons_zero, List.set_cons_succ]
  refine run_go [(5, bgr5, (some 5))] (by kernel_rfl) ?_
  iterate 1 (refine run_take ?_ rfl rfl (fun _ _ _ h => h) (Or.inl ⟨by rfl, ?_⟩) hS5 ?_; rotate_left; (· (intro w0' hy0; have k0 := hy0.cell; (go_simp <;> with_reducible rfl))); simp only [Act.put, List.setIfInBounds_toArray, List.set_cons_zero, List.set_cons_succ])
  refine run_end ?_
  refine wpAnyH_done (by kernel_rfl) ?_ _
  have kr := (OB.at q5 (i := 1) rfl).cell
  have HF := Lib.hid q5
  clear q5 q4 hS4 hS5 k1 g1
  go_wp2
  refine bodyPost_ret (v := .tuple #[.agg (stC h3 S), .bool (r == 0)]) (by simp [*, results, Try.results15, go_sem]) rfl ⟨h3, by rw [← HE.out]; rfl, OB.rest HF.out⟩
end Go.Proofs.Ytopkcaflmpjhgaa

