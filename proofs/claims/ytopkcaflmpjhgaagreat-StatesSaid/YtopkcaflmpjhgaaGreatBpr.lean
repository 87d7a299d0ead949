
/- Put together: Par, Par2, Par3, Par4, Par5, Par6. Conditions: each theorem's own. -/
import Derived.Test.YtopkcaflmpjhgaaGreatBpa
import Derived.LoopN
namespace Go.Proofs.YtopkcaflmpjhgaaGreat
open Go Go.RowKit

theorem patick (x : Int) (r : Bool) (h : r = (decide (0 ≤ x) && decide (x ≤ 1048575))) (w : World) : Calls Tryz.prog 89 #[.int .i64 x] w fun e w' => e = .returned (.bool r) ∧ w = w' := by
  subst h
  go_enter Tryz.func89, Tryz.ntmps89
  go_wp2
  all_goals (go_ret; refine ⟨?_, rfl⟩; congr 2; simp [*] <;> omega)
theorem poAll_take {es : List Pa} {k : Nat} (hk : k < es.length) : (es.take (k + 1)).all Pa.may = ((es.take k).all Pa.may && (es.getD k .none).may) := by
  rw [List.take_succ_eq_append_getElem hk, List.all_append]
  simp [List.getD, hk]
set_option maxRecDepth 100000 in
set_option maxHeartbeats 8000000 in
theorem rpoolmay {w : World} {ao : Option Addr} {n cap : Nat} {es : List Pa} (hes : PaIn [] w ao n es) (x : Int) :
    Calls Tryz.prog 87 #[.slice ao n cap, .int .i64 x] w fun e w' => e = .returned (.bool (poMay es && poUser x)) ∧ Below w.heap.size w w' := by
  obtain ⟨hlen, hrow, hfew⟩ := hes
  have hb0 := Below.refl w.heap.size w
  have HR := Lib.hid hrow
  have HL := Lib.hid hlen
  clear hrow hlen
  go_enter Tryz.func87, Tryz.ntmps87
  go_wp2
  go_loopw [5] (fun i wr => ∃ k : Nat, k ≤ n ∧ i = .int .i64 (k : Int) ∧ (es.take k).all Pa.may = true ∧ Below w.heap.size w wr) (fun i _ => n - (intOf i).toNat)
  case atStart => exact ⟨0, Nat.zero_le _, rfl, rfl, hb0⟩
  case round =>
    clear hb0
    obtain ⟨k, hk, rfl, hall, hb⟩ := hrel
    by_cases hlt : k < n
    · obtain ⟨b, off, rfl, hat, _, hlb⟩ : ∃ b off, ao = some ⟨b, off, none⟩ ∧ PaAt w b off es ∧ b ∉ ([] : List Nat) ∧ b < w.heap.size := by
        rcases HR.out with c | c
        · omega
        · exact c
      have hke : k < es.length := by rw [← HL.out]; exact hlt
      obtain ⟨c0, c1, c2⟩ := (hat.same (hb.block b hlb)).elem hke
      have htk := poAll_take hke
      have HMAY := Lib.hid (fun (h : (es.getD k .none).may = false) => show poMay es = false from by
        rw [Bool.eq_false_iff]
        intro c
        have h3 := ((poMay_iff es).1 c).2.2 (es.getD k .none) (by rw [List.getD, List.getElem?_eq_getElem hke]; exact List.getElem_mem _)
        rw [h] at h3
        cases h3)
      obtain ⟨a, ha⟩ : ∃ a, es.getD k Pa.none = a := ⟨_, rfl⟩
      rw [ha] at c0 c1 c2 htk HMAY
      rw [hall, Bool.true_and] at htk
      have HT := Lib.hid htk
      have HB := Lib.hid hb
      clear ha hat htk hke hall hlb
      cases hm : a.may with
      | true =>
        obtain ⟨m1, m2, m3⟩ := (Pa.may_iff a).1 hm
        have HM := Lib.hid hm
        clear hm
        go_wp2
        go_roundw
        case rel => exact ⟨k + 1, by omega, by go_num, by rw [HT.out, HM.out], HB.out⟩
        case measure => simp [intOf]; omega
      | false =>
        have hcase : a.l < -1 ∨ (-1 ≤ a.l ∧ 8 ≤ a.l) ∨ (-1 ≤ a.l ∧ a.l < 8 ∧ a.u < 0) := by
          by_cases h1 : -1 ≤ a.l
          · by_cases h2 : a.l < 8
            · by_cases h3 : 0 ≤ a.u
              · rw [(Pa.may_iff a).2 ⟨h1, h2, h3⟩] at hm; cases hm
              · exact .inr (.inr ⟨h1, h2, by omega⟩)
            · exact .inr (.inl ⟨h1, by omega⟩)
          · exact .inl (by omega)
        have HF := Lib.hid (HMAY.out hm)
        clear hm
        rcases hcase with h1 | ⟨h1, h2⟩ | ⟨h1, h2, h3⟩
        all_goals
          go_wp2
          go_ret
          exact ⟨by rw [HF.out, Bool.false_and]; rfl, HB.out⟩
    · obtain rfl : k = n := by omega
      have hV : poMay es = (decide (1 ≤ k) && decide (k ≤ 16)) := by
        have h2 : es.all Pa.may = true := by rw [← hall, HL.out, List.take_length]
        unfold poMay
        rw [h2, Bool.and_true, HL.out]
      have HV := Lib.hid hV
      clear hlt hk hall hV
      go_wp2
      all_goals (go_ret; refine ⟨?_, hb⟩; rw [HV.out]; unfold poUser; congr 2; simp [*] <;> omega)
/-- The cells of one of them, in every world that follows. -/
theorem PaIn.elem {w : World} {ao : Option Addr} {n : Nat} {es : List Pa} (h : PaIn [] w ao n es) {k : Nat} (hk : k < n) : ∃ b off a, ao = some ⟨b, off, none⟩ ∧ es.getD k Pa.none = a ∧ ∀ W, Below w.heap.size w W → W.cell? ⟨b, off + k * 3, none⟩ = some (.bool a.b) ∧ W.cell? ⟨b, off + k * 3 + 1, none⟩ = some (.int .i64 a.l) ∧ W.cell? ⟨b, off + k * 3 + 2, none⟩ = some (.int .i64 a.u) := by
  obtain ⟨hlen, hrow, _⟩ := h
  rcases hrow with c | ⟨b, off, rfl, hat, _, hlb⟩
  · omega
  · exact ⟨b, off, _, rfl, rfl, fun W hW => (hat.same (hW.block b hlb)).elem (by rw [← hlen]; exact hk)⟩
theorem poWalk_take {es : List Pa} {k : Nat} (hk : k < es.length) (x t : Int) : poWalk x t (es.take (k + 1)) = poStep x t (poWalk x t (es.take k)) (es.getD k .none) := by
  rw [List.take_succ_eq_append_getElem hk, poWalk_snoc]
  simp [List.getD, hk]
end Go.Proofs.YtopkcaflmpjhgaaGreat

namespace Go.Proofs.YtopkcaflmpjhgaaGreat
open Go Go.RowKit

theorem paCells_set (es : List Pa) {k : Nat} (hk : k < es.length) (a : Pa) : paCells (es.set k a) = (((paCells es).set (k * 3) (.bool a.b)).set (k * 3 + 1) (.int .i64 a.l)).set (k * 3 + 2) (.int .i64 a.u) := by
  induction es generalizing k with
  | nil => cases hk
  | cons e es ih =>
    cases k with
    | zero => simp [paCells, Pa.cs]
    | succ k =>
      rw [List.set_cons_succ, paCells, paCells, ih (by simpa using hk), show (k + 1) * 3 = k * 3 + 3 by omega]
      simp [Pa.cs]
section
variable {w0 w : World} {C : Ass}
/-- A row's block, known whole; and back. -/
theorem At.paOwn {g cap n : Nat} {es : List Pa} (h : At w0 ((rowE TPa 3 (.slice (some ⟨g, 0, Option.none⟩) n cap) es.length (paCells es)).star C) w) : ∃ cur : Array Value, cur.toList.take (es.length * 3) = paCells es ∧ cur.size = cap * 3 ∧ es.length ≤ cap ∧ cap ≤ maxLen ∧ n = es.length ∧ At w0 ((ownA g cur TPa).star C) w := by
  obtain ⟨F, ⟨F1, F2, rfl, ⟨h1, rfl⟩, g2, g3⟩, hB, hb⟩ := h
  rcases h1.2 with ⟨e, _⟩ | ⟨g', c, cur, e, _, hg, hle, hmx, hsz, htk⟩
  · simp at e
  · obtain ⟨rfl, rfl, rfl⟩ : g = g' ∧ n = es.length ∧ cap = c := by simpa using e
    exact ⟨cur, htk, hsz, hle, hmx, rfl, [g] ++ F2, ⟨[g], F2, rfl, ⟨hg, rfl⟩, g2, fun k hk => g3 k (by simpa [Value.ownBlock] using hk)⟩, fun k hk => hB k (by simpa [Value.ownBlock] using hk), hb⟩
theorem At.paRow {g cap : Nat} {es : List Pa} {cur : Array Value} (h : At w0 ((ownA g cur TPa).star C) w) (h1 : cur.toList.take (es.length * 3) = paCells es) (h2 : cur.size = cap * 3) (h3 : es.length ≤ cap) (h4 : cap ≤ maxLen) : At w0 ((rowE TPa 3 (.slice (some ⟨g, 0, Option.none⟩) es.length cap) es.length (paCells es)).star C) w := by
  obtain ⟨F, ⟨F1, F2, rfl, ⟨hg, rfl⟩, g2, g3⟩, hB, hb⟩ := h
  exact ⟨[g] ++ F2, ⟨[g], F2, rfl, ⟨⟨paCells_len es, .inr ⟨g, cap, cur, rfl, Nat.zero_le _, hg, h3, h4, h2, h1⟩⟩, rfl⟩, g2, g3⟩, hB, hb⟩
/-- One of them is set, cell by cell. -/
theorem At.paSet (hC : C.Good) {g cap n : Nat} {es : List Pa} (h : At w0 ((rowE TPa 3 (.slice (some ⟨g, 0, Option.none⟩) n cap) es.length (paCells es)).star C) w) {k : Nat} (hk : k < es.length) (a : Pa) :
    (w.cell? ⟨g, k * 3, Option.none⟩ = some (.bool (es.getD k .none).b) ∧ w.cell? ⟨g, k * 3 + 1, Option.none⟩ = some (.int .i64 (es.getD k .none).l) ∧ w.cell? ⟨g, k * 3 + 2, Option.none⟩ = some (.int .i64 (es.getD k .none).u)) ∧ (∀ i, w.frozen? ⟨g, i, Option.none⟩ = false) ∧
    At w0 ((rowE TPa 3 (.slice (some ⟨g, 0, Option.none⟩) n cap) (es.set k a).length (paCells (es.set k a))).star C) (((w.setCell ⟨g, k * 3, Option.none⟩ (.bool a.b)).setCell ⟨g, k * 3 + 1, Option.none⟩ (.int .i64 a.l)).setCell ⟨g, k * 3 + 2, Option.none⟩ (.int .i64 a.u)) := by
  obtain ⟨hat, _⟩ := paAt_row h
  have hel := hat.elem hk
  simp only [Nat.zero_add] at hel
  obtain ⟨cur, c1, c2, c3, c4, rfl, hO⟩ := h.paOwn
  refine ⟨hel, hO.own.2.1, ?_⟩
  have hP := ((hO.poke hC (k * 3) (.bool a.b)).poke hC (k * 3 + 1) (.int .i64 a.l)).poke hC (k * 3 + 2) (.int .i64 a.u)
  have := hP.paRow (es := es.set k a) (cap := cap) (by
    rw [paCells_set es hk, List.length_set, ← c1]
    simp [List.take_set]) (by simp [c2]) (by simpa using c3) c4
  rw [List.length_set] at this ⊢
  exact this
end
/-- A copy behind an empty row of one's own. -/
theorem pa_clone {w W : World} {C : Ass} (hC : C.Good) {ao : Option Addr} {n cap : Nat} {es : List Pa} (hes : PaIn [] w ao n es) (hn : n ≤ 5864062014800) (h1n : 1 ≤ n) (hA : At w C W) : ∃ g c2 w2, (Builtin.append_ #[26, 26] 26 #[.slice (some ⟨W.heap.size, 0, Option.none⟩) 0 0, .slice ao n cap]).run Tryz.prog (W.alloc (.cells #[] TPa)) = .ok (.slice (some ⟨g, 0, Option.none⟩) n c2) w2 ∧ At w ((rowE TPa 3 (.slice (some ⟨g, 0, Option.none⟩) n c2) es.length (paCells es)).star C) w2 := by
  obtain ⟨hlen, hrow, _⟩ := (hes.tn (Tn.ofBelow hA.bel [])).tn ((Tn.refl [] W).alloc (.cells #[] TPa))
  subst hlen
  have h0 : At w ((rowE TPa 3 (.slice (some ⟨W.heap.size, 0, Option.none⟩) 0 0) ([] : List Pa).length (paCells [])).star C) (W.alloc (.cells #[] TPa)) := 
    (At.hold hC hA #[] TPa).paRow (es := []) (cap := 0) rfl rfl (Nat.le_refl _) (by decide)
  obtain ⟨b, off, e, h1⟩ : ∃ b off, ao = some ⟨b, off, none⟩ ∧ PaAt (W.alloc (.cells #[] TPa)) b off es := by
    rcases hrow with c | ⟨b, off, e, h1, _⟩
    · omega
    · exact ⟨b, off, e, h1⟩
  obtain ⟨v', w2, k1, k2, k3, k4, k5⟩ := pa_runApp (es := es) 26 [] h0.erow ao es.length cap rfl (by simp; omega) (.inr ⟨b, off, e, h1⟩)
  rw [show ([] : List Pa).length + es.length = es.length by simp, show paCells [] ++ paCells es = paCells es from rfl] at k2
  have hS := h0.appendedE (v' := v') (m := es.length) (ys := paCells es) hC k3 k2 (by
    rcases k5 with c | c
    · exact .inl c
    · exact .inr ⟨(W.alloc (.cells #[] TPa)).heap.size, Nat.le_refl _, c⟩)
  obtain ⟨a2, c2, rfl⟩ := rowE_shape k2
  obtain ⟨g, rfl, _, _⟩ := pa_big hS h1n
  exact ⟨g, c2, w2, k1, hS⟩
end Go.Proofs.YtopkcaflmpjhgaaGreat

namespace Go.Proofs.YtopkcaflmpjhgaaGreat
open Go Go.RowKit

set_option maxRecDepth 100000 in
set_option maxHeartbeats 1000000 in
theorem rwith {w : World} {ao : Option Addr} {n cap : Nat} {es : List Pa} (hes : PaIn [] w ao n es) (hn : n ≤ 5864062014800) {k : Nat} (hk : k < es.length) (vb : Bool) (vl vu : Int) :
    Calls Tryz.prog 88 #[.slice ao n cap, .int .i64 k, .agg #[.bool vb, .int .i64 vl, .int .i64 vu]] w fun e w' => ∃ a2 c2, e = .returned (.slice a2 n c2) ∧ At w ((rowE TPa 3 (.slice a2 n c2) es.length (paCells (es.set k ⟨vb, vl, vu⟩))).star emp) w' := by
  have hlen := hes.len
  have hB : At w ((ownA w.heap.size #[.bool vb, .int .i64 vl, .int .i64 vu] TPa).star emp) (w.alloc (.cells #[.bool vb, .int .i64 vl, .int .i64 vu] TPa)) := At.hold emp_good (At.none (Below.refl w.heap.size w)) _ _
  have hG : ((ownA w.heap.size #[.bool vb, .int .i64 vl, .int .i64 vu] TPa).star emp).Good := (ownA_good _ _ _).star emp_good
  have hr := pa_clone (cap := cap) hG hes hn (by omega) hB
  rw [show (w.alloc (.cells #[.bool vb, .int .i64 vl, .int .i64 vu] TPa)).heap.size = w.heap.size + 1 by simp] at hr
  have HR := Lib.hid hr
  have HSET := Lib.hid (fun (w1 : World) (g c2 : Nat) (h : At w ((rowE TPa 3 (.slice (some ⟨g, 0, Option.none⟩) n c2) es.length (paCells es)).star ((ownA w.heap.size #[.bool vb, .int .i64 vl, .int .i64 vu] TPa).star emp)) w1) => And.intro (h.paSet hG hk ⟨vb, vl, vu⟩) h.drop.own)
  have hkI : (k : Int) < (n : Int) := by omega
  clear hes hlen hB hG hr
  generalize es.getD k Pa.none = z at HSET
  go_enter Tryz.func88, Tryz.ntmps88
  go_wp2_with (at_builtin; obtain ⟨g, c2, w2, hrun, hS⟩ := HR.out; refine pa_app rfl _ _ rfl rfl rfl hrun ?_; obtain ⟨⟨⟨x0, x1, x2⟩, xf, xS⟩, ⟨y, yf, -⟩⟩ := HSET.out _ _ _ hS; have f0 := xf (k * 3); have f1 := xf (k * 3 + 1); have f2 := xf (k * 3 + 2); have y0 := y 0; have y1 := y 1; have y2 := y 2; have HX := Lib.hid xS; clear xS xf hS hrun y yf)
  go_ret
  refine ⟨_, _, rfl, ?_⟩
  have h := (HX.out.imp (Ass.imp.swap _ _ _)).drop
  rw [List.length_set] at h
  exact h
end Go.Proofs.YtopkcaflmpjhgaaGreat

namespace Go.Proofs.YtopkcaflmpjhgaaGreat
open Go Go.RowKit

/-- A row of one's own, a number beside it. -/
def PaOut (w : World) (es : List Pa) (n : Int) (e : Ending) (w' : World) : Prop := ∃ a2 c2, e = .returned (.tuple #[.slice a2 es.length c2, .int .i64 n]) ∧ At w ((rowE TPa 3 (.slice a2 es.length c2) es.length (paCells es)).star emp) w'
theorem PaOut.no {w w' : World} (h : Below w.heap.size w w') (n : Int) : PaOut w [] n (.returned (.tuple #[.slice none 0 0, .int .i64 n])) w' := ⟨none, 0, rfl, At.erow0 TPa 3 (At.none h)⟩
set_option maxRecDepth 100000 in
set_option maxHeartbeats 2000000 in
theorem rtake {w : World} {ao : Option Addr} {n cap : Nat} {es : List Pa} (hes : PaIn [] w ao n es) (hn : n ≤ 5864062014800) (k x : Int) :
    Calls Tryz.prog 64 #[.slice ao n cap, .int .i64 k, .int .i64 x] w (PaOut w (ptL es k x) (ptE es k x)) := by
  have hM := rpoolmay (cap := cap) hes x
  have hlen := hes.len
  cases ho : ptOk es k x with
  | true =>
    obtain ⟨h1, h2, h3, h4, h5⟩ : poMay es = true ∧ poUser x = true ∧ 0 ≤ k ∧ k < es.length ∧ (es.getD k.toNat .none).b = false := by simpa [ptOk, and_assoc] using ho
    obtain ⟨j, rfl⟩ := Int.eq_ofNat_of_zero_le h3
    rw [h1, h2] at hM
    have hj : j < es.length := by omega
    obtain ⟨b, off, a, rfl, ha, hcell⟩ := hes.elem (k := j) (by omega)
    rw [Int.toNat_natCast, ha] at h5
    have HC := Lib.hid hcell
    have HW := Lib.hid (fun w1 (hb : Below w.heap.size w w1) => rwith (cap := cap) (hes.tn (Tn.ofBelow hb [])) hn hj true x 0)
    have HM := Lib.hid hM
    have hjI : (j : Int) < (n : Int) := by omega
    have HE := Lib.hid (show ptL es (j : Int) x = es.set j ⟨true, x, 0⟩ ∧ ptE es (j : Int) x = 0 from by unfold ptL ptE; rw [if_pos ho, if_pos ho]; exact ⟨rfl, rfl⟩)
    have HL := Lib.hid hlen
    clear hM hlen ho h1 h2 h3 h4 hes hcell ha hj
    go_enter Tryz.func64, Tryz.ntmps64
    go_wp2_with (first
      | (go_at_call 87; (with_reducible refine HM.out.mono ?_); rintro r w1 ⟨rfl, hb0⟩; obtain ⟨c0, c1, c2⟩ := HC.out _ hb0; have HB := Lib.hid hb0; clear hb0)
      | (go_at_call 88; (with_reducible refine (HW.out _ HB.out).mono ?_); rintro r w2 ⟨a2, cc, rfl, hS⟩))
    go_ret2
    rw [HE.out.1, HE.out.2]
    refine ⟨a2, cc, by rw [List.length_set, ← HL.out]; rfl, ?_⟩
    rw [List.length_set, ← HL.out]
    rw [← HL.out] at hS
    exact At.under HB.out hS
  | false =>
    rw [show ptL es k x = [] by unfold ptL; rw [ho]; rfl, show ptE es k x = 1600 by unfold ptE; rw [ho]; rfl]
    have hcase : (poMay es && poUser x) = false ∨ ((poMay es && poUser x) = true ∧ k < 0) ∨ ((poMay es && poUser x) = true ∧ 0 ≤ k ∧ n ≤ k) ∨ ((poMay es && poUser x) = true ∧ ∃ j : Nat, k = j ∧ j < n ∧ (es.getD j .none).b = true) := by
      cases h1 : (poMay es && poUser x) with
      | false => exact .inl rfl
      | true =>
        right
        by_cases h2 : k < 0
        · exact .inl ⟨rfl, h2⟩
        · by_cases h3 : (n : Int) ≤ k
          · exact .inr (.inl ⟨rfl, by omega, h3⟩)
          · obtain ⟨j, rfl⟩ := Int.eq_ofNat_of_zero_le (show 0 ≤ k by omega)
            refine .inr (.inr ⟨rfl, j, rfl, by omega, ?_⟩)
            unfold ptOk at ho
            rw [h1, show decide ((0 : Int) ≤ (j : Int)) = true from decide_eq_true (by omega), show decide ((j : Int) < (es.length : Int)) = true from decide_eq_true (by omega)] at ho
            simpa using ho
    clear ho
    rcases hcase with h1 | ⟨h1, h2⟩ | ⟨h1, h2, h3⟩ | ⟨h1, j, rfl, h2, h3⟩
    · rw [h1] at hM
      have HM := Lib.hid hM
      clear hM hlen h1 hes
      go_enter Tryz.func64, Tryz.ntmps64
      go_wp2_with (go_at_call 87; (with_reducible refine HM.out.mono ?_); rintro r w1 ⟨rfl, hb0⟩)
      go_ret2
      exact PaOut.no hb0 _
    · rw [h1] at hM
      have HM := Lib.hid hM
      clear hM hlen h1 hes
      go_enter Tryz.func64, Tryz.ntmps64
      go_wp2_with (go_at_call 87; (with_reducible refine HM.out.mono ?_); rintro r w1 ⟨rfl, hb0⟩)
      go_ret2
      exact PaOut.no hb0 _
    · rw [h1] at hM
      have HM := Lib.hid hM
      clear hM hlen h1 hes
      go_enter Tryz.func64, Tryz.ntmps64
      go_wp2_with (go_at_call 87; (with_reducible refine HM.out.mono ?_); rintro r w1 ⟨rfl, hb0⟩)
      go_ret2
      exact PaOut.no hb0 _
    · rw [h1] at hM
      obtain ⟨b, off, a, rfl, ha, hcell⟩ := hes.elem (k := j) h2
      rw [ha] at h3
      have HC := Lib.hid hcell
      have HM := Lib.hid hM
      have hjI : (j : Int) < (n : Int) := by omega
      clear hM hlen h1 hes hcell ha h2
      go_enter Tryz.func64, Tryz.ntmps64
      go_wp2_with (go_at_call 87; (with_reducible refine HM.out.mono ?_); rintro r w1 ⟨rfl, hb0⟩; obtain ⟨c0, c1, c2⟩ := HC.out _ hb0)
      go_ret2
      exact PaOut.no hb0 _
end Go.Proofs.YtopkcaflmpjhgaaGreat

namespace Go.Proofs.YtopkcaflmpjhgaaGreat
open Go Go.RowKit

set_option maxRecDepth 100000 in
set_option maxHeartbeats 2000000 in
theorem rfree {w : World} {ao : Option Addr} {n cap : Nat} {es : List Pa} (hes : PaIn [] w ao n es) (hn : n ≤ 5864062014800) (k x : Int) :
    Calls Tryz.prog 63 #[.slice ao n cap, .int .i64 k, .int .i64 x] w (PaOut w (pfL es k x) (pfE es k x)) := by
  have hM := rpoolmay (cap := cap) hes 0
  rw [show poUser 0 = true from rfl, Bool.and_true] at hM
  have hlen := hes.len
  cases ho : pfOk es k x with
  | true =>
    obtain ⟨h1, h3, h4, h5, h6⟩ : poMay es = true ∧ 0 ≤ k ∧ k < es.length ∧ (es.getD k.toNat .none).b = true ∧ 0 ≤ x := by simpa [pfOk, and_assoc] using ho
    obtain ⟨j, rfl⟩ := Int.eq_ofNat_of_zero_le h3
    rw [h1] at hM
    have hj : j < es.length := by omega
    obtain ⟨b, off, a, rfl, ha, hcell⟩ := hes.elem (k := j) (by omega)
    rw [Int.toNat_natCast, ha] at h5
    have HC := Lib.hid hcell
    have HW := Lib.hid (fun w1 (hb : Below w.heap.size w w1) => rwith (cap := cap) (hes.tn (Tn.ofBelow hb [])) hn hj false a.l x)
    have HM := Lib.hid hM
    have hjI : (j : Int) < (n : Int) := by omega
    have HE := Lib.hid (show pfL es (j : Int) x = es.set j ⟨false, a.l, x⟩ ∧ pfE es (j : Int) x = 0 from by unfold pfL pfE; rw [if_pos ho, if_pos ho, Int.toNat_natCast, ha]; exact ⟨rfl, rfl⟩)
    have HL := Lib.hid hlen
    clear hM hlen ho h1 h3 h4 hes hcell ha hj
    go_enter Tryz.func63, Tryz.ntmps63
    go_wp2_with (first
      | (go_at_call 87; (with_reducible refine HM.out.mono ?_); rintro r w1 ⟨rfl, hb0⟩; obtain ⟨c0, c1, c2⟩ := HC.out _ hb0; have HB := Lib.hid hb0; clear hb0)
      | (go_at_call 88; (with_reducible refine (HW.out _ (HB.out.alloc HB.out.size _)).mono ?_); rintro r w2 ⟨a2, cc, rfl, hS⟩))
    go_ret2
    rw [HE.out.1, HE.out.2]
    refine ⟨a2, cc, by rw [List.length_set, ← HL.out]; rfl, ?_⟩
    rw [List.length_set, ← HL.out]
    rw [← HL.out] at hS
    exact At.under (HB.out.alloc HB.out.size _) hS
  | false =>
    rw [show pfL es k x = [] by unfold pfL; rw [ho]; rfl, show pfE es k x = 1600 by unfold pfE; rw [ho]; rfl]
    have hcase : poMay es = false ∨ (poMay es = true ∧ k < 0) ∨ (poMay es = true ∧ 0 ≤ k ∧ n ≤ k) ∨ (poMay es = true ∧ ∃ j : Nat, k = j ∧ j < n ∧ ((es.getD j .none).b = false ∨ (es.getD j .none).b = true ∧ x < 0)) := by
      cases h1 : poMay es with
      | false => exact .inl rfl
      | true =>
        right
        by_cases h2 : k < 0
        · exact .inl ⟨rfl, h2⟩
        · by_cases h3 : (n : Int) ≤ k
          · exact .inr (.inl ⟨rfl, by omega, h3⟩)
          · obtain ⟨j, rfl⟩ := Int.eq_ofNat_of_zero_le (show 0 ≤ k by omega)
            refine .inr (.inr ⟨rfl, j, rfl, by omega, ?_⟩)
            unfold pfOk at ho
            rw [h1, show decide ((0 : Int) ≤ (j : Int)) = true from decide_eq_true (by omega), show decide ((j : Int) < (es.length : Int)) = true from decide_eq_true (by omega)] at ho
            by_cases hx : 0 ≤ x
            · left; simpa [hx] using ho
            · cases hb : (es.getD j .none).b with
              | false => exact .inl rfl
              | true => exact .inr ⟨rfl, by omega⟩
    clear ho
    rcases hcase with h1 | ⟨h1, h2⟩ | ⟨h1, h2, h3⟩ | ⟨h1, j, rfl, h2, h3⟩
    · rw [h1] at hM
      have HM := Lib.hid hM
      clear hM hlen h1 hes
      go_enter Tryz.func63, Tryz.ntmps63
      go_wp2_with (go_at_call 87; (with_reducible refine HM.out.mono ?_); rintro r w1 ⟨rfl, hb0⟩)
      go_ret2
      exact PaOut.no hb0 _
    · rw [h1] at hM
      have HM := Lib.hid hM
      clear hM hlen h1 hes
      go_enter Tryz.func63, Tryz.ntmps63
      go_wp2_with (go_at_call 87; (with_reducible refine HM.out.mono ?_); rintro r w1 ⟨rfl, hb0⟩)
      go_ret2
      exact PaOut.no hb0 _
    · rw [h1] at hM
      have HM := Lib.hid hM
      clear hM hlen h1 hes
      go_enter Tryz.func63, Tryz.ntmps63
      go_wp2_with (go_at_call 87; (with_reducible refine HM.out.mono ?_); rintro r w1 ⟨rfl, hb0⟩)
      go_ret2
      exact PaOut.no hb0 _
    · rw [h1] at hM
      obtain ⟨b, off, a, rfl, ha, hcell⟩ := hes.elem (k := j) h2
      rw [ha] at h3
      have HC := Lib.hid hcell
      have HM := Lib.hid hM
      have hjI : (j : Int) < (n : Int) := by omega
      clear hM hlen h1 hes hcell ha h2
      rcases h3 with h3 | ⟨h3, h4⟩
      all_goals
        go_enter Tryz.func63, Tryz.ntmps63
        go_wp2_with (go_at_call 87; (with_reducible refine HM.out.mono ?_); rintro r w1 ⟨rfl, hb0⟩; obtain ⟨c0, c1, c2⟩ := HC.out _ hb0)
        go_ret2
        exact PaOut.no hb0 _
end Go.Proofs.YtopkcaflmpjhgaaGreat

namespace Go.Proofs.YtopkcaflmpjhgaaGreat
open Go Go.RowKit

def paNew : Pa := ⟨false, -1, 0⟩
set_option maxRecDepth 100000 in
set_option maxHeartbeats 2000000 in
theorem rnewpool (m : Int) (w : World) : Calls Tryz.prog 18 #[.int .i64 m] w (PaOut w (pnL m) (pnE m)) := by
  have hb0 := Below.refl w.heap.size w
  cases ho : pnOk m with
  | false =>
    rw [show pnL m = [] by unfold pnL; rw [ho]; rfl, show pnE m = 1600 by unfold pnE; rw [ho]; rfl]
    have hcase : m < 1 ∨ (1 ≤ m ∧ 16 < m) := by
      unfold pnOk at ho
      by_cases h1 : 1 ≤ m
      · by_cases h2 : m ≤ 16
        · simp [h1, h2] at ho
        · exact .inr ⟨h1, by omega⟩
      · exact .inl (by omega)
    clear ho
    rcases hcase with h1 | ⟨h1, h2⟩
    all_goals
      go_enter Tryz.func18, Tryz.ntmps18
      go_wp2
      go_ret2
      exact PaOut.no hb0 _
  | true =>
    obtain ⟨h1, h2⟩ : 1 ≤ m ∧ m ≤ 16 := by simpa [pnOk] using ho
    obtain ⟨q, rfl⟩ := Int.eq_ofNat_of_zero_le (show 0 ≤ m by omega)
    have HE := Lib.hid (show pnL (q : Int) = List.replicate q paNew ∧ pnE (q : Int) = 0 from by unfold pnL pnE; rw [if_pos ho, if_pos ho]; exact ⟨rfl, rfl⟩)
    have hS0 := At.erow0 TPa 3 (At.none hb0)
    clear ho hb0
    go_enter Tryz.func18, Tryz.ntmps18
    go_wp2
    go_loopw [4, 5] (fun s i wr => ∃ (k : Nat) (ao : Option Addr) (cap : Nat), k ≤ q ∧ i = .int .i64 (k : Int) ∧ s = .slice ao k cap ∧ At w ((rowE TPa 3 (.slice ao k cap) (List.replicate k paNew).length (paCells (List.replicate k paNew))).star emp) wr) (fun _ i _ => q - (intOf i).toNat)
    case atStart => exact ⟨0, none, 0, Nat.zero_le _, rfl, rfl, hS0⟩
    case round =>
      clear hS0
      obtain ⟨k, ao, cap, hk, rfl, rfl, hS⟩ := hrel
      by_cases hlt : k < q
      · have hltI : (k : Int) < (q : Int) := by omega
        have hfew : (List.replicate k paNew).length + 1 ≤ 5864062014805 := by rw [List.length_replicate]; omega
        have HS := Lib.hid hS
        clear hS hk
        go_wp2_with (at_builtin; refine pa_appLit emp_good rfl _ _ rfl ao k cap (List.replicate k paNew) [paNew] 1 rfl rfl rfl rfl HS.out hfew ?_; intro a3 c3 w3 hS3; have H3 := Lib.hid hS3; clear hS3)
        go_round
        case rel => exact ⟨k + 1, a3, c3, by omega, by go_num, rfl, by rw [List.replicate_succ']; exact H3.out⟩
        case measure => simp [intOf]; omega
      · obtain rfl : k = q := by omega
        have hltI : ¬ (k : Int) < (k : Int) := by omega
        have HS := Lib.hid hS
        clear hS hk
        go_wp2
        go_ret2
        rw [HE.out.1, HE.out.2]
        exact ⟨ao, cap, by rw [List.length_replicate]; rfl, by have h := HS.out; rw [List.length_replicate] at h ⊢; exact h⟩
end Go.Proofs.YtopkcaflmpjhgaaGreat

