
/- Put together: Pal, Pap1, Pap2, Pap3, Pap6. Conditions: each theorem's own. -/
import Derived.Test.YtopkcaflmpjhgaaGreatBpr
import Derived.Lib.SliceRun
import Derived.Test.YtopkcaflmpjhgaaGreatShelf
import Derived.Laws.CopyRow
import Derived.Deep.RegionWith
import Derived.Laws.MakeOwn
namespace Go.Proofs.YtopkcaflmpjhgaaGreat
open Go Go.RowKit

theorem At.paIn {w0 w : World} {C : Ass} {ao : Option Addr} {n cap : Nat} {es : List Pa} (h : At w0 ((rowE TPa 3 (.slice ao n cap) es.length (paCells es)).star C) w) (hn : n = es.length) (hf : es.length ≤ 1000) : PaIn [] w ao n es := by
  subst hn
  refine ⟨rfl, ?_, by omega⟩
  by_cases h0 : es.length = 0
  · exact .inl h0
  · obtain ⟨g, rfl, _, _⟩ := pa_big h (by omega)
    obtain ⟨h1, h2⟩ := paAt_row h
    exact .inr ⟨g, 0, rfl, h1, by simp, h2⟩
/-- What a call gave, read only. -/
def PaRd (w : World) (es : List Pa) (n : Int) (e : Ending) (w' : World) : Prop := ∃ a2 c2, e = .returned (.tuple #[.slice a2 es.length c2, .int .i64 n]) ∧ PaIn [] w' a2 es.length es ∧ Below w.heap.size w w'
theorem PaOut.rd {w w' : World} {es : List Pa} {n : Int} {e : Ending} (h : PaOut w es n e w') (hf : es.length ≤ 1000) : PaRd w es n e w' := by
  obtain ⟨a2, c2, rfl, hS⟩ := h
  exact ⟨a2, c2, rfl, hS.paIn rfl hf, hS.bel⟩
theorem PaIn.on {w W : World} {ao : Option Addr} {n : Nat} {es : List Pa} (h : PaIn [] w ao n es) (hb : Below w.heap.size w W) : PaIn [] W ao n es := h.tn (Tn.ofBelow hb [])
theorem poMay_len {es : List Pa} (h : poMay es = true) : es.length ≤ 16 := ((poMay_iff es).1 h).2.1
theorem ptL_len (es : List Pa) (k x : Int) : (ptL es k x).length ≤ 16 := by
  unfold ptL
  split
  · rename_i h
    rw [List.length_set]
    have h1 : poMay es = true := by
      unfold ptOk at h
      cases hm : poMay es with
      | true => rfl
      | false => rw [hm] at h; simp at h
    exact poMay_len h1
  · exact Nat.zero_le _
theorem pfL_len (es : List Pa) (k x : Int) : (pfL es k x).length ≤ 16 := by
  unfold pfL
  split
  · rename_i h
    rw [List.length_set]
    have h1 : poMay es = true := by
      unfold pfOk at h
      cases hm : poMay es with
      | true => rfl
      | false => rw [hm] at h; simp at h
    exact poMay_len h1
  · exact Nat.zero_le _
theorem pnL_len (n : Int) : (pnL n).length ≤ 16 := by
  unfold pnL
  split
  · rename_i h
    rw [List.length_replicate]
    obtain ⟨_, h2⟩ : 1 ≤ n ∧ n ≤ 16 := by simpa [pnOk] using h
    omega
  · exact Nat.zero_le _
end Go.Proofs.YtopkcaflmpjhgaaGreat

namespace Go.Proofs.YtopkcaflmpjhgaaGreat
open Go Go.RowKit

theorem psize (x : Int) (r : Bool) (h : r = (decide (1 ≤ x) && decide (x ≤ 16))) (w : World) : Calls Tryz.prog 39 #[.int .i64 x] w fun e w' => e = .returned (.bool r) ∧ w = w' := by
  subst h
  go_enter Tryz.func39, Tryz.ntmps39
  go_wp2
  all_goals (go_ret; refine ⟨?_, rfl⟩; congr 2; simp [*] <;> omega)
theorem puser (x : Int) (r : Bool) (h : r = poUser x) (w : World) : Calls Tryz.prog 97 #[.int .i64 x] w fun e w' => e = .returned (.bool r) ∧ w = w' := by
  unfold poUser at h
  subst h
  go_enter Tryz.func97, Tryz.ntmps97
  go_wp2
  all_goals (go_ret; refine ⟨?_, rfl⟩; congr 2; simp [*] <;> omega)
theorem phas (ao : Option Addr) (n cap : Nat) (x : Int) (r : Bool) (h : r = (decide (0 ≤ x) && decide (x < n))) (w : World) : Calls Tryz.prog 98 #[.slice ao n cap, .int .i64 x] w fun e w' => e = .returned (.bool r) ∧ w = w' := by
  subst h
  go_enter Tryz.func98, Tryz.ntmps98
  go_wp2
  all_goals (go_ret; refine ⟨?_, rfl⟩; congr 2; simp [*] <;> omega)
theorem poUser_of {l : Int} (h1 : -1 ≤ l) (h2 : l < 8) (h3 : ¬ l = -1) : poUser l = true := by
  rw [poUser_iff]; omega
set_option maxRecDepth 100000 in
set_option maxHeartbeats 8000000 in
theorem ppmay {w : World} {ao : Option Addr} {n cap : Nat} {es : List Pa} (hes : PaIn [] w ao n es) :
    Calls Tryz.prog 96 #[.slice ao n cap] w fun e w' => e = .returned (.bool (poMay es)) ∧ Below w.heap.size w w' := by
  have hb0 := Below.refl w.heap.size w
  have HL := Lib.hid hes.len
  have HE := Lib.hid (fun k (hk : k < n) => hes.elem (k := k) hk)
  have HU := Lib.hid (fun x r h w => puser x r h w)
  have hfew := hes.few
  by_cases hz : 1 ≤ n ∧ n ≤ 16
  · obtain ⟨z1, z2⟩ := hz
    have HZ := Lib.hid (fun w => psize (n : Int) true (by simp; omega) w)
    clear hes
    go_enter Tryz.func96, Tryz.ntmps96
    go_wp2_with (go_at_call 39; (with_reducible refine (HZ.out _).mono ?_); rintro e w1 ⟨rfl, rfl⟩)
    go_loopw [11] (fun i wr => ∃ k : Nat, k ≤ n ∧ i = .int .i64 (k : Int) ∧ (es.take k).all Pa.may = true ∧ Below w.heap.size w wr) (fun i _ => n - (intOf i).toNat)
    case atStart => exact ⟨0, Nat.zero_le _, rfl, rfl, hb0⟩
    case round =>
      clear hb0
      obtain ⟨k, hk, rfl, hall, hb⟩ := hrel
      by_cases hlt : k < n
      · obtain ⟨b, off, a, rfl, ha, hcell⟩ := HE.out k hlt
        obtain ⟨c0, c1, c2⟩ := hcell _ hb
        have hke : k < es.length := by rw [← HL.out]; exact hlt
        have htk := poAll_take hke
        have HMAY := Lib.hid (fun (h : (es.getD k .none).may = false) => show poMay es = false from by
          rw [Bool.eq_false_iff]
          intro c
          have h3 := ((poMay_iff es).1 c).2.2 (es.getD k .none) (by rw [List.getD, List.getElem?_eq_getElem hke]; exact List.getElem_mem _)
          rw [h] at h3
          cases h3)
        rw [ha] at htk HMAY
        rw [hall, Bool.true_and] at htk
        have HT := Lib.hid htk
        have HB := Lib.hid (fun cs => hb.alloc hb.size (.cells cs TPa))
        clear ha hcell htk hke hall hb
        cases hm : a.may with
        | true =>
          obtain ⟨m1, m2, m3⟩ := (Pa.may_iff a).1 hm
          have HM := Lib.hid hm
          clear hm
          by_cases e1 : a.l = -1
          · go_wp2
            go_roundw
            case rel => exact ⟨k + 1, by omega, by go_num, by rw [HT.out, HM.out], HB.out _⟩
            case measure => simp [intOf]; omega
          · go_wp2_with (go_at_call 97; (with_reducible refine (HU.out _ true (by rw [poUser_of m1 m2 e1]) _).mono ?_); rintro e w1 ⟨rfl, rfl⟩)
            go_roundw
            case rel => exact ⟨k + 1, by omega, by go_num, by rw [HT.out, HM.out], HB.out _⟩
            case measure => simp [intOf]; omega
        | false =>
          have hcase : (¬ a.l = -1 ∧ poUser a.l = false) ∨ (a.l = -1 ∧ a.u < 0) ∨ (¬ a.l = -1 ∧ poUser a.l = true ∧ a.u < 0) := by
            by_cases e1 : a.l = -1
            · by_cases h3 : 0 ≤ a.u
              · rw [(Pa.may_iff a).2 ⟨by omega, by omega, h3⟩] at hm; cases hm
              · exact .inr (.inl ⟨e1, by omega⟩)
            · cases hu : poUser a.l with
              | false => exact .inl ⟨e1, rfl⟩
              | true =>
                obtain ⟨u1, u2⟩ := (poUser_iff _).1 hu
                by_cases h3 : 0 ≤ a.u
                · rw [(Pa.may_iff a).2 ⟨by omega, u2, h3⟩] at hm; cases hm
                · exact .inr (.inr ⟨e1, rfl, by omega⟩)
          have HF := Lib.hid (HMAY.out hm)
          clear hm
          rcases hcase with ⟨h1, h2⟩ | ⟨h1, h2⟩ | ⟨h1, h2, h3⟩
          · go_wp2_with (go_at_call 97; (with_reducible refine (HU.out _ false h2.symm _).mono ?_); rintro e w1 ⟨rfl, rfl⟩)
            go_ret
            exact ⟨by rw [HF.out]; rfl, HB.out _⟩
          · go_wp2
            go_ret
            exact ⟨by rw [HF.out]; rfl, HB.out _⟩
          · go_wp2_with (go_at_call 97; (with_reducible refine (HU.out _ true h2.symm _).mono ?_); rintro e w1 ⟨rfl, rfl⟩)
            go_ret
            exact ⟨by rw [HF.out]; rfl, HB.out _⟩
      · obtain rfl : k = n := by omega
        have hV : poMay es = true := by
          have h2 : es.all Pa.may = true := by rw [← hall, HL.out, List.take_length]
          unfold poMay
          rw [h2, Bool.and_true, ← HL.out]
          simp; omega
        have HV := Lib.hid hV
        clear hlt hk hall hV
        go_wp2
        go_ret
        exact ⟨by rw [HV.out]; rfl, hb⟩
  · have HZ := Lib.hid (fun w => psize (n : Int) false (by by_cases h1 : 1 ≤ n <;> simp <;> omega) w)
    have HV := Lib.hid (show poMay es = false by
      unfold poMay
      rw [← hes.len]
      by_cases h1 : 1 ≤ n
      · rw [decide_eq_false (show ¬ n ≤ 16 by omega), Bool.and_false, Bool.false_and]
      · rw [decide_eq_false h1, Bool.false_and, Bool.false_and])
    clear hes hz
    go_enter Tryz.func96, Tryz.ntmps96
    go_wp2_with (go_at_call 39; (with_reducible refine (HZ.out _).mono ?_); rintro e w1 ⟨rfl, rfl⟩)
    go_ret
    exact ⟨by rw [HV.out]; rfl, hb0⟩
end Go.Proofs.YtopkcaflmpjhgaaGreat

namespace Go.Proofs.YtopkcaflmpjhgaaGreat
open Go Go.RowKit

set_option maxRecDepth 100000 in
set_option maxHeartbeats 1000000 in
/-- slices.Clone of a row that is not empty. -/
theorem psclone {w0 w : World} {C : Ass} (hC : C.Good) {ao : Option Addr} {n cap : Nat} {es : List Pa} (hes : PaIn [] w0 ao n es) (hn : n ≤ 5864062014800) (h1n : 1 ≤ n) (hA : At w0 C w) :
    Calls Tryz.prog 28 #[.slice ao n cap] w fun e w' => ∃ g c2, e = .returned (.slice (some ⟨g, 0, none⟩) n c2) ∧ At w0 ((rowE TPa 3 (.slice (some ⟨g, 0, none⟩) n c2) es.length (paCells es)).star C) w' := by
  have HR := Lib.hid (pa_clone (cap := cap) hC hes hn h1n hA)
  obtain ⟨b, off, rfl⟩ : ∃ b off, ao = some ⟨b, off, none⟩ := by
    rcases hes.row with c | ⟨b, off, e, _⟩
    · omega
    · exact ⟨b, off, e⟩
  have hq := Lib.run_eql_slice_nil (P := Tryz.prog) w 26 TPa (some ⟨b, off, none⟩) n cap 0 0 Tryz.underlying26
  clear hes hn h1n hA
  go_enter Tryz.func28, Tryz.ntmps28
  go_wp2_with (at_builtin; obtain ⟨g, c2, w2, hrun, hS⟩ := HR.out; refine pa_app rfl _ _ rfl rfl rfl hrun ?_)
  go_ret
  exact ⟨g, c2, rfl, hS⟩
set_option maxRecDepth 100000 in
set_option maxHeartbeats 1000000 in
theorem pwith {w : World} {ao : Option Addr} {n cap : Nat} {es : List Pa} (hes : PaIn [] w ao n es) (hn : n ≤ 5864062014800) {k : Nat} (hk : k < es.length) (vb : Bool) (vl vu : Int) :
    Calls Tryz.prog 99 #[.slice ao n cap, .int .i64 k, .agg #[.bool vb, .int .i64 vl, .int .i64 vu]] w fun e w' => ∃ a2 c2, e = .returned (.slice a2 n c2) ∧ At w ((rowE TPa 3 (.slice a2 n c2) es.length (paCells (es.set k ⟨vb, vl, vu⟩))).star emp) w' := by
  have hlen := hes.len
  have hB : At w ((ownA w.heap.size #[.bool vb, .int .i64 vl, .int .i64 vu] TPa).star emp) (w.alloc (.cells #[.bool vb, .int .i64 vl, .int .i64 vu] TPa)) := At.hold emp_good (At.none (Below.refl w.heap.size w)) _ _
  have hG : ((ownA w.heap.size #[.bool vb, .int .i64 vl, .int .i64 vu] TPa).star emp).Good := (ownA_good _ _ _).star emp_good
  have HR := Lib.hid (psclone (cap := cap) hG hes hn (by omega) hB)
  have HSET := Lib.hid (fun (w1 : World) (g c2 : Nat) (h : At w ((rowE TPa 3 (.slice (some ⟨g, 0, Option.none⟩) n c2) es.length (paCells es)).star ((ownA w.heap.size #[.bool vb, .int .i64 vl, .int .i64 vu] TPa).star emp)) w1) => And.intro (h.paSet hG hk ⟨vb, vl, vu⟩) h.drop.own)
  have hkI : (k : Int) < (n : Int) := by omega
  clear hes hlen hB hG
  generalize es.getD k Pa.none = z at HSET
  go_enter Tryz.func99, Tryz.ntmps99
  go_wp2_with (go_at_call 28; (with_reducible refine HR.out.mono ?_); rintro e w2 ⟨g, c2, rfl, hS⟩; obtain ⟨⟨⟨x0, x1, x2⟩, xf, xS⟩, ⟨y, yf, -⟩⟩ := HSET.out _ _ _ hS; have f0 := xf (k * 3); have f1 := xf (k * 3 + 1); have f2 := xf (k * 3 + 2); have y0 := y 0; have y1 := y 1; have y2 := y 2; have HX := Lib.hid xS; clear xS xf hS y yf)
  go_ret
  refine ⟨_, _, rfl, ?_⟩
  have h := (HX.out.imp (Ass.imp.swap _ _ _)).drop
  rw [List.length_set] at h
  exact h
end Go.Proofs.YtopkcaflmpjhgaaGreat

namespace Go.Proofs.YtopkcaflmpjhgaaGreat
open Go Go.RowKit

/-- 'copy(dst, src)' of elements of many cells into a row that is known whole. -/
theorem run_copy_many {P : Program} (w : World) (dT sT ty elem : TypeId) (g o dLen dCap : Nat) (a : Addr) (sLen sCap size k : Nat) (cur : Array Value) (t : TypeId) (cs : List Value)
    (hu : P.underlying dT = some (.slice elem)) (hs : (P.info? elem).map (·.size) = some size)
    (hg : w.heap[g]? = some (.cells cur t (0, 0))) (hk : Nat.min sLen dLen = k) (hn : cs.length = k * size)
    (hsrc : ∀ j v, cs[j]? = some v → w.cell? (a.add j) = some v) (hfit : o + cs.length ≤ cur.size) (h1 : ∀ v ∈ cs, v.oneCell' = true) :
    (Builtin.copy_ #[dT, sT] ty #[.slice (some ⟨g, o, none⟩) dLen dCap, .slice (some a) sLen sCap]).run P w =
      .ok (goInt k) (w.setRow g (cur.toList.take o ++ cs ++ cur.toList.drop (o + cs.length)).toArray) := by
  have hl := run_loadCells_list (P := P) w a cs hsrc
  have hst := run_storeCells_at P g o t cs 0 cur w hg (by simpa using hfit) h1
  cases hq : P.info? elem with
  | none => simp [hq] at hs
  | some i =>
    have hi : i.size = size := by simpa [hq] using hs
    rw [hn] at hl
    simp [Builtin.copy_, run_underlying hu, Builtin.lenOf, Builtin.firstCells, sizeOf, typeInfo, hq, hi, hk, hl, hst]
theorem At.setOwn {b : Nat} {c : Array Value} {T : TypeId} {C : Ass} {w0 w : World} (hC : C.Good) (h : At w0 ((ownA b c T).star C) w) (c2 : Array Value) : At w0 ((ownA b c2 T).star C) (w.setRow b c2) := by
  refine h.turn fun F hF => Becomes.left hC hF ?_
  rintro F1 ⟨h1, rfl⟩
  refine ⟨[b], ⟨setRow_heap w b c _ _ _ h1, rfl⟩, ⟨rfl, rfl, rfl, Nat.le_of_eq (setRow_size w b c2).symm, fun i _ hn => setRow_other w b i c2 (fun e => hn (by simp [e]))⟩, fun k hk => .inl hk⟩
theorem At.drewn {C : Ass} {w0 w : World} (h : At w0 C w) (hC : C.Good) : At w0 C w.drew := h.lay hC ⟨rfl, rfl, rfl, Nat.le_refl _, fun _ _ => rfl⟩
theorem At.heapOwn {b : Nat} {c : Array Value} {T : TypeId} {C : Ass} {w0 w : World} (h : At w0 ((ownA b c T).star C) w) : w.heap[b]? = some (.cells c T (0, 0)) := by
  obtain ⟨_, ⟨_, _, _, ⟨h, _⟩, _⟩, _⟩ := h
  exact h
/-- So many new ones, ahead of what was made. -/
def pnCur (m n : Nat) : List Value := paCells (List.replicate n paNew) ++ List.replicate ((m - n) * 3) (.int .i64 0)
def pnMade (m : Nat) : Array Value := madeCells #[.bool false, .int .i64 0, .int .i64 0] (m * 3)
theorem pnMade_size (m : Nat) : (pnMade m).size = m * 3 := by simp [pnMade, madeCells]
theorem pn_make (m : Nat) (h2 : m ≤ 5000) (W : World) : (Instr.makeSlice 26 (.int .i64 (m : Int)) (.int .i64 (m : Int))).run Tryz.prog W = .ok (.slice (some ⟨W.heap.size, 0, none⟩) m m) (W.alloc (.cells (pnMade m) TPa)) := by
  obtain ⟨i, hi, hz, hs, hb⟩ := info_parts pa_info
  have hr := run_make (P := Tryz.prog) W 26 TPa i (.agg #[.bool false, .int .i64 0, .int .i64 0]) Tryz.underlying26 hi hz .i64 .i64 m m (by omega) (Int.le_refl _) (by rw [hb]; omega) (by omega)
  rw [Int.toNat_natCast, hs] at hr
  exact hr
/-- The first n of a row's cells are new addresses. -/
def PnAt (cur : Array Value) (m n : Nat) : Prop := cur.size = m * 3 ∧ cur.toList.take (n * 3) = paCells (List.replicate n paNew)
theorem paRep_add (n k : Nat) : paCells (List.replicate n paNew) ++ paCells (List.replicate k paNew) = paCells (List.replicate (n + k) paNew) := by
  rw [← paCells_app, List.replicate_append_replicate]
theorem paRep_len (n : Nat) : (paCells (List.replicate n paNew)).length = n * 3 := by rw [paCells_len, List.length_replicate]
theorem PnAt.next {cur : Array Value} {m n k : Nat} (h : PnAt cur m n) (hk : n + k ≤ m) : PnAt (cur.toList.take (n * 3) ++ paCells (List.replicate k paNew) ++ cur.toList.drop (n * 3 + (paCells (List.replicate k paNew)).length)).toArray m (n + k) := by
  obtain ⟨h1, h2⟩ := h
  have hl : (paCells (List.replicate n paNew) ++ paCells (List.replicate k paNew)).length = (n + k) * 3 := by rw [List.length_append, paRep_len, paRep_len]; omega
  refine ⟨?_, ?_⟩
  · rw [h2]
    simp only [List.size_toArray, List.length_append, paRep_len, List.length_drop, Array.length_toList, h1]
    omega
  · rw [h2, List.toList_toArray, List.take_append_of_le_length (by omega), List.take_of_length_le (by omega), paRep_add]
theorem PnAt.src {cur : Array Value} {m n k : Nat} (h : PnAt cur m n) (hk : k ≤ n) {w : World} {g : Nat} {t : TypeId} (hg : w.heap[g]? = some (.cells cur t (0, 0))) : ∀ j v, (paCells (List.replicate k paNew))[j]? = some v → w.cell? ((⟨g, 0, none⟩ : Addr).add j) = some v := by
  intro j v hv
  have hj : j < k * 3 := by
    rcases Nat.lt_or_ge j (k * 3) with c | c
    · exact c
    · rw [List.getElem?_eq_none (by rw [paRep_len]; exact c)] at hv; cases hv
  have e : paCells (List.replicate n paNew) = paCells (List.replicate k paNew) ++ paCells (List.replicate (n - k) paNew) := by rw [paRep_add]; congr 2; omega
  rw [Addr.add_lit, Nat.zero_add, cell_of_row w g j _ t _ hg, ← Array.getElem?_toList, ← List.getElem?_take_of_lt (i := j) (j := n * 3) (by omega), h.2, e, List.getElem?_append_left (by rw [paRep_len]; exact hj)]
  exact hv
theorem PnAt.one (m : Nat) (h1 : 1 ≤ m) : PnAt ((pnMade m).toList.take (0 * 3) ++ paCells (List.replicate 1 paNew) ++ (pnMade m).toList.drop (0 * 3 + (paCells (List.replicate 1 paNew)).length)).toArray m 1 := by
  have := PnAt.next (cur := pnMade m) (m := m) (n := 0) (k := 1) ⟨pnMade_size m, by simp [paCells]⟩ (by omega)
  exact this
theorem pn_copy0 {W : World} {b off cap g m : Nat} (h1 : 1 ≤ m) (hx : PaIn [] W (some ⟨b, off, none⟩) 1 [paNew]) {cur : Array Value} (hg : W.heap[g]? = some (.cells cur TPa (0, 0))) (hs : cur.size = m * 3) (ty : TypeId) :
    (Builtin.copy_ #[26, 26] ty #[.slice (some ⟨g, 0, none⟩) m m, .slice (some ⟨b, off, none⟩) 1 cap]).run Tryz.prog W = .ok (.int .i64 1) (W.setRow g (cur.toList.take (0 * 3) ++ paCells (List.replicate 1 paNew) ++ cur.toList.drop (0 * 3 + (paCells (List.replicate 1 paNew)).length)).toArray) := by
  obtain ⟨i, hi, hz0, hz1, hz2⟩ := info_parts pa_info
  rcases hx.row with c | ⟨b', off', e, hat, _⟩
  · omega
  · obtain ⟨rfl, rfl⟩ : b = b' ∧ off = off' := by simpa using e
    exact run_copy_many (P := Tryz.prog) W _ _ ty TPa g 0 m m ⟨b, off, none⟩ 1 cap 3 1 cur TPa (paCells (List.replicate 1 paNew)) Tryz.underlying26 (by rw [hi, Option.map_some, hz1]) hg (Nat.min_eq_left h1) (by rw [paRep_len]) (fun j v hv => by rw [Addr.add_lit]; exact hat j v hv) (by rw [paRep_len, hs]; omega) (paCells_one _)
theorem pn_copy {W : World} {g m n : Nat} (h2 : n < m) {cur : Array Value} (hg : W.heap[g]? = some (.cells cur TPa (0, 0))) (hp : PnAt cur m n) (ty : TypeId) {k : Nat} (hk : Nat.min n (m - n) = k) (c1 c2 : Nat) :
    (Builtin.copy_ #[26, 26] ty #[.slice (some ⟨g, n * 3, none⟩) (m - n) c1, .slice (some ⟨g, 0, none⟩) n c2]).run Tryz.prog W = .ok (.int .i64 (k : Int)) (W.setRow g (cur.toList.take (n * 3) ++ paCells (List.replicate k paNew) ++ cur.toList.drop (n * 3 + (paCells (List.replicate k paNew)).length)).toArray) := by
  obtain ⟨i, hi, hz0, hz1, hz2⟩ := info_parts pa_info
  have hkn : k ≤ n := by rw [← hk]; exact Nat.min_le_left _ _
  have hkm : k ≤ m - n := by rw [← hk]; exact Nat.min_le_right _ _
  exact run_copy_many (P := Tryz.prog) W _ _ ty TPa g (n * 3) (m - n) c1 ⟨g, 0, none⟩ n c2 3 k cur TPa (paCells (List.replicate k paNew)) Tryz.underlying26 (by rw [hi, Option.map_some, hz1]) hg hk (by rw [paRep_len]) (hp.src hkn hg) (by rw [paRep_len, hp.1]; omega) (paCells_one _)
set_option maxRecDepth 100000 in
set_option maxHeartbeats 4000000 in
theorem prepeat (m : Nat) (h1 : 1 ≤ m) (h2 : m ≤ 16) {w : World} {b off cap : Nat} (hx : PaIn [] w (some ⟨b, off, none⟩) 1 [paNew]) :
    Calls Tryz.prog 40 #[.slice (some ⟨b, off, none⟩) 1 cap, .int .i64 (m : Int)] w fun e w' => ∃ g, e = .returned (.slice (some ⟨g, 0, none⟩) m m) ∧ At w ((rowE TPa 3 (.slice (some ⟨g, 0, none⟩) (List.replicate m paNew).length m) (List.replicate m paNew).length (paCells (List.replicate m paNew))).star emp) w' := by
  have hmk := pn_make m (by omega)
  have HB := Lib.hid (show ∀ W, Calls Tryz.prog 53 #[.int .u64 1, .int .u64 (m : Int)] W fun e w' => e = .returned (.tuple #[.int .u64 0, .int .u64 (m : Int)]) ∧ W = w' from fun W => (Tryz.bits_Mul 1 m (by decide) (by omega) W).mono fun e w' ⟨a, c⟩ => ⟨by rw [a, Nat.one_mul, Nat.div_eq_of_lt (by omega), Nat.mod_eq_of_lt (by omega)]; rfl, c.symm⟩)
  have hu : IntKind.u64.wrap (m : Int) = (m : Int) := by rw [IntKind.wrap_u64]; omega
  have hi : IntKind.i64.wrap (m : Int) = (m : Int) := by rw [IntKind.wrap_i64]; omega
  have hm0 : ¬ (m : Int) < 0 := by omega
  have hmx : ¬ 9223372036854775807 < (m : Int) := by omega
  have hA0 : At w emp w := At.none (Below.refl _ _)
  have hO := At.hold emp_good hA0 (pnMade m) TPa
  have hC := fun ty => pn_copy0 (cap := cap) h1 (hx.on ((Below.refl w.heap.size w).alloc (Nat.le_refl _) (.cells (pnMade m) TPa))) hO.heapOwn (pnMade_size m) ty
  have HS := Lib.hid (hO.setOwn emp_good ((pnMade m).toList.take (0 * 3) ++ paCells (List.replicate 1 paNew) ++ (pnMade m).toList.drop (0 * 3 + (paCells (List.replicate 1 paNew)).length)).toArray)
  have HP := Lib.hid (PnAt.one m h1)
  generalize ((pnMade m).toList.take (0 * 3) ++ paCells (List.replicate 1 paNew) ++ (pnMade m).toList.drop (0 * 3 + (paCells (List.replicate 1 paNew)).length)).toArray = cur0 at *
  clear hx hA0 hO
  go_enter Tryz.func40, Tryz.ntmps40
  go_wp2_with (go_at_call 53; (with_reducible refine (HB.out _).mono ?_); rintro e w1 ⟨rfl, rfl⟩)
  clear hmk hu hi hmx hC
  go_loopw [8] (fun i wr => ∃ (n : Nat) (cur : Array Value), 1 ≤ n ∧ n ≤ m ∧ i = .int .i64 (n : Int) ∧ PnAt cur m n ∧ At w ((ownA w.heap.size cur TPa).star emp) wr) (fun i _ => m - (intOf i).toNat)
  case atStart => exact ⟨1, cur0, Nat.le_refl _, h1, rfl, HP.out, HS.out⟩
  case round =>
    clear HS HP
    obtain ⟨n, cur, n1, n2, rfl, hp, hS⟩ := hrel
    by_cases hlt : n < m
    · have hltI : (n : Int) < (m : Int) := by omega
      have hnn : (n : Int) ≤ (m : Int) := by omega
      have hn0 : (0 : Int) ≤ (n : Int) := by omega
      have hne : ¬ m = n := by omega
      have hsub : m - n ≠ 0 := by omega
      obtain ⟨k, hk⟩ : ∃ k, Nat.min n (m - n) = k := ⟨_, rfl⟩
      have hk1 : k ≤ m - n := by rw [← hk]; exact Nat.min_le_right _ _
      have hk0 : 1 ≤ k := by rw [← hk]; exact Nat.le_min.2 ⟨n1, by omega⟩
      have hC := fun ty c1 c2 => pn_copy (W := wr.drew) hlt hS.heapOwn hp ty hk c1 c2
      have HS := Lib.hid ((hS.drewn ((ownA_good _ _ _).star emp_good)).setOwn emp_good (cur.toList.take (n * 3) ++ paCells (List.replicate k paNew) ++ cur.toList.drop (n * 3 + (paCells (List.replicate k paNew)).length)).toArray)
      have HP := Lib.hid (hp.next (k := k) (by omega))
      generalize (cur.toList.take (n * 3) ++ paCells (List.replicate k paNew) ++ cur.toList.drop (n * 3 + (paCells (List.replicate k paNew)).length)).toArray = cur2 at *
      have hw : IntKind.i64.wrap ((n : Int) + (k : Int)) = ((n + k : Nat) : Int) := by rw [IntKind.wrap_i64]; omega
      clear hp hS hk
      go_wp2
      go_region
      all_goals
        go_roundw
        case rel => exact ⟨.int .i64 ((n : Int) + (k : Int)), _, _, _, _, _, _, _, _, _, _, _, _, _, ⟨n + k, cur2, by omega, by omega, by go_num, HP.out, HS.out⟩, rfl⟩
        case measure => simp [intOf]; omega
    · obtain rfl : n = m := by omega
      have hltI : ¬ (n : Int) < (n : Int) := by omega
      have HR := Lib.hid (hS.paRow (es := List.replicate n paNew) (cap := n) (by rw [List.length_replicate]; exact hp.2) hp.1 (by rw [List.length_replicate]; exact Nat.le_refl _) (by unfold maxLen; omega))
      clear hS hp
      go_wp2
      go_ret
      exact ⟨_, rfl, by have h := HR.out; rw [List.length_replicate] at h; exact h⟩
set_option maxRecDepth 100000 in
set_option maxHeartbeats 2000000 in
theorem pnew (m : Int) (w : World) : Calls Tryz.prog 17 #[.int .i64 m] w (PaOut w (pnL m) (pnE m)) := by
  cases ho : pnOk m with
  | false =>
    rw [show pnL m = [] by unfold pnL; rw [ho]; rfl, show pnE m = 1600 by unfold pnE; rw [ho]; rfl]
    have HZ := Lib.hid (fun w => psize m false (by unfold pnOk at ho; exact ho.symm) w)
    clear ho
    go_enter Tryz.func17, Tryz.ntmps17
    go_wp2_with (go_at_call 39; (with_reducible refine (HZ.out _).mono ?_); rintro e w1 ⟨rfl, rfl⟩)
    go_ret2
    exact PaOut.no (Below.refl _ _) _
  | true =>
    obtain ⟨h1, h2⟩ : 1 ≤ m ∧ m ≤ 16 := by simpa [pnOk] using ho
    obtain ⟨q, rfl⟩ := Int.eq_ofNat_of_zero_le (show 0 ≤ m by omega)
    have HE := Lib.hid (show pnL (q : Int) = List.replicate q paNew ∧ pnE (q : Int) = 0 from by unfold pnL pnE; rw [if_pos ho, if_pos ho]; exact ⟨rfl, rfl⟩)
    have HZ := Lib.hid (fun w => psize (q : Int) true (by unfold pnOk at ho; exact ho.symm) w)
    have hin : PaIn [] (w.alloc (.cells #[.bool false, .int .i64 (-1), .int .i64 0] TPa)) (some ⟨w.heap.size, 0, none⟩) 1 [paNew] := ⟨rfl, .inr ⟨_, 0, rfl, paAt_lit w [paNew], by simp, by simp⟩, by decide⟩
    have HR := Lib.hid (fun cap => prepeat (cap := cap) q (by omega) (by omega) hin)
    have HB := Lib.hid ((Below.refl w.heap.size w).alloc (Nat.le_refl _) (.cells #[.bool false, .int .i64 (-1), .int .i64 0] TPa))
    clear ho hin h1 h2
    go_enter Tryz.func17, Tryz.ntmps17
    go_wp2_with (first
      | (go_at_call 39; (with_reducible refine (HZ.out _).mono ?_); rintro e w1 ⟨rfl, rfl⟩)
      | (go_at_call 40; (with_reducible refine (HR.out _).mono ?_); rintro e w1 ⟨g, rfl, hS⟩))
    go_ret2
    rw [HE.out.1, HE.out.2]
    exact ⟨_, _, by rw [List.length_replicate]; rfl, At.under HB.out hS⟩
end Go.Proofs.YtopkcaflmpjhgaaGreat

namespace Go.Proofs.YtopkcaflmpjhgaaGreat
open Go Go.RowKit

set_option maxRecDepth 100000 in
set_option maxHeartbeats 2000000 in
theorem ptake {w : World} {ao : Option Addr} {n cap : Nat} {es : List Pa} (hes : PaIn [] w ao n es) (hn : n ≤ 5864062014800) (k x : Int) :
    Calls Tryz.prog 81 #[.slice ao n cap, .int .i64 k, .int .i64 x] w (PaOut w (ptL es k x) (ptE es k x)) := by
  have hM := ppmay (cap := cap) hes
  have hlen := hes.len
  cases ho : ptOk es k x with
  | true =>
    obtain ⟨h1, h2, h3, h4, h5⟩ : poMay es = true ∧ poUser x = true ∧ 0 ≤ k ∧ k < es.length ∧ (es.getD k.toNat .none).b = false := by simpa [ptOk, and_assoc] using ho
    obtain ⟨j, rfl⟩ := Int.eq_ofNat_of_zero_le h3
    rw [h1] at hM
    have hj : j < es.length := by omega
    obtain ⟨b, off, a, rfl, ha, hcell⟩ := hes.elem (k := j) (by omega)
    rw [Int.toNat_natCast, ha] at h5
    have HC := Lib.hid hcell
    have HW := Lib.hid (fun w1 (hb : Below w.heap.size w w1) => pwith (cap := cap) (hes.tn (Tn.ofBelow hb [])) hn hj true x 0)
    have HM := Lib.hid hM
    have HU := Lib.hid (fun w => puser x true h2.symm w)
    have HH := Lib.hid (fun w => phas (some ⟨b, off, none⟩) n cap (j : Int) true (by simp; omega) w)
    have hjI : (j : Int) < (n : Int) := by omega
    have HE := Lib.hid (show ptL es (j : Int) x = es.set j ⟨true, x, 0⟩ ∧ ptE es (j : Int) x = 0 from by unfold ptL ptE; rw [if_pos ho, if_pos ho]; exact ⟨rfl, rfl⟩)
    have HL := Lib.hid hlen
    clear hM hlen ho h1 h2 h3 h4 hes hcell ha hj
    go_enter Tryz.func81, Tryz.ntmps81
    go_wp2_with (first
      | (go_at_call 96; (with_reducible refine HM.out.mono ?_); rintro r w1 ⟨rfl, hb0⟩; obtain ⟨c0, c1, c2⟩ := HC.out _ hb0; have HB := Lib.hid hb0; clear hb0)
      | (go_at_call 97; (with_reducible refine (HU.out _).mono ?_); rintro r w2 ⟨rfl, rfl⟩)
      | (go_at_call 98; (with_reducible refine (HH.out _).mono ?_); rintro r w2 ⟨rfl, rfl⟩)
      | (go_at_call 99; (with_reducible refine (HW.out _ HB.out).mono ?_); rintro r w2 ⟨a2, cc, rfl, hS⟩))
    go_ret2
    rw [HE.out.1, HE.out.2]
    refine ⟨a2, cc, by rw [List.length_set, ← HL.out]; rfl, ?_⟩
    rw [List.length_set, ← HL.out]
    rw [← HL.out] at hS
    exact At.under HB.out hS
  | false =>
    rw [show ptL es k x = [] by unfold ptL; rw [ho]; rfl, show ptE es k x = 1600 by unfold ptE; rw [ho]; rfl]
    have hcase : poMay es = false ∨ (poMay es = true ∧ poUser x = false) ∨ (poMay es = true ∧ poUser x = true ∧ (decide (0 ≤ k) && decide (k < n)) = false) ∨ (poMay es = true ∧ poUser x = true ∧ ∃ j : Nat, k = j ∧ j < n ∧ (es.getD j .none).b = true) := by
      cases h1 : poMay es with
      | false => exact .inl rfl
      | true =>
        right
        cases hu : poUser x with
        | false => exact .inl ⟨rfl, rfl⟩
        | true =>
          right
          cases hk : (decide (0 ≤ k) && decide (k < (n : Int))) with
          | false => exact .inl ⟨rfl, rfl, rfl⟩
          | true =>
            obtain ⟨k0, k1⟩ : 0 ≤ k ∧ k < (n : Int) := by simpa using hk
            obtain ⟨j, rfl⟩ := Int.eq_ofNat_of_zero_le k0
            refine .inr ⟨rfl, rfl, j, rfl, by omega, ?_⟩
            unfold ptOk at ho
            rw [h1, hu, show decide ((0 : Int) ≤ (j : Int)) = true from decide_eq_true (by omega), show decide ((j : Int) < (es.length : Int)) = true from decide_eq_true (by omega)] at ho
            simpa using ho
    clear ho
    rcases hcase with h1 | ⟨h1, h2⟩ | ⟨h1, h2, h3⟩ | ⟨h1, h2, j, rfl, h3, h4⟩
    · rw [h1] at hM
      have HM := Lib.hid hM
      clear hM hlen h1 hes
      go_enter Tryz.func81, Tryz.ntmps81
      go_wp2_with (go_at_call 96; (with_reducible refine HM.out.mono ?_); rintro r w1 ⟨rfl, hb0⟩)
      go_ret2
      exact PaOut.no hb0 _
    · rw [h1] at hM
      have HM := Lib.hid hM
      have HU := Lib.hid (fun w => puser x false h2.symm w)
      clear hM hlen h1 h2 hes
      go_enter Tryz.func81, Tryz.ntmps81
      go_wp2_with (first
        | (go_at_call 96; (with_reducible refine HM.out.mono ?_); rintro r w1 ⟨rfl, hb0⟩)
        | (go_at_call 97; (with_reducible refine (HU.out _).mono ?_); rintro r w2 ⟨rfl, rfl⟩))
      go_ret2
      exact PaOut.no hb0 _
    · rw [h1] at hM
      have HM := Lib.hid hM
      have HU := Lib.hid (fun w => puser x true h2.symm w)
      have HH := Lib.hid (fun w => phas ao n cap k false h3.symm w)
      clear hM hlen h1 h2 h3 hes
      go_enter Tryz.func81, Tryz.ntmps81
      go_wp2_with (first
        | (go_at_call 96; (with_reducible refine HM.out.mono ?_); rintro r w1 ⟨rfl, hb0⟩)
        | (go_at_call 97; (with_reducible refine (HU.out _).mono ?_); rintro r w2 ⟨rfl, rfl⟩)
        | (go_at_call 98; (with_reducible refine (HH.out _).mono ?_); rintro r w2 ⟨rfl, rfl⟩))
      go_ret2
      exact PaOut.no hb0 _
    · rw [h1] at hM
      obtain ⟨b, off, a, rfl, ha, hcell⟩ := hes.elem (k := j) h3
      rw [ha] at h4
      have HC := Lib.hid hcell
      have HM := Lib.hid hM
      have HU := Lib.hid (fun w => puser x true h2.symm w)
      have HH := Lib.hid (fun w => phas (some ⟨b, off, none⟩) n cap (j : Int) true (by simp; omega) w)
      have hjI : (j : Int) < (n : Int) := by omega
      clear hM hlen h1 h2 hes hcell ha h3
      go_enter Tryz.func81, Tryz.ntmps81
      go_wp2_with (first
        | (go_at_call 96; (with_reducible refine HM.out.mono ?_); rintro r w1 ⟨rfl, hb0⟩; obtain ⟨c0, c1, c2⟩ := HC.out _ hb0)
        | (go_at_call 97; (with_reducible refine (HU.out _).mono ?_); rintro r w2 ⟨rfl, rfl⟩)
        | (go_at_call 98; (with_reducible refine (HH.out _).mono ?_); rintro r w2 ⟨rfl, rfl⟩))
      go_ret2
      exact PaOut.no hb0 _
set_option maxRecDepth 100000 in
set_option maxHeartbeats 2000000 in
theorem pfree {w : World} {ao : Option Addr} {n cap : Nat} {es : List Pa} (hes : PaIn [] w ao n es) (hn : n ≤ 5864062014800) (k x : Int) :
    Calls Tryz.prog 92 #[.slice ao n cap, .int .i64 k, .int .i64 x] w (PaOut w (pfL es k x) (pfE es k x)) := by
  have hM := ppmay (cap := cap) hes
  have hlen := hes.len
  cases ho : pfOk es k x with
  | true =>
    obtain ⟨h1, h3, h4, h5, h6⟩ : poMay es = true ∧ 0 ≤ k ∧ k < es.length ∧ (es.getD k.toNat .none).b = true ∧ 0 ≤ x := by simpa [pfOk, and_assoc] using ho
    obtain ⟨j, rfl⟩ := Int.eq_ofNat_of_zero_le h3
    rw [h1] at hM
    have hj : j < es.length := by omega
    obtain ⟨b, off, a, rfl, ha, hcell⟩ := hes.elem (k := j) (by omega)
    rw [Int.toNat_natCast, ha] at h5
    have HC := Lib.hid hcell
    have HW := Lib.hid (fun w1 (hb : Below w.heap.size w w1) => pwith (cap := cap) (hes.tn (Tn.ofBelow hb [])) hn hj false a.l x)
    have HM := Lib.hid hM
    have HH := Lib.hid (fun w => phas (some ⟨b, off, none⟩) n cap (j : Int) true (by simp; omega) w)
    have hjI : (j : Int) < (n : Int) := by omega
    have HE := Lib.hid (show pfL es (j : Int) x = es.set j ⟨false, a.l, x⟩ ∧ pfE es (j : Int) x = 0 from by unfold pfL pfE; rw [if_pos ho, if_pos ho, Int.toNat_natCast, ha]; exact ⟨rfl, rfl⟩)
    have HL := Lib.hid hlen
    clear hM hlen ho h1 h3 h4 hes hcell ha hj
    go_enter Tryz.func92, Tryz.ntmps92
    go_wp2_with (first
      | (go_at_call 96; (with_reducible refine HM.out.mono ?_); rintro r w1 ⟨rfl, hb0⟩; obtain ⟨c0, c1, c2⟩ := HC.out _ hb0; have HB := Lib.hid hb0; clear hb0)
      | (go_at_call 98; (with_reducible refine (HH.out _).mono ?_); rintro r w2 ⟨rfl, rfl⟩)
      | (go_at_call 99; (with_reducible refine (HW.out _ HB.out).mono ?_); rintro r w2 ⟨a2, cc, rfl, hS⟩))
    go_ret2
    rw [HE.out.1, HE.out.2]
    refine ⟨a2, cc, by rw [List.length_set, ← HL.out]; rfl, ?_⟩
    rw [List.length_set, ← HL.out]
    rw [← HL.out] at hS
    exact At.under HB.out hS
  | false =>
    rw [show pfL es k x = [] by unfold pfL; rw [ho]; rfl, show pfE es k x = 1600 by unfold pfE; rw [ho]; rfl]
    have hcase : poMay es = false ∨ (poMay es = true ∧ (decide (0 ≤ k) && decide (k < n)) = false) ∨ (poMay es = true ∧ ∃ j : Nat, k = j ∧ j < n ∧ ((es.getD j .none).b = false ∨ (es.getD j .none).b = true ∧ x < 0)) := by
      cases h1 : poMay es with
      | false => exact .inl rfl
      | true =>
        right
        cases hk : (decide (0 ≤ k) && decide (k < (n : Int))) with
        | false => exact .inl ⟨rfl, rfl⟩
        | true =>
          obtain ⟨k0, k1⟩ : 0 ≤ k ∧ k < (n : Int) := by simpa using hk
          obtain ⟨j, rfl⟩ := Int.eq_ofNat_of_zero_le k0
          refine .inr ⟨rfl, j, rfl, by omega, ?_⟩
          unfold pfOk at ho
          rw [h1, show decide ((0 : Int) ≤ (j : Int)) = true from decide_eq_true (by omega), show decide ((j : Int) < (es.length : Int)) = true from decide_eq_true (by omega)] at ho
          by_cases hx : 0 ≤ x
          · left; simpa [hx] using ho
          · cases hb : (es.getD j .none).b with
            | false => exact .inl rfl
            | true => exact .inr ⟨rfl, by omega⟩
    clear ho
    rcases hcase with h1 | ⟨h1, h2⟩ | ⟨h1, j, rfl, h2, h3⟩
    · rw [h1] at hM
      have HM := Lib.hid hM
      clear hM hlen h1 hes
      go_enter Tryz.func92, Tryz.ntmps92
      go_wp2_with (go_at_call 96; (with_reducible refine HM.out.mono ?_); rintro r w1 ⟨rfl, hb0⟩)
      go_ret2
      exact PaOut.no hb0 _
    · rw [h1] at hM
      have HM := Lib.hid hM
      have HH := Lib.hid (fun w => phas ao n cap k false h2.symm w)
      clear hM hlen h1 h2 hes
      go_enter Tryz.func92, Tryz.ntmps92
      go_wp2_with (first
        | (go_at_call 96; (with_reducible refine HM.out.mono ?_); rintro r w1 ⟨rfl, hb0⟩)
        | (go_at_call 98; (with_reducible refine (HH.out _).mono ?_); rintro r w2 ⟨rfl, rfl⟩))
      go_ret2
      exact PaOut.no hb0 _
    · rw [h1] at hM
      obtain ⟨b, off, a, rfl, ha, hcell⟩ := hes.elem (k := j) h2
      rw [ha] at h3
      have HC := Lib.hid hcell
      have HM := Lib.hid hM
      have HH := Lib.hid (fun w => phas (some ⟨b, off, none⟩) n cap (j : Int) true (by simp; omega) w)
      have hjI : (j : Int) < (n : Int) := by omega
      clear hM hlen h1 hes hcell ha h2
      rcases h3 with h3 | ⟨h3, h4⟩
      all_goals
        go_enter Tryz.func92, Tryz.ntmps92
        go_wp2_with (first
          | (go_at_call 96; (with_reducible refine HM.out.mono ?_); rintro r w1 ⟨rfl, hb0⟩; obtain ⟨c0, c1, c2⟩ := HC.out _ hb0)
          | (go_at_call 98; (with_reducible refine (HH.out _).mono ?_); rintro r w2 ⟨rfl, rfl⟩))
        go_ret2
        exact PaOut.no hb0 _
end Go.Proofs.YtopkcaflmpjhgaaGreat

