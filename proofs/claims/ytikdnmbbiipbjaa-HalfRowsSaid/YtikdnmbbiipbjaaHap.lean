/- Package half's Take: what it answers. Condition: the row's size. -/
import Derived.Test.YtikdnmbbiipbjaaHap1
namespace Go.Proofs.Ytikdnmbbiipbjaa
open Go Go.RowKit

theorem ha_cell {W : World} (c : Array Value) {q : Nat} {v : Value} (hq : W.cell? ⟨q, 0, none⟩ = some v) : (W.alloc (.cells c THa)).cell? ⟨q, 0, none⟩ = some v := by
  have hlt : q < W.heap.size := by
    unfold World.cell? at hq
    cases h : W.heap[q]? with
    | none => simp [h] at hq
    | some o => exact (Array.getElem?_eq_some_iff.1 h).1
  rw [(habox W c).cell (p := ⟨q, 0, none⟩) hlt]
  exact hq
theorem pis (q : Nat) (x f0 f1 f2 f3 f4 : Int) (W : World) (hq : W.cell? ⟨q, 0, none⟩ = some (.int .i64 x)) : Calls Try.prog 22 #[.agg #[.int .i64 f0, .int .i64 f1, .int .i64 f2, .int .i64 f3, .int .i64 f4], .pointer (some ⟨q, 0, none⟩)] W fun e w' => e = .returned (.bool (decide (f0 = x))) ∧ Below W.heap.size W w' := by
  have hq2 := ha_cell #[.int .i64 f0, .int .i64 f1, .int .i64 f2, .int .i64 f3, .int .i64 f4] hq
  have HB := Lib.hid (habox W #[.int .i64 f0, .int .i64 f1, .int .i64 f2, .int .i64 f3, .int .i64 f4])
  clear hq
  go_enter Try.func22, Try.ntmps22
  go_wp2
  go_ret
  exact ⟨by simp; try rfl, HB.out⟩
/-- Where slices.IndexFunc finds it. -/
def haIx (x : Int) (es : List Ha) : Int := match haI x es 0 with | some k => (k : Int) | Option.none => -1
set_option maxRecDepth 100000 in
set_option maxHeartbeats 4000000 in
theorem pindex (q : Nat) (x : Int) {w : World} {ao : Option Addr} {n cap : Nat} {es : List Ha} (hes : HaIn [] w ao n es) (hq : ∀ W, Below w.heap.size w W → W.cell? ⟨q, 0, none⟩ = some (.int .i64 x)) :
    Calls Try.prog 21 #[.slice ao n cap, .func (.func 22) #[] #[.pointer (some ⟨q, 0, none⟩)]] w fun e w' => e = .returned (.int .i64 (haIx x es)) ∧ Below w.heap.size w w' := by
  have hb0 := Below.refl w.heap.size w
  have HL := Lib.hid hes.len
  have HE := Lib.hid (fun k (hk : k < n) => hes.elem (k := k) hk)
  have HQ := Lib.hid hq
  have hfew := hes.few
  clear hes hq
  go_enter Try.func21, Try.ntmps21
  go_wp2
  go_loopw [5, 8] (fun _ i wr => ∃ k : Nat, k ≤ n ∧ i = .int .i64 (k : Int) ∧ Aside (haI x (es.take k) 0 = Option.none) ∧ Below w.heap.size w wr) (fun _ i _ => n - (intOf i).toNat)
  case atStart => exact ⟨0, Nat.zero_le _, rfl, by rw [List.take_zero]; exact (rfl : haI x [] 0 = Option.none), hb0⟩
  case round =>
    clear hb0
    obtain ⟨k, hk, rfl, hno, hb⟩ := hrel
    have HNO := Lib.hid hno.out
    clear hno
    by_cases hlt : k < n
    · obtain ⟨b, off, a, rfl, ha, hcell⟩ := HE.out k hlt
      obtain ⟨c0, c1, c2, c3, c4⟩ := hcell _ hb
      have hke : k < es.length := by rw [← HL.out]; exact hlt
      have hpa := pis q x a.h a.u a.c a.s a.t wr (HQ.out _ hb)
      have HB := Lib.hid (fun w' (h : Below wr.heap.size wr w') => hb.trans (h.mono hb.size))
      have HA := Lib.hid ha
      clear ha hcell hb
      by_cases hx : a.h = x
      · rw [decide_eq_true hx] at hpa
        have HPA := Lib.hid hpa
        have HF := Lib.hid (haI_hit hke HA.out HNO.out hx)
        clear hpa hx hke
        go_wp2_with (go_at_call 22; (with_reducible refine HPA.out.mono ?_); rintro e w1 ⟨rfl, hb1⟩)
        go_ret
        exact ⟨by unfold haIx; rw [HF.out]; rfl, HB.out _ hb1⟩
      · rw [decide_eq_false hx] at hpa
        have HPA := Lib.hid hpa
        have HF := Lib.hid (haI_none_take hke HA.out HNO.out hx)
        clear hpa hx hke
        go_wp2_with (go_at_call 22; (with_reducible refine HPA.out.mono ?_); rintro e w1 ⟨rfl, hb1⟩)
        go_roundw
        case rel => exact ⟨k + 1, by omega, by go_num, HF.out, HB.out _ hb1⟩
        case measure => simp [intOf]; omega
    · obtain rfl : k = n := by omega
      have HF := Lib.hid (show haI x es 0 = Option.none by have := HNO.out; rwa [HL.out, List.take_length] at this)
      clear hlt hk
      go_wp2
      go_ret
      exact ⟨by unfold haIx; rw [HF.out]; rfl, hb⟩
theorem ha_zero (w : World) : (zeroValue THa).run Try.prog w = .ok (.agg #[.int .i64 0, .int .i64 0, .int .i64 0, .int .i64 0, .int .i64 0]) w := by
  obtain ⟨i, hi, hz0, _, _⟩ := info_parts ha_info
  simp [zeroValue, typeInfo, hi, hz0]
set_option maxRecDepth 100000 in
set_option maxHeartbeats 4000000 in
/-- slices.Delete of one element. -/
theorem pdelete {w0 w : World} {C : Ass} (hC : C.Good) {g c k m : Nat} {all : List Ha} (hm : all.length = m + 1) (hk : k ≤ m) (hsm : m < 3518437208883)
    (hS : At w0 ((rowE THa 5 (.slice (some ⟨g, 0, none⟩) (m + 1) c) all.length (haCells all)).star C) w) :
    Calls Try.prog 23 #[.slice (some ⟨g, 0, none⟩) (m + 1) c, .int .i64 (k : Int), .int .i64 ((k : Int) + 1)] w fun e w' => e = .returned (.slice (some ⟨g, 0, none⟩) m c) ∧ At w0 ((rowE THa 5 (.slice (some ⟨g, 0, none⟩) m c) m (haCells (all.take k ++ all.drop (k + 1)))).star C) w' := by
  obtain ⟨i, hi, hz0, hz1, hz2⟩ := info_parts ha_info
  have hle : m + 1 ≤ c := by
    rcases hS.erow.2 with ⟨e, _⟩ | ⟨g', c', cur, e, _, hg, hle, _⟩
    · simp at e
    · obtain ⟨rfl, e1, rfl⟩ : g = g' ∧ m + 1 = all.length ∧ c = c' := by simpa using e
      omega
  have hcut : haCells (all.take k) = (haCells all).take (k * 5) := by
    have h := haCells_app (all.take k) (all.drop k)
    rw [List.take_append_drop] at h
    rw [h, ← (show (haCells (all.take k)).length = k * 5 by rw [haCells_len, List.length_take]; omega), List.take_left]
  have hD : At w0 ((rowE THa 5 (.slice (some ⟨g, 0, none⟩) (m + 1) c) (m + 1) (haCells all)).star C) w.drew := by
    rw [hm] at hS
    exact hS.lay ((rowE_good _ _ _ _ _).star hC) (ha_drew w)
  have hrow := haAt_row (n := m + 1) (show At w0 ((rowE THa 5 (.slice (some ⟨g, 0, none⟩) (m + 1) c) all.length (haCells all)).star C) w.drew by rw [hm]; exact hD)
  have hC1 := hD.rowCut (i := k) (by omega)
  rw [← hcut] at hC1
  have key : ∀ A : Addr, (c = k + 1 → A = ⟨g, 0, none⟩) → (c ≠ k + 1 → A = ⟨g, (k + 1) * 5, none⟩) → ∃ w5, (Builtin.append_ #[22, 22] 22 #[.slice (some ⟨g, 0, none⟩) k c, .slice (some A) (m - k) (c - (k + 1))]).run Try.prog w.drew = .ok (.slice (some ⟨g, 0, none⟩) m c) w5 ∧ At w0 ((rowE THa 5 (.slice (some ⟨g, 0, none⟩) m c) m (haCells (all.take k ++ all.drop (k + 1)))).star C) w5 := by
    intro A hA1 hA2
    obtain ⟨w5, hr, h5⟩ := At.fits (P := Try.prog) (ty := 22) Try.underlying22 hi hz1 hC hC1 (a := A) (m := m - k) (c2 := c - (k + 1)) (news := haCells (all.drop (k + 1))) (by rw [haCells_len, List.length_drop, hm, show m + 1 - (k + 1) = m - k by omega]) (fun j u hu => by
      have hj : j < (haCells (all.drop (k + 1))).length := by
        rcases Nat.lt_or_ge j (haCells (all.drop (k + 1))).length with c1 | c1
        · exact c1
        · rw [List.getElem?_eq_none c1] at hu; cases hu
      rw [haCells_len, List.length_drop] at hj
      rw [hA2 (by omega), Addr.add_lit]
      have h := (hrow.1.drop (k := k + 1) (by omega)) j u hu
      rwa [Nat.zero_add] at h) (haCells_one _) (by omega)
    rw [show k + (m - k) = m by omega] at hr h5
    rw [haCells_app]
    exact ⟨w5, hr, h5⟩
  obtain ⟨A, hA, w5, hr5, h5⟩ : ∃ A : Addr, (if c = k + 1 then (some ⟨g, 0, none⟩ : Option Addr) else some ⟨g, (k + 1) * 5, none⟩) = some A ∧ ∃ w5, (Builtin.append_ #[22, 22] 22 #[.slice (some ⟨g, 0, none⟩) k c, .slice (some A) (m - k) (c - (k + 1))]).run Try.prog w.drew = .ok (.slice (some ⟨g, 0, none⟩) m c) w5 ∧ At w0 ((rowE THa 5 (.slice (some ⟨g, 0, none⟩) m c) m (haCells (all.take k ++ all.drop (k + 1)))).star C) w5 := by
    by_cases e : c = k + 1
    · exact ⟨⟨g, 0, none⟩, if_pos e, key _ (fun _ => rfl) (fun n => absurd e n)⟩
    · exact ⟨⟨g, (k + 1) * 5, none⟩, if_neg e, key _ (fun n => absurd n e) (fun _ => rfl)⟩
  have hcl : ∀ ty, ∃ w', (Builtin.clear_ #[22] ty #[.slice (some ⟨g, m * 5, none⟩) 1 (c - m)]).run Try.prog w5 = .ok (.tuple #[]) w' ∧ At w0 ((rowE THa 5 (.slice (some ⟨g, 0, none⟩) m c) m (haCells (all.take k ++ all.drop (k + 1)))).star C) w' := fun ty =>
    At.cleared (P := Try.prog) (vs := [.int .i64 0, .int .i64 0, .int .i64 0, .int .i64 0, .int .i64 0]) Try.underlying22 ha_zero hC h5 (m := 0) (by kernel_rfl) rfl (by intro u hu; simp at hu; subst hu; rfl) (by omega)
  have HCL := Lib.hid hcl
  have HR := Lib.hid hr5
  have hkI : (k : Int) + 1 ≤ (m : Int) + 1 := by omega
  have hk1 : k + 1 ≤ c := by omega
  have hk0 : k ≤ c := by omega
  have hk01 : (0 : Int) ≤ (k : Int) + 1 := by omega
  have hkc : (k : Int) + 1 ≤ (c : Int) := by omega
  have hmc : (m : Int) + 1 ≤ (c : Int) := by omega
  clear hS hD hrow hC1 hcut key h5 hcl hr5 hi hz0 hz1 hz2
  go_enter Try.func23, Try.ntmps23
  go_wp2_with (fail)
  go_region_law (refine step_app_run rfl (.tmp 22) (.tmp 25) _ rfl rfl rfl HR.out ?_)
  obtain ⟨w6, hr6, h6⟩ := HCL.out 0
  have H6 := Lib.hid h6
  clear h6 HCL HR
  (try simp only [List.getElem_toArray, List.getElem_cons_succ, List.getElem_cons_zero, Act.put, List.setIfInBounds_toArray, List.set_cons_zero])
  go_wp2
  go_ret
  exact ⟨rfl, H6.out⟩
/-- The same, at a row of one's own. -/
theorem pdeleteT {w0 w : World} {C : Ass} (hC : C.Good) {g c k : Nat} {all L : List Ha} (hk : k < all.length) (hsm : all.length ≤ 3518437208878) (hL : L = all.take k ++ all.drop (k + 1))
    (hS : At w0 ((rowE THa 5 (.slice (some ⟨g, 0, none⟩) all.length c) all.length (haCells all)).star C) w) :
    Calls Try.prog 23 #[.slice (some ⟨g, 0, none⟩) all.length c, .int .i64 (k : Int), .int .i64 ((k : Int) + 1)] w fun e w' => e = .returned (.slice (some ⟨g, 0, none⟩) L.length c) ∧ At w0 ((rowE THa 5 (.slice (some ⟨g, 0, none⟩) L.length c) L.length (haCells L)).star C) w' := by
  obtain ⟨m, hm⟩ : ∃ m, all.length = m + 1 := ⟨all.length - 1, by omega⟩
  have hl : L.length = m := by rw [hL, List.length_append, List.length_take, List.length_drop]; omega
  have hS' : At w0 ((rowE THa 5 (.slice (some ⟨g, 0, none⟩) (m + 1) c) all.length (haCells all)).star C) w := by rw [← hm]; exact hS
  rw [hl, hm, hL]
  exact pdelete hC hm (by omega) (by omega) hS'
theorem haI_lt {x : Int} {es : List Ha} {k : Nat} (h : haI x es 0 = some k) : k < es.length ∧ (es.getD k Ha.none).h = x := by
  have key : ∀ (es : List Ha) (i k : Nat), haI x es i = some k → i ≤ k ∧ k - i < es.length ∧ (es.getD (k - i) Ha.none).h = x := by
    intro es
    induction es with
    | nil => intro i k h; cases h
    | cons c r ih =>
      intro i k h
      unfold haI at h
      by_cases e : c.h = x
      · rw [if_pos e] at h
        obtain rfl : i = k := by simpa using h
        rw [Nat.sub_self]
        exact ⟨Nat.le_refl _, by simp, e⟩
      · rw [if_neg e] at h
        obtain ⟨h1, h2, h3⟩ := ih (i + 1) k h
        rw [show k - i = (k - (i + 1)) + 1 by omega]
        exact ⟨by omega, by simpa using h2, by simpa using h3⟩
  obtain ⟨_, h2, h3⟩ := key es 0 k h
  rw [Nat.sub_zero] at h2 h3
  exact ⟨h2, h3⟩
abbrev TkA (w : World) (a2 : Option Addr) (c2 : Nat) (x : Int) (all : List Ha) : Ass := (rowE THa 5 (.slice a2 all.length c2) all.length (haCells all)).star ((ownA (w.heap.size + 1) TwoBox THa).star ((ownA w.heap.size #[.int .i64 x] 3).star emp))
theorem tkA_good (w : World) (a2 : Option Addr) (c2 : Nat) (x : Int) (all : List Ha) : (TkA w a2 c2 x all).Good := (rowE_good _ _ _ _ _).star ((ownA_good _ _ _).star ((ownA_good _ _ _).star emp_good))
theorem pindexT {w w1 : World} {a2 : Option Addr} {c2 : Nat} {x : Int} {all : List Ha} (hT : At w (TkA w a2 c2 x all) w1) (hsm : all.length ≤ 3518437208878) {r : Int} (hr : haIx x all = r) :
    Calls Try.prog 21 #[.slice a2 all.length c2, .func (.func 22) #[] #[.pointer (some ⟨w.heap.size, 0, none⟩)]] w1 fun e w' => e = .returned (.int .i64 r) ∧ At w (TkA w a2 c2 x all) w' := by
  subst hr
  exact (pindex (cap := c2) w.heap.size x (hT.haIn rfl (by omega)) (fun W hb => (hT.lay (tkA_good w a2 c2 x all) hb).drop.drop.own.1 0)).mono fun e w' ⟨h1, h2⟩ => ⟨h1, hT.lay (tkA_good w a2 c2 x all) h2⟩
set_option maxRecDepth 100000 in
set_option maxHeartbeats 16000000 in
theorem ptake' {w : World} {ao : Option Addr} {n cap : Nat} {es : List Ha} (hes : HaIn [] w ao n es) (hn : n ≤ 3518437208878) (x t : Int) (X : Ha) (L : List Ha) (E : Int) (hhit : ∀ k, haI x (haLeft es t) 0 = some k → X = (haLeft es t).getD k Ha.none ∧ L = (haLeft es t).take k ++ (haLeft es t).drop (k + 1) ∧ E = 0) (hmiss : haI x (haLeft es t) 0 = Option.none → X = Ha.none ∧ L = [] ∧ E = 1802) :
    Calls Try.prog 10 #[.slice ao n cap, .int .i64 x, .int .i64 t] w (HaTri w X L E) := by
  have hb0 : Below w.heap.size w ((w.alloc (.cells #[.int .i64 x] 3)).alloc (.cells TwoBox THa)) := ((Below.refl _ _).alloc (Nat.le_refl _) _).alloc (by simp) _
  have hlim := haLeft_len es t
  have hlen := hes.len
  have HX := Lib.hid (pexpire (cap := cap) (hes.on hb0) hn t)
  have hR : At w ((ownA (w.heap.size + 1) TwoBox THa).star ((ownA w.heap.size #[.int .i64 x] 3).star emp)) ((w.alloc (.cells #[.int .i64 x] 3)).alloc (.cells TwoBox THa)) := by
    have h := At.hold ((ownA_good _ _ _).star emp_good) (At.hold emp_good (At.none (Below.refl w.heap.size w)) #[.int .i64 x] 3) TwoBox THa
    rwa [show (w.alloc (.cells #[.int .i64 x] 3)).heap.size = w.heap.size + 1 by simp] at h
  have hRg : ((ownA (w.heap.size + 1) TwoBox THa).star ((ownA w.heap.size #[.int .i64 x] 3).star emp)).Good := (ownA_good _ _ _).star ((ownA_good _ _ _).star emp_good)
  have hsm : (haLeft es t).length ≤ 3518437208878 := by omega
  clear hes hlim hlen
  generalize haLeft es t = all at *
  have HHIT := Lib.hid hhit
  have HMISS := Lib.hid hmiss
  clear hhit hmiss
  cases hI : haI x all 0 with
  | none =>
    obtain ⟨hX, hL, hE⟩ := HMISS.out hI
    subst hX hL hE
    have hx : haIx x all = -1 := by unfold haIx; rw [hI]
    have HXI := Lib.hid hx
    clear HHIT HMISS hI hx
    go_enter Try.func10, Try.ntmps10
    go_wp2_with (first
      | (go_at_call 12; (with_reducible refine HX.out.mono ?_); rintro e w1 ⟨a2, c2, rfl, hS⟩; have hT := hS.front hRg hR; clear hS; have HT := Lib.hid hT; clear hT)
      | (go_at_call 21; (with_reducible refine (pindexT HT.out hsm HXI.out).mono ?_); rintro e w2 ⟨rfl, hT2⟩; obtain ⟨k1, k2, -⟩ := hT2.drop.own; have HB := Lib.hid hT2.bel; clear hT2))
    refine bodyPost_ret (v := .tuple #[.agg #[.int .i64 0, .int .i64 0, .int .i64 0, .int .i64 0, .int .i64 0], .slice none 0 0, .int .i64 1802]) (by simp [*, results, Try.results10, go_sem]) rfl ⟨none, 0, rfl, HaNew.no ?_⟩
    repeat (with_reducible refine Below.setCell ?_ (by simp) _)
    exact HB.out
  | some k =>
    obtain ⟨hX, hL, hE⟩ := HHIT.out _ hI
    have hx : haIx x all = (k : Int) := by unfold haIx; rw [hI]
    have HXI := Lib.hid hx
    obtain ⟨hlt, -⟩ := haI_lt hI
    have HLL := Lib.hid hL
    have HXX := Lib.hid hX.symm
    subst hE
    obtain ⟨f0, f1, f2, f3, f4⟩ := X
    have hltI : (k : Int) < (all.length : Int) := by omega
    have hk1 : (k : Int) + 1 ≤ (all.length : Int) := by omega
    have hwk : IntKind.i64.wrap ((k : Int) + 1) = (k : Int) + 1 := by rw [IntKind.wrap_i64]; omega
    clear HHIT HMISS hI hx hX hL
    go_enter Try.func10, Try.ntmps10
    go_wp2_with (first
      | (go_at_call 12; (with_reducible refine HX.out.mono ?_); rintro e w1 ⟨a2, c2, rfl, hS⟩; have hT := hS.front hRg hR; clear hS; have HT := Lib.hid hT; clear hT)
      | (go_at_call 21; (with_reducible refine (pindexT HT.out hsm HXI.out).mono ?_); rintro e w2 ⟨rfl, hT2⟩; obtain ⟨g, rfl, -, -⟩ := ha_big hT2 (by omega); obtain ⟨y0, y1, y2, y3, y4⟩ := (haAt_row hT2).1.elem hlt; rw [HXX.out] at y0 y1 y2 y3 y4; simp only [Nat.zero_add] at y0 y1 y2 y3 y4; have HT2 := Lib.hid hT2; clear hT2))
    have hT3 := HT2.out
    have hTg := tkA_good w (some ⟨g, 0, none⟩) c2 x all
    have hH := (At.hold hTg hT3 #[.int .i64 f0, .int .i64 f1, .int .i64 f2, .int .i64 f3, .int .i64 f4] THa).imp (Ass.imp.swap _ _ _)
    have hRg2 : ((ownA w2.heap.size #[.int .i64 f0, .int .i64 f1, .int .i64 f2, .int .i64 f3, .int .i64 f4] THa).star ((ownA (w.heap.size + 1) TwoBox THa).star ((ownA w.heap.size #[.int .i64 x] 3).star emp))).Good := (ownA_good _ _ _).star hRg
    have hD := pdeleteT hRg2 hlt hsm HLL.out (hH.lay ((rowE_good _ _ _ _ _).star hRg2) (ha_drew _))
    have HD := Lib.hid hD
    clear hT3 hTg hH hRg2 hD HT2 HT hR
    first
      | (go_region_with (first
        | (go_at_call 23; (with_reducible refine HD.out.mono ?_); rintro e w4 ⟨rfl, hT4⟩; obtain ⟨z1, z2, -⟩ := hT4.drop.own; obtain ⟨k1, k2, -⟩ := hT4.drop.drop.own; have HT4 := Lib.hid hT4; clear hT4)))
      | fail
    all_goals
      have h1 := ((HT4.out.imp (Ass.imp.swap _ _ _)).drop).imp (Ass.imp.swap _ _ _)
      have g5 := (rowE_good THa 5 (.slice (some ⟨g, 0, none⟩) L.length c2) L.length (haCells L)).star ((ownA_good w.heap.size #[.int .i64 x] 3).star emp_good)
      have h2 := ((((h1.poke g5 0 (.int .i64 f0)).poke g5 1 (.int .i64 f1)).poke g5 2 (.int .i64 f2)).poke g5 3 (.int .i64 f3)).poke g5 4 (.int .i64 f4)
      have H5 := Lib.hid ((h2.drop.imp (Ass.imp.swap _ _ _)).drop)
      clear h1 g5 h2 HD
      (try simp only [List.getElem_toArray, List.getElem_cons_succ, List.getElem_cons_zero, Act.put, List.setIfInBounds_toArray, List.set_cons_zero, List.set_cons_succ])
      go_wp2
      refine bodyPost_ret (v := .tuple #[.agg #[.int .i64 f0, .int .i64 f1, .int .i64 f2, .int .i64 f3, .int .i64 f4], .slice (some ⟨g, 0, none⟩) L.length c2, .int .i64 0]) (by simp [*, results, Try.results10, go_sem]) rfl ?_
      exact ⟨_, _, rfl, H5.out⟩
theorem ptake {w : World} {ao : Option Addr} {n cap : Nat} {es : List Ha} (hes : HaIn [] w ao n es) (hn : n ≤ 3518437208878) (x t : Int) :
    Calls Try.prog 10 #[.slice ao n cap, .int .i64 x, .int .i64 t] w (HaTri w (haTX es x t) (haTL es x t) (haTE es x t)) :=
  ptake' hes hn x t _ _ _ (fun k h => by unfold haTX haTL haTE; rw [h]; exact ⟨rfl, rfl, rfl⟩) (fun h => by unfold haTX haTL haTE; rw [h]; exact ⟨rfl, rfl, rfl⟩)
theorem halvesOk : HalvesOk := ⟨fun h hn t => pexpire h hn t, fun h hn f0 f1 f2 f3 f4 most t => padd h hn f0 f1 f2 f3 f4 most t, fun h hn x t => ptake h hn x t⟩
end Go.Proofs.Ytikdnmbbiipbjaa
