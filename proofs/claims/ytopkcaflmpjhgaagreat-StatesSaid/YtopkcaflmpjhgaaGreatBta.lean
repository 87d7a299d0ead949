/- Put together: Tda, Tdb, Tdk. Conditions: each theorem's own. -/
import Derived.Test.YtopkcaflmpjhgaaGreatBsn
import Derived.Maps.OwnSet
import Derived.Test.YtopkcaflmpjhgaaGreatBpp
import Derived.Deep.RegionWith
namespace Go.Proofs.YtopkcaflmpjhgaaGreat
open Go Go.RowKit Go.Maps

abbrev TTd : TypeId := 84
/-- Its cells: the config's, the state's, the map. -/
abbrev tdC (c : Cf) (h : Sv) (s : St) (m : Option Nat) : Array Value := #[.int .i64 c.sec, .int .i64 c.hal, .int .i64 c.ses, .int .i64 c.adr, .int .i64 c.fai, .int .i64 c.loc, .int .i64 c.hlf, .int .i64 c.idl, .int .i64 c.abs, .int .i64 c.qua, .int .i64 c.tlf, .int .i64 c.kee, .int .i64 s.b, .int .i64 s.e, .int .i64 s.n, .slice h.u s.us.length h.uc, .slice h.s s.ss.length h.sc, .slice h.p s.ad.length h.pc, .slice h.i s.sp.length h.ic, .map m]
def spD (sp : List Int) : DataW Unit := setOf (.agg []) (sp.map (fun x => Lit.int .i64 x))
/-- The map: none, or one that holds just what is spent. -/
def spA (m : Option Nat) (sp : List Int) : Ass := fun w F => match m with
  | none => F = []
  | some b => w.ownsMap Tryz.prog 3 (unitElem (H := Unit)) b sp.length (spD sp) ∧ F = [b]
theorem spA_good (m : Option Nat) (sp : List Int) : (spA m sp).Good := by
  cases m with
  | none => exact emp_good
  | some b =>
    rintro w F ⟨h, rfl⟩
    refine ⟨fun k hk => ?_, fun w' hw' => ⟨?_, rfl⟩⟩
    · obtain rfl : k = b := by simpa using hk
      exact h.lt
    · obtain ⟨es, clock, hb, r⟩ := h
      exact ⟨es, clock, (hw' b (by simp)).trans hb, r⟩
abbrev TD (p : Nat) (c : Cf) (h : Sv) (s : St) (m : Option Nat) (C : Ass) : Ass := (ownA p (tdC c h s m) TTd).star ((spA m s.sp).star (StA h s C))
theorem TD_good {p : Nat} {c : Cf} {h : Sv} {s : St} {m : Option Nat} {C : Ass} (hC : C.Good) : (TD p c h s m C).Good := (ownA_good _ _ _).star ((spA_good _ _).star (StA_good hC))
section
variable {w0 W : World} {A C : Ass} {p : Nat} {c : Cf} {h : Sv} {s : St} {m : Option Nat}
theorem At.poke1 (hA : A.Good) (hC : C.Good) {b : Nat} {d : Array Value} {T : TypeId} (h : At w0 (A.star ((ownA b d T).star C)) W) (i : Nat) (v : Value) : At w0 (A.star ((ownA b (d.setIfInBounds i v) T).star C)) (W.setCell ⟨b, i, Option.none⟩ v) :=
  ((h.imp (Ass.imp.swap _ _ _)).poke (hA.star hC) i v).imp (Ass.imp.swap _ _ _)
theorem TD.blk (q : At w0 (TD p c h s m C) W) : Blk W p (tdC c h s m) := ⟨q.own.1, q.own.2.1, q.own.2.2⟩
theorem TD.st (q : At w0 (TD p c h s m C) W) : At w0 (StA h s C) W := q.drop.drop
/-- The rows, one by one to the front. -/
theorem TD.outU : (TD p c h s m C).imp ((rowE TUs 9 (.slice h.u s.us.length h.uc) s.us.length (usCells s.us)).star ((ownA p (tdC c h s m) TTd).star ((spA m s.sp).star ((rowE TSe 4 (.slice h.s s.ss.length h.sc) s.ss.length (seCells s.ss)).star ((rowE TPa 3 (.slice h.p s.ad.length h.pc) s.ad.length (paCells s.ad)).star ((rowE TIn 1 (.slice h.i s.sp.length h.ic) s.sp.length (inCells s.sp)).star C)))))) := Ass.imp.up2 _ _ _ _
theorem TD.inU : ((rowE TUs 9 (.slice h.u s.us.length h.uc) s.us.length (usCells s.us)).star ((ownA p (tdC c h s m) TTd).star ((spA m s.sp).star ((rowE TSe 4 (.slice h.s s.ss.length h.sc) s.ss.length (seCells s.ss)).star ((rowE TPa 3 (.slice h.p s.ad.length h.pc) s.ad.length (paCells s.ad)).star ((rowE TIn 1 (.slice h.i s.sp.length h.ic) s.sp.length (inCells s.sp)).star C)))))).imp (TD p c h s m C) := Ass.imp.dn2 _ _ _ _
theorem TD.outS : (TD p c h s m C).imp ((rowE TSe 4 (.slice h.s s.ss.length h.sc) s.ss.length (seCells s.ss)).star ((ownA p (tdC c h s m) TTd).star ((spA m s.sp).star ((rowE TUs 9 (.slice h.u s.us.length h.uc) s.us.length (usCells s.us)).star ((rowE TPa 3 (.slice h.p s.ad.length h.pc) s.ad.length (paCells s.ad)).star ((rowE TIn 1 (.slice h.i s.sp.length h.ic) s.sp.length (inCells s.sp)).star C)))))) := Ass.imp.up3 _ _ _ _ _
theorem TD.inS : ((rowE TSe 4 (.slice h.s s.ss.length h.sc) s.ss.length (seCells s.ss)).star ((ownA p (tdC c h s m) TTd).star ((spA m s.sp).star ((rowE TUs 9 (.slice h.u s.us.length h.uc) s.us.length (usCells s.us)).star ((rowE TPa 3 (.slice h.p s.ad.length h.pc) s.ad.length (paCells s.ad)).star ((rowE TIn 1 (.slice h.i s.sp.length h.ic) s.sp.length (inCells s.sp)).star C)))))).imp (TD p c h s m C) := Ass.imp.dn3 _ _ _ _ _
theorem TD.inP : ((rowE TPa 3 (.slice h.p s.ad.length h.pc) s.ad.length (paCells s.ad)).star ((ownA p (tdC c h s m) TTd).star ((spA m s.sp).star ((rowE TUs 9 (.slice h.u s.us.length h.uc) s.us.length (usCells s.us)).star ((rowE TSe 4 (.slice h.s s.ss.length h.sc) s.ss.length (seCells s.ss)).star ((rowE TIn 1 (.slice h.i s.sp.length h.ic) s.sp.length (inCells s.sp)).star C)))))).imp (TD p c h s m C) :=
  (Ass.imp.dn3 _ _ _ _ _).trans ((((Ass.imp.swap _ _ _).under _).under _).under _)
theorem TD.outP : (TD p c h s m C).imp ((rowE TPa 3 (.slice h.p s.ad.length h.pc) s.ad.length (paCells s.ad)).star ((ownA p (tdC c h s m) TTd).star ((spA m s.sp).star ((rowE TUs 9 (.slice h.u s.us.length h.uc) s.us.length (usCells s.us)).star ((rowE TSe 4 (.slice h.s s.ss.length h.sc) s.ss.length (seCells s.ss)).star ((rowE TIn 1 (.slice h.i s.sp.length h.ic) s.sp.length (inCells s.sp)).star C)))))) :=
  ((((Ass.imp.swap _ _ _).under _).under _).under _).trans (Ass.imp.up3 _ _ _ _ _)
theorem TD.outI : (TD p c h s m C).imp ((rowE TIn 1 (.slice h.i s.sp.length h.ic) s.sp.length (inCells s.sp)).star ((ownA p (tdC c h s m) TTd).star ((spA m s.sp).star ((rowE TUs 9 (.slice h.u s.us.length h.uc) s.us.length (usCells s.us)).star ((rowE TSe 4 (.slice h.s s.ss.length h.sc) s.ss.length (seCells s.ss)).star ((rowE TPa 3 (.slice h.p s.ad.length h.pc) s.ad.length (paCells s.ad)).star C)))))) :=
  (((((Ass.imp.swap _ _ C).under _).under _).under _).under _).trans (((((Ass.imp.swap _ _ _).under _).under _).under _).trans (Ass.imp.up3 _ _ _ _ _))
/-- The state in the block becomes another one: the whole by its parts. -/
theorem TD.is {c' : Cf} {h' : Sv} {s' : St} {m' : Option Nat} {d : Array Value} (hd : d = tdC c' h' s' m') (q : At w0 ((ownA p d TTd).star ((spA m' s'.sp).star (StA h' s' C))) W) : At w0 (TD p c' h' s' m' C) W := by subst hd; exact q
end
theorem td_cell {W : World} (c : Array Value) (T : TypeId) {p : Addr} {v : Value} (hq : W.cell? p = some v) : (W.alloc (.cells c T)).cell? p = some v := by
  have hlt : p.block < W.heap.size := by
    unfold World.cell? at hq
    cases h : W.heap[p.block]? with
    | none => simp [h] at hq
    | some o => exact (Array.getElem?_eq_some_iff.1 h).1
  rw [((Below.refl W.heap.size W).alloc (Nat.le_refl _) _).cell (p := p) hlt]
  exact hq
theorem tdisU (q : Nat) (x : Int) (a : Us) (W : World) (hq : W.cell? ⟨q, 0, none⟩ = some (.int .i64 x)) : Calls Tryz.prog 93 #[.agg #[.int .i64 a.u, .int .i64 a.k, .int .i64 a.s, .int .i64 a.q, .int .i64 a.used, .int .i64 a.lf, .int .i64 a.lu, .int .i64 a.st, .int .i64 a.g], .pointer (some ⟨q, 0, none⟩)] W fun e w' => e = .returned (.bool (decide (a.u = x))) ∧ Below W.heap.size W w' := by
  have hq2 := td_cell #[.int .i64 a.u, .int .i64 a.k, .int .i64 a.s, .int .i64 a.q, .int .i64 a.used, .int .i64 a.lf, .int .i64 a.lu, .int .i64 a.st, .int .i64 a.g] TUs hq
  have HB := Lib.hid ((Below.refl W.heap.size W).alloc (Nat.le_refl _) (.cells #[.int .i64 a.u, .int .i64 a.k, .int .i64 a.s, .int .i64 a.q, .int .i64 a.used, .int .i64 a.lf, .int .i64 a.lu, .int .i64 a.st, .int .i64 a.g] TUs))
  clear hq
  go_enter Tryz.func93, Tryz.ntmps93
  go_wp2
  go_ret
  exact ⟨by simp; try rfl, HB.out⟩
theorem tdgtU (q : Nat) (x : Int) (a : Us) (W : World) (hq : W.cell? ⟨q, 1, none⟩ = some (.int .i64 x)) : Calls Tryz.prog 79 #[.agg #[.int .i64 a.u, .int .i64 a.k, .int .i64 a.s, .int .i64 a.q, .int .i64 a.used, .int .i64 a.lf, .int .i64 a.lu, .int .i64 a.st, .int .i64 a.g], .pointer (some ⟨q, 0, none⟩)] W fun e w' => e = .returned (.bool (decide (x < a.u))) ∧ Below W.heap.size W w' := by
  have hq2 := td_cell #[.int .i64 a.u, .int .i64 a.k, .int .i64 a.s, .int .i64 a.q, .int .i64 a.used, .int .i64 a.lf, .int .i64 a.lu, .int .i64 a.st, .int .i64 a.g] TUs hq
  have HB := Lib.hid ((Below.refl W.heap.size W).alloc (Nat.le_refl _) (.cells #[.int .i64 a.u, .int .i64 a.k, .int .i64 a.s, .int .i64 a.q, .int .i64 a.used, .int .i64 a.lf, .int .i64 a.lu, .int .i64 a.st, .int .i64 a.g] TUs))
  clear hq
  go_enter Tryz.func79, Tryz.ntmps79
  go_wp2
  go_ret
  exact ⟨by simp; try rfl, HB.out⟩
theorem tdisS (q : Nat) (x : Int) (a : Se) (W : World) (hq : W.cell? ⟨q, 2, none⟩ = some (.int .i64 x)) : Calls Tryz.prog 83 #[.agg #[.int .i64 a.s, .int .i64 a.u, .int .i64 a.a, .int .i64 a.t], .pointer (some ⟨q, 0, none⟩)] W fun e w' => e = .returned (.bool (decide (a.s = x))) ∧ Below W.heap.size W w' := by
  have hq2 := td_cell #[.int .i64 a.s, .int .i64 a.u, .int .i64 a.a, .int .i64 a.t] TSe hq
  have HB := Lib.hid ((Below.refl W.heap.size W).alloc (Nat.le_refl _) (.cells #[.int .i64 a.s, .int .i64 a.u, .int .i64 a.a, .int .i64 a.t] TSe))
  clear hq
  go_enter Tryz.func83, Tryz.ntmps83
  go_wp2
  go_ret
  exact ⟨by simp; try rfl, HB.out⟩
set_option maxRecDepth 100000 in
set_option maxHeartbeats 4000000 in
theorem tdixU (P : Us → Bool) (q : Nat) {w : World} {ao : Option Addr} {n cap : Nat} {es : List Us} (hes : UsIn [] w ao n es)
    (hp : ∀ (W : World) (a : Us), Below w.heap.size w W → Calls Tryz.prog 93 #[.agg #[.int .i64 a.u, .int .i64 a.k, .int .i64 a.s, .int .i64 a.q, .int .i64 a.used, .int .i64 a.lf, .int .i64 a.lu, .int .i64 a.st, .int .i64 a.g], .pointer (some ⟨q, 0, none⟩)] W fun e w' => e = .returned (.bool (P a)) ∧ Below W.heap.size W w') :
    Calls Tryz.prog 78 #[.slice ao n cap, .func (.func 93) #[] #[.pointer (some ⟨q, 0, none⟩)]] w fun e w' => e = .returned (.int .i64 (ixN (ixP P es 0))) ∧ Below w.heap.size w w' := by
  have hb0 := Below.refl w.heap.size w
  have HL := Lib.hid hes.len
  have HE := Lib.hid (fun k (hk : k < n) => us_el hes (k := k) hk)
  have HP := Lib.hid hp
  have hfew := hes.few
  clear hes hp
  go_enter Tryz.func78, Tryz.ntmps78
  go_wp2
  go_loopw [5, 8] (fun _ i wr => ∃ k : Nat, k ≤ n ∧ i = .int .i64 (k : Int) ∧ Aside (ixP P (es.take k) 0 = Option.none) ∧ Below w.heap.size w wr) (fun _ i _ => n - (intOf i).toNat)
  case atStart => exact ⟨0, Nat.zero_le _, rfl, by rw [List.take_zero]; exact (rfl : ixP P [] 0 = Option.none), hb0⟩
  case round =>
    clear hb0
    obtain ⟨k, hk, rfl, hno, hb⟩ := hrel
    have HNO := Lib.hid hno.out
    clear hno
    by_cases hlt : k < n
    · obtain ⟨b, off, a, rfl, ha, hcell⟩ := HE.out k hlt
      obtain ⟨c0, c1, c2, c3, c4, c5, c6, c7, c8⟩ := hcell _ hb
      have hke : k < es.length := by rw [← HL.out]; exact hlt
      have hpa := HP.out wr a hb
      have HB := Lib.hid (fun w' (h : Below wr.heap.size wr w') => hb.trans (h.mono hb.size))
      have HA := Lib.hid ha
      clear ha hcell hb
      cases hq : P a with
      | true =>
        rw [hq] at hpa
        have HPA := Lib.hid hpa
        have HF := Lib.hid (ixP_hit hke HNO.out (z := Us.none) (by rw [HA.out]; exact hq))
        clear hpa hq hke
        go_wp2_with (go_at_call 93; (with_reducible refine HPA.out.mono ?_); rintro e w1 ⟨rfl, hb1⟩)
        go_ret
        exact ⟨by rw [HF.out]; rfl, HB.out _ hb1⟩
      | false =>
        rw [hq] at hpa
        have HPA := Lib.hid hpa
        have HF := Lib.hid (show ixP P (es.take (k + 1)) 0 = Option.none by rw [ixP_take hke HNO.out (z := Us.none), HA.out, hq]; rfl)
        clear hpa hq hke
        go_wp2_with (go_at_call 93; (with_reducible refine HPA.out.mono ?_); rintro e w1 ⟨rfl, hb1⟩)
        go_roundw
        case rel => exact ⟨k + 1, by omega, by go_num, HF.out, HB.out _ hb1⟩
        case measure => simp [intOf]; omega
    · obtain rfl : k = n := by omega
      have HF := Lib.hid (show ixP P es 0 = Option.none by have := HNO.out; rwa [HL.out, List.take_length] at this)
      clear hlt hk
      go_wp2
      go_ret
      exact ⟨by rw [HF.out]; rfl, hb⟩
set_option maxRecDepth 100000 in
set_option maxHeartbeats 4000000 in
theorem tdixG (P : Us → Bool) (q : Nat) {w : World} {ao : Option Addr} {n cap : Nat} {es : List Us} (hes : UsIn [] w ao n es)
    (hp : ∀ (W : World) (a : Us), Below w.heap.size w W → Calls Tryz.prog 79 #[.agg #[.int .i64 a.u, .int .i64 a.k, .int .i64 a.s, .int .i64 a.q, .int .i64 a.used, .int .i64 a.lf, .int .i64 a.lu, .int .i64 a.st, .int .i64 a.g], .pointer (some ⟨q, 0, none⟩)] W fun e w' => e = .returned (.bool (P a)) ∧ Below W.heap.size W w') :
    Calls Tryz.prog 78 #[.slice ao n cap, .func (.func 79) #[] #[.pointer (some ⟨q, 0, none⟩)]] w fun e w' => e = .returned (.int .i64 (ixN (ixP P es 0))) ∧ Below w.heap.size w w' := by
  have hb0 := Below.refl w.heap.size w
  have HL := Lib.hid hes.len
  have HE := Lib.hid (fun k (hk : k < n) => us_el hes (k := k) hk)
  have HP := Lib.hid hp
  have hfew := hes.few
  clear hes hp
  go_enter Tryz.func78, Tryz.ntmps78
  go_wp2
  go_loopw [5, 8] (fun _ i wr => ∃ k : Nat, k ≤ n ∧ i = .int .i64 (k : Int) ∧ Aside (ixP P (es.take k) 0 = Option.none) ∧ Below w.heap.size w wr) (fun _ i _ => n - (intOf i).toNat)
  case atStart => exact ⟨0, Nat.zero_le _, rfl, by rw [List.take_zero]; exact (rfl : ixP P [] 0 = Option.none), hb0⟩
  case round =>
    clear hb0
    obtain ⟨k, hk, rfl, hno, hb⟩ := hrel
    have HNO := Lib.hid hno.out
    clear hno
    by_cases hlt : k < n
    · obtain ⟨b, off, a, rfl, ha, hcell⟩ := HE.out k hlt
      obtain ⟨c0, c1, c2, c3, c4, c5, c6, c7, c8⟩ := hcell _ hb
      have hke : k < es.length := by rw [← HL.out]; exact hlt
      have hpa := HP.out wr a hb
      have HB := Lib.hid (fun w' (h : Below wr.heap.size wr w') => hb.trans (h.mono hb.size))
      have HA := Lib.hid ha
      clear ha hcell hb
      cases hq : P a with
      | true =>
        rw [hq] at hpa
        have HPA := Lib.hid hpa
        have HF := Lib.hid (ixP_hit hke HNO.out (z := Us.none) (by rw [HA.out]; exact hq))
        clear hpa hq hke
        go_wp2_with (go_at_call 79; (with_reducible refine HPA.out.mono ?_); rintro e w1 ⟨rfl, hb1⟩)
        go_ret
        exact ⟨by rw [HF.out]; rfl, HB.out _ hb1⟩
      | false =>
        rw [hq] at hpa
        have HPA := Lib.hid hpa
        have HF := Lib.hid (show ixP P (es.take (k + 1)) 0 = Option.none by rw [ixP_take hke HNO.out (z := Us.none), HA.out, hq]; rfl)
        clear hpa hq hke
        go_wp2_with (go_at_call 79; (with_reducible refine HPA.out.mono ?_); rintro e w1 ⟨rfl, hb1⟩)
        go_roundw
        case rel => exact ⟨k + 1, by omega, by go_num, HF.out, HB.out _ hb1⟩
        case measure => simp [intOf]; omega
    · obtain rfl : k = n := by omega
      have HF := Lib.hid (show ixP P es 0 = Option.none by have := HNO.out; rwa [HL.out, List.take_length] at this)
      clear hlt hk
      go_wp2
      go_ret
      exact ⟨by rw [HF.out]; rfl, hb⟩
set_option maxRecDepth 100000 in
set_option maxHeartbeats 4000000 in
theorem tdixS (P : Se → Bool) (q : Nat) {w : World} {ao : Option Addr} {n cap : Nat} {es : List Se} (hes : SeIn [] w ao n es)
    (hp : ∀ (W : World) (a : Se), Below w.heap.size w W → Calls Tryz.prog 83 #[.agg #[.int .i64 a.s, .int .i64 a.u, .int .i64 a.a, .int .i64 a.t], .pointer (some ⟨q, 0, none⟩)] W fun e w' => e = .returned (.bool (P a)) ∧ Below W.heap.size W w') :
    Calls Tryz.prog 82 #[.slice ao n cap, .func (.func 83) #[] #[.pointer (some ⟨q, 0, none⟩)]] w fun e w' => e = .returned (.int .i64 (ixN (ixP P es 0))) ∧ Below w.heap.size w w' := by
  have hb0 := Below.refl w.heap.size w
  have HL := Lib.hid hes.len
  have HE := Lib.hid (fun k (hk : k < n) => se_el hes (k := k) hk)
  have HP := Lib.hid hp
  have hfew := hes.few
  clear hes hp
  go_enter Tryz.func82, Tryz.ntmps82
  go_wp2
  go_loopw [5, 8] (fun _ i wr => ∃ k : Nat, k ≤ n ∧ i = .int .i64 (k : Int) ∧ Aside (ixP P (es.take k) 0 = Option.none) ∧ Below w.heap.size w wr) (fun _ i _ => n - (intOf i).toNat)
  case atStart => exact ⟨0, Nat.zero_le _, rfl, by rw [List.take_zero]; exact (rfl : ixP P [] 0 = Option.none), hb0⟩
  case round =>
    clear hb0
    obtain ⟨k, hk, rfl, hno, hb⟩ := hrel
    have HNO := Lib.hid hno.out
    clear hno
    by_cases hlt : k < n
    · obtain ⟨b, off, a, rfl, ha, hcell⟩ := HE.out k hlt
      obtain ⟨c0, c1, c2, c3⟩ := hcell _ hb
      have hke : k < es.length := by rw [← HL.out]; exact hlt
      have hpa := HP.out wr a hb
      have HB := Lib.hid (fun w' (h : Below wr.heap.size wr w') => hb.trans (h.mono hb.size))
      have HA := Lib.hid ha
      clear ha hcell hb
      cases hq : P a with
      | true =>
        rw [hq] at hpa
        have HPA := Lib.hid hpa
        have HF := Lib.hid (ixP_hit hke HNO.out (z := Se.none) (by rw [HA.out]; exact hq))
        clear hpa hq hke
        go_wp2_with (go_at_call 83; (with_reducible refine HPA.out.mono ?_); rintro e w1 ⟨rfl, hb1⟩)
        go_ret
        exact ⟨by rw [HF.out]; rfl, HB.out _ hb1⟩
      | false =>
        rw [hq] at hpa
        have HPA := Lib.hid hpa
        have HF := Lib.hid (show ixP P (es.take (k + 1)) 0 = Option.none by rw [ixP_take hke HNO.out (z := Se.none), HA.out, hq]; rfl)
        clear hpa hq hke
        go_wp2_with (go_at_call 83; (with_reducible refine HPA.out.mono ?_); rintro e w1 ⟨rfl, hb1⟩)
        go_roundw
        case rel => exact ⟨k + 1, by omega, by go_num, HF.out, HB.out _ hb1⟩
        case measure => simp [intOf]; omega
    · obtain rfl : k = n := by omega
      have HF := Lib.hid (show ixP P es 0 = Option.none by have := HNO.out; rwa [HL.out, List.take_length] at this)
      clear hlt hk
      go_wp2
      go_ret
      exact ⟨by rw [HF.out]; rfl, hb⟩
set_option maxRecDepth 100000 in
/-- userAt. -/
theorem tuserat {W : World} {p : Nat} {c : Cf} {h : Sv} {s : St} {m : Option Nat} (kp : Blk W p (tdC c h s m)) (hu : UsIn [] W h.u s.us.length s.us) (u : Int) :
    Calls Tryz.prog 77 #[.pointer (some ⟨p, 0, none⟩), .int .i64 u] W fun e w' => e = .returned (.int .i64 (ixN (usAt s.us u))) ∧ Below W.heap.size W w' := by
  have hb := (Below.refl W.heap.size W).alloc (Nat.le_refl _) (.cells #[.int .i64 u] 3)
  have kq := Blk.new W #[.int .i64 u] 3
  have kp2 := kp.alloc (.cells #[.int .i64 u] 3)
  have HI := Lib.hid (tdixU (fun x => decide (x.u = u)) W.heap.size (cap := h.uc) (us_on hu hb) (fun W2 a hW => tdisU W.heap.size u a W2 ((hW.cell (p := ⟨W.heap.size, 0, none⟩) (by simp)).trans (kq.cell 0))))
  have HB := Lib.hid hb
  have e1 := kp2.cell
  clear hb kq kp kp2 hu
  go_enter Tryz.func77, Tryz.ntmps77
  go_wp2_with (go_at_call 78; (with_reducible refine HI.out.mono ?_); rintro e w1 ⟨rfl, hb1⟩)
  go_ret
  exact ⟨rfl, HB.out.trans (hb1.mono HB.out.size)⟩
/-- raise, of a cell that may be written. -/
theorem traise_yes {W : World} {p i : Nat} {x : Int} (hc : W.cell? ⟨p, i, none⟩ = some (.int .i64 x)) (hf : W.frozen? ⟨p, i, none⟩ = false) (h1 : x < 1073741823) (h0 : -9223372036854775808 ≤ x) :
    Calls Tryz.prog 60 #[.pointer (some ⟨p, i, none⟩)] W fun e w' => e = .returned (.bool true) ∧ w' = W.setCell ⟨p, i, none⟩ (.int .i64 (x + 1)) := by
  have hn : ¬ 1073741823 ≤ x := by omega
  have hw : IntKind.i64.wrap (x + 1) = x + 1 := by rw [IntKind.wrap_i64]; omega
  go_enter Tryz.func60, Tryz.ntmps60
  go_wp2
  go_ret
  exact ⟨rfl, rfl⟩
theorem traise_no {W : World} {p i : Nat} {x : Int} (hc : W.cell? ⟨p, i, none⟩ = some (.int .i64 x)) (h1 : ¬ x < 1073741823) :
    Calls Tryz.prog 60 #[.pointer (some ⟨p, i, none⟩)] W fun e w' => e = .returned (.bool false) ∧ W = w' := by
  have hn : 1073741823 ≤ x := by omega
  clear h1
  go_enter Tryz.func60, Tryz.ntmps60
  go_wp2
  go_ret
  exact ⟨rfl, rfl⟩
theorem tsum (x y r : Int) (hr : stSum x y = r) (y0 : 0 ≤ y) (y1 : y ≤ 1073741823) (x0 : -9223372036854775808 ≤ x) (W : World) : Calls Tryz.prog 85 #[.int .i64 x, .int .i64 y] W fun e w' => e = .returned (.int .i64 r) ∧ W = w' := by
  subst hr
  unfold stSum
  have hw : IntKind.i64.wrap (1073741823 - y) = 1073741823 - y := by rw [IntKind.wrap_i64]; omega
  by_cases h : 1073741823 - y < x
  · rw [if_pos h]
    go_enter Tryz.func85, Tryz.ntmps85
    go_wp2
    go_ret
    exact ⟨rfl, rfl⟩
  · rw [if_neg h]
    have hw2 : IntKind.i64.wrap (x + y) = x + y := by rw [IntKind.wrap_i64]; omega
    go_enter Tryz.func85, Tryz.ntmps85
    go_wp2
    go_ret
    exact ⟨rfl, rfl⟩
end Go.Proofs.YtopkcaflmpjhgaaGreat

namespace Go.Proofs.YtopkcaflmpjhgaaGreat
open Go Go.RowKit Go.Maps

/-- What a call leaves: told with another state, and true; or false. -/
def TdO (w0 : World) (p : Nat) (c : Cf) (C : Ass) (o : Option St) (e : Ending) (w' : World) : Prop := match o with
  | some t => e = .returned (.bool true) ∧ ∃ h m, At w0 (TD p c h t m C) w'
  | none => e = .returned (.bool false) ∧ At w0 C w'
theorem row_front (A C : Ass) : ((A.star emp).star C).imp (A.star C) := (star_assoc _ _ _).trans ((emp_left C).under _)
section
variable {w0 W : World} {A C : Ass} {p : Nat} {c : Cf} {h : Sv} {s : St} {m : Option Nat}
/-- A new row takes the old one's place. -/
theorem TD.newP (hC : C.Good) {a : Option Addr} {n cp : Nat} {L : List Pa} (hn : L.length = n) (q : At w0 ((rowE TPa 3 (.slice a n cp) n (paCells L)).star (TD p c h s m C)) W) :
    At w0 (TD p c { h with p := a, pc := cp } { s with ad := L } m C) (W.setCell ⟨p, 17, none⟩ (.slice a n cp)) := by
  subst hn
  have q1 := ((q.imp (TD.outP.under _)).imp (Ass.imp.swap _ _ _)).drop
  have g := ((spA_good m s.sp).star ((rowE_good TUs 9 (.slice h.u s.us.length h.uc) s.us.length (usCells s.us)).star ((rowE_good TSe 4 (.slice h.s s.ss.length h.sc) s.ss.length (seCells s.ss)).star ((rowE_good TIn 1 (.slice h.i s.sp.length h.ic) s.sp.length (inCells s.sp)).star hC))))
  exact (At.poke1 (rowE_good _ _ _ _ _) g q1 17 (.slice a L.length cp)).imp (TD.inP (s := { s with ad := L }) (h := { h with p := a, pc := cp }))
theorem TD.newS (hC : C.Good) {a : Option Addr} {n cp : Nat} {L : List Se} (hn : L.length = n) (q : At w0 ((rowE TSe 4 (.slice a n cp) n (seCells L)).star ((ownA p (tdC c h s m) TTd).star ((spA m s.sp).star ((rowE TUs 9 (.slice h.u s.us.length h.uc) s.us.length (usCells s.us)).star ((rowE TPa 3 (.slice h.p s.ad.length h.pc) s.ad.length (paCells s.ad)).star ((rowE TIn 1 (.slice h.i s.sp.length h.ic) s.sp.length (inCells s.sp)).star C)))))) W) :
    At w0 (TD p c { h with s := a, sc := cp } { s with ss := L } m C) (W.setCell ⟨p, 16, none⟩ (.slice a n cp)) := by
  subst hn
  have g := ((spA_good m s.sp).star ((rowE_good TUs 9 (.slice h.u s.us.length h.uc) s.us.length (usCells s.us)).star ((rowE_good TPa 3 (.slice h.p s.ad.length h.pc) s.ad.length (paCells s.ad)).star ((rowE_good TIn 1 (.slice h.i s.sp.length h.ic) s.sp.length (inCells s.sp)).star hC))))
  exact (At.poke1 (rowE_good _ _ _ _ _) g q 16 (.slice a L.length cp)).imp (TD.inS (s := { s with ss := L }) (h := { h with s := a, sc := cp }))
theorem TD.newU (hC : C.Good) {a : Option Addr} {n cp : Nat} {L : List Us} (hn : L.length = n) (q : At w0 ((rowE TUs 9 (.slice a n cp) n (usCells L)).star ((ownA p (tdC c h s m) TTd).star ((spA m s.sp).star ((rowE TSe 4 (.slice h.s s.ss.length h.sc) s.ss.length (seCells s.ss)).star ((rowE TPa 3 (.slice h.p s.ad.length h.pc) s.ad.length (paCells s.ad)).star ((rowE TIn 1 (.slice h.i s.sp.length h.ic) s.sp.length (inCells s.sp)).star C)))))) W) :
    At w0 (TD p c { h with u := a, uc := cp } { s with us := L } m C) (W.setCell ⟨p, 15, none⟩ (.slice a n cp)) := by
  subst hn
  have g := ((spA_good m s.sp).star ((rowE_good TSe 4 (.slice h.s s.ss.length h.sc) s.ss.length (seCells s.ss)).star ((rowE_good TPa 3 (.slice h.p s.ad.length h.pc) s.ad.length (paCells s.ad)).star ((rowE_good TIn 1 (.slice h.i s.sp.length h.ic) s.sp.length (inCells s.sp)).star hC))))
  exact (At.poke1 (rowE_good _ _ _ _ _) g q 15 (.slice a L.length cp)).imp (TD.inU (s := { s with us := L }) (h := { h with u := a, uc := cp }))
/-- A number of the state's. -/
theorem TD.num (hC : C.Good) (q : At w0 (TD p c h s m C) W) : At w0 (TD p c h { s with b := s.b + 1 } m C) (W.setCell ⟨p, 12, none⟩ (.int .i64 (s.b + 1))) ∧ At w0 (TD p c h { s with e := s.e + 1 } m C) (W.setCell ⟨p, 13, none⟩ (.int .i64 (s.e + 1))) ∧ At w0 (TD p c h { s with n := s.n + 1 } m C) (W.setCell ⟨p, 14, none⟩ (.int .i64 (s.n + 1))) := by
  have g := ((spA_good m s.sp).star (StA_good (h := h) (s := s) hC))
  exact ⟨q.poke g 12 _, q.poke g 13 _, q.poke g 14 _⟩
theorem TD.pa (q : At w0 (TD p c h s m C) W) (hn : s.ad.length ≤ 5864062014800) : PaIn [] W h.p s.ad.length s.ad := At.paI q.drop.drop.drop.drop rfl rfl (by omega)
theorem TD.se (q : At w0 (TD p c h s m C) W) (hn : s.ss.length ≤ 4398046511099) : SeIn [] W h.s s.ss.length s.ss := At.seI q.drop.drop.drop rfl rfl (by omega)
theorem TD.us (q : At w0 (TD p c h s m C) W) (hn : s.us.length ≤ 1954687338263) : UsIn [] W h.u s.us.length s.us := At.usI q.drop.drop rfl rfl (by omega)
theorem TD.none (q : At w0 (TD p c h s m C) W) : At w0 C W := At.stDrop q.drop.drop
def frO (s : St) (a t : Int) : Option St := if pfOk s.ad a t then some { s with ad := s.ad.set a.toNat ⟨false, (s.ad.getD a.toNat .none).l, t⟩ } else Option.none
set_option maxRecDepth 100000 in
set_option maxHeartbeats 2000000 in
theorem tfree_yes (hC : C.Good) (q : At w0 (TD p c h s m C) W) (hn : s.ad.length ≤ 5864062014800) {a t : Int} (ho : pfOk s.ad a t = true) {L : List Pa} (hL : s.ad.set a.toNat ⟨false, (s.ad.getD a.toNat .none).l, t⟩ = L) :
    Calls Tryz.prog 76 #[.pointer (some ⟨p, 0, none⟩), .int .i64 a, .int .i64 t] W fun e w' => ∃ b cc, e = .returned (.bool true) ∧ At w0 (TD p c { h with p := b, pc := cc } { s with ad := L } m C) w' := by
  have HP := Lib.hid (pfree (cap := h.pc) (TD.pa q hn) hn a t)
  have e0 := (TD.blk q).cell
  have HQ := Lib.hid q
  have h1 : pfL s.ad a t = L := by unfold pfL; rw [ho, ← hL]; rfl
  have h2 : pfE s.ad a t = 0 := by unfold pfE; rw [ho]; rfl
  rw [h1, h2] at HP
  clear hL h1 h2 ho q
  go_enter Tryz.func76, Tryz.ntmps76
  go_wp2_with (go_at_call 92; (with_reducible refine HP.out.mono ?_); rintro e w1 ⟨a2, c2, rfl, hS⟩; have q1 := (At.add (TD_good hC) HQ.out (pa_made hS)).imp (row_front _ _); have f1 := (TD.blk q1.drop).froz; have l1 := (TD.blk q1.drop).lt; have e1 := (TD.blk q1.drop).cell; have HX := Lib.hid (TD.newP hC rfl q1); clear q1 hS)
  go_ret
  exact ⟨_, _, rfl, HX.out⟩
set_option maxRecDepth 100000 in
set_option maxHeartbeats 2000000 in
theorem tfree_no (hC : C.Good) (q : At w0 (TD p c h s m C) W) (hn : s.ad.length ≤ 5864062014800) {a t : Int} (ho : pfOk s.ad a t = false) :
    Calls Tryz.prog 76 #[.pointer (some ⟨p, 0, none⟩), .int .i64 a, .int .i64 t] W fun e w' => e = .returned (.bool false) ∧ At w0 C w' := by
  have HP := Lib.hid (pfree (cap := h.pc) (TD.pa q hn) hn a t)
  have e0 := (TD.blk q).cell
  have HQ := Lib.hid q
  have h1 : pfL s.ad a t = [] := by unfold pfL; rw [ho]; rfl
  have h2 : pfE s.ad a t = 1600 := by unfold pfE; rw [ho]; rfl
  rw [h1, h2] at HP
  clear h1 h2 ho q
  go_enter Tryz.func76, Tryz.ntmps76
  go_wp2_with (go_at_call 92; (with_reducible refine HP.out.mono ?_); rintro e w1 ⟨a2, c2, rfl, hS⟩; have q1 := (At.add (TD_good hC) HQ.out (pa_made hS)).imp (row_front _ _); have f1 := (TD.blk q1.drop).froz; have l1 := (TD.blk q1.drop).lt; have e1 := (TD.blk q1.drop).cell; have HX := Lib.hid (TD.newP hC rfl q1); clear q1 hS)
  go_ret
  exact ⟨rfl, TD.none HX.out⟩
/-- No session any more. -/
theorem TD.noS (hC : C.Good) (q : At w0 (TD p c h s m C) W) : At w0 (TD p c { h with s := .none, sc := 0 } { s with ss := [] } m C) (W.setCell ⟨p, 16, .none⟩ (.slice .none 0 0)) :=
  TD.newS hC (L := []) rfl (At.erow0 TSe 4 (q.imp TD.outS).drop)
end
section
variable {w0 W : World} {C : Ass} {p : Nat} {c : Cf} {h : Sv} {s : St} {m : Option Nat}
set_option maxRecDepth 100000 in
set_option maxHeartbeats 8000000 in
/-- boot's frees, then what it does with the rest: all the frees may be. -/
theorem tboot (hC : C.Good) (q : At w0 (TD p c h s m C) W) (hfs : s.ss.length ≤ 4398046511099) (hfa : s.ad.length ≤ 5864062014800) {t : Int} (t0 : 0 ≤ t) (t1 : t ≤ 1048575) (q0 : 0 ≤ c.qua) (q1 : c.qua ≤ 65536) {o : Option St}
    (ho : o = if 0 ≤ s.b ∧ s.b < 1073741823 then (stFreeAll (t + c.qua) s.ss s.ad).map fun ad => { s with b := s.b + 1, ss := [], ad := ad } else none) :
    Calls Tryz.prog 56 #[.pointer (some ⟨p, 0, none⟩), .int .i64 t] W (TdO w0 p c C o) := by
  obtain ⟨hu, huc, hs, hsc, hp, hpc, hi, hic⟩ := h
  have hwt : IntKind.i64.wrap (t + c.qua) = t + c.qua := by rw [IntKind.wrap_i64]; omega
  obtain ⟨R, hR⟩ : ∃ R, stFreeAll (t + c.qua) s.ss s.ad = R := ⟨_, rfl⟩
  rw [hR] at ho
  obtain ⟨T, hT⟩ : ∃ T, t + c.qua = T := ⟨_, rfl⟩
  rw [hT] at hwt hR
  have e0 := (TD.blk q).cell
  have HQ := Lib.hid q
  have HR := Lib.hid hR
  have HO := Lib.hid ho
  clear q hR ho q0 q1 t0 t1
  go_enter Tryz.func56, Tryz.ntmps56
  go_wp2
  go_loopw [13] (fun i wr => ∃ (k : Nat) (ad : List Pa) (a : Option Addr) (cc : Nat), k ≤ s.ss.length ∧ i = .int .i64 (k : Int) ∧ stFreeAll T (s.ss.drop k) ad = R ∧ ad.length = s.ad.length ∧ Aside (At w0 (TD p c ⟨hu, huc, hs, hsc, a, cc, hi, hic⟩ { s with ad := ad } m C) wr)) (fun i _ => s.ss.length - (intOf i).toNat)
  case atStart => exact ⟨0, s.ad, hp, hpc, Nat.zero_le _, rfl, HR.out, rfl, (show Aside _ from HQ.out)⟩
  case round =>
    clear e0 HR HQ
    obtain ⟨k, ad, a, cc, hk, rfl, hF, hl, hall⟩ := hrel
    have q := hall.out
    clear hall
    have hfa2 : ({ s with ad := ad } : St).ad.length ≤ 5864062014800 := by show ad.length ≤ _; omega
    by_cases hlt : k < s.ss.length
    · obtain ⟨b, off, x, rfl, hx, hcell⟩ := se_el (TD.se q hfs) hlt
      dsimp only at hx hcell
      obtain ⟨c0, c1, c2, c3⟩ := hcell _ (Below.refl _ _)
      have hst := stFree_step (t := T) hlt hx ad
      rw [hF] at hst
      have hstT : pfOk ad x.a T = true → stFreeAll T (s.ss.drop (k + 1)) (ad.set x.a.toNat ⟨false, (ad.getD x.a.toNat .none).l, T⟩) = R := fun c => by rw [hst, if_pos c]
      have hstF : pfOk ad x.a T = false → R = none := fun c => by rw [hst, if_neg (by rw [c]; decide)]
      clear hst
      have hq2 := At.drewn (At.lay1 (TD_good hC) q (.cells #[.int .i64 x.s, .int .i64 x.u, .int .i64 x.a, .int .i64 x.t] TSe)) (TD_good hC)
      have e2 := (TD.blk hq2).cell
      cases hok : pfOk ad x.a T with
      | true =>
        have HST := Lib.hid (hstT hok)
        have HY := Lib.hid (tfree_yes (s := { s with ad := ad }) hC hq2 hfa2 hok rfl)
        clear hq2 hcell hF hstT hstF hok q hx
        go_wp2
        all_goals first | (go_region_with (first | (go_at_call 76; (with_reducible refine HY.out.mono ?_); rintro e w1 ⟨b2, cc2, rfl, hN⟩; have HN := Lib.hid hN; clear hN))) | fail
        all_goals
          (try simp only [List.getElem_toArray, List.getElem_cons_succ, List.getElem_cons_zero, Act.put, List.setIfInBounds_toArray, List.set_cons_zero, List.set_cons_succ])
          go_wp2
          go_roundw
          case rel => exact ⟨k + 1, _, b2, cc2, by omega, by go_num, HST.out, by rw [List.length_set]; exact hl, (show Aside _ from HN.out)⟩
          case measure => simp [intOf]; omega
      | false =>
        have HY := Lib.hid (tfree_no (s := { s with ad := ad }) hC hq2 hfa2 hok)
        obtain rfl : R = none := hstF hok
        have ho' : o = none := by rw [HO.out]; split <;> rfl
        subst ho'
        clear hq2 hcell hF hstT hstF hok q hx
        go_wp2
        all_goals first | (go_region_with (first | (go_at_call 76; (with_reducible refine HY.out.mono ?_); rintro e w1 ⟨rfl, hN⟩; have HN := Lib.hid hN; clear hN))) | fail
        all_goals
          (try simp only [List.getElem_toArray, List.getElem_cons_succ, List.getElem_cons_zero, Act.put, List.setIfInBounds_toArray, List.set_cons_zero, List.set_cons_succ])
          go_wp2
          go_ret
          exact ⟨rfl, HN.out⟩
    · obtain rfl : k = s.ss.length := by omega
      rw [List.drop_length] at hF
      obtain rfl : some ad = R := hF
      have e0 := (TD.blk q).cell
      have f0 := (TD.blk q).froz
      have l0 := (TD.blk q).lt
      have q3 := TD.noS hC q
      have e3 := (TD.blk q3).cell
      have f3 := (TD.blk q3).froz
      have HN3 := Lib.hid (TD.num hC q3).1
      have HQ3 := Lib.hid q3
      clear q3 q
      by_cases h0 : 0 ≤ s.b
      · by_cases h1 : s.b < 1073741823
        · have HR1 := Lib.hid (traise_yes (x := s.b) (e3 12) (f3 12) h1 (by omega))
          rw [if_pos ⟨h0, h1⟩] at HO
          go_wp2_with (go_at_call 60; (with_reducible refine HR1.out.mono ?_); rintro e w1 ⟨rfl, rfl⟩)
          go_ret
          rw [HO.out]
          exact ⟨rfl, _, _, HN3.out⟩
        · have HR1 := Lib.hid (traise_no (x := s.b) (e3 12) h1)
          rw [if_neg (fun c => h1 c.2)] at HO
          go_wp2_with (go_at_call 60; (with_reducible refine HR1.out.mono ?_); rintro e w1 ⟨rfl, rfl⟩)
          go_ret
          rw [HO.out]
          exact ⟨rfl, TD.none HQ3.out⟩
      · rw [if_neg (fun c => h0 c.1)] at HO
        go_wp2_with fail
        go_ret
        rw [HO.out]
        exact ⟨rfl, TD.none HQ3.out⟩
end
end Go.Proofs.YtopkcaflmpjhgaaGreat

namespace Go.Proofs.YtopkcaflmpjhgaaGreat
open Go Go.RowKit Go.Maps

section
variable {w0 W : World} {A C : Ass} {p b : Nat} {c : Cf} {h : Sv} {s : St} {m : Option Nat} {d : Array Value} {T : TypeId}
theorem TD.into : (A.star (TD p c h s m C)).imp (TD p c h s m (A.star C)) :=
  (Ass.imp.swap _ _ _).trans (((Ass.imp.swap _ _ _).under _).trans (((st_in h s A C).under _).under _))
theorem TD.outof : (TD p c h s m (A.star C)).imp (A.star (TD p c h s m C)) :=
  ((((st_out h s A C).under _).under _).trans ((Ass.imp.swap _ _ _).under _)).trans (Ass.imp.swap _ _ _)
/-- A new block goes behind. -/
theorem TD.hold (hC : C.Good) (q : At w0 (TD p c h s m C) W) (d : Array Value) (T : TypeId) : At w0 (TD p c h s m ((ownA W.heap.size d T).star C)) (W.alloc (.cells d T)) :=
  (At.hold (TD_good hC) q d T).imp TD.into
theorem TD.unhold (q : At w0 (TD p c h s m (A.star C)) W) : At w0 (TD p c h s m C) W := (q.imp TD.outof).drop
theorem TD.ev (q : At w0 (TD p c h s m ((ownA b d T).star C)) W) : Blk W b d := by
  have k := (TD.none q).own
  exact ⟨k.1, k.2.1, k.2.2⟩
end
end Go.Proofs.YtopkcaflmpjhgaaGreat

