/- Put together: Tdg, Tdi. Conditions: each theorem's own. -/
import Derived.Test.YtopkcaflmpjhgaaGreatBta
import Derived.WalkSpells
import Derived.Maps.OwnSet
import Derived.Carry
import Derived.Test.YtopkcaflmpjhgaaGreatBtc
import Derived.Test.YtopkcaflmpjhgaaGreatTdd
import Derived.Test.YtopkcaflmpjhgaaGreatBte
namespace Go.Proofs.YtopkcaflmpjhgaaGreat
open Go Go.RowKit Go.Maps

abbrev TMp : TypeId := 82
abbrev TUn : TypeId := 124
theorem mp_law : Keyed Tryz.prog 3 := int_keyed Tryz.underlying3
theorem mp_zero (w : World) : (zeroValue TUn).run Tryz.prog w = .ok (.agg #[]) w := by kernel_rfl
def Num64 (x : Int) : Prop := -9223372036854775808 ≤ x ∧ x ≤ 9223372036854775807
theorem mp_key {x : Int} (h : Num64 x) : keyOf Tryz.prog 3 (.int .i64 x) = some (.int .i64 x) := keyOf_int_mk Tryz.underlying3 (WalkArith.wf_i64 h)
theorem spD_has (l : List Int) (x : Int) : Maps.has (spD l) (.int .i64 x) = l.contains x := by
  unfold spD
  rw [has_setOf _ _ _ (by intro y hy; obtain ⟨z, -, rfl⟩ := List.mem_map.1 hy; trivial), List.any_map]
  rw [Bool.eq_iff_iff, List.any_eq_true, List.contains_iff_mem]
  constructor
  · rintro ⟨y, hy, e⟩
    have : y = x := by simpa [Lit.sameKey] using e
    exact this ▸ hy
  · intro h
    exact ⟨x, h, by simp [Lit.sameKey]⟩
theorem spD_snoc (l : List Int) (x : Int) : spD (l ++ [x]) = (spD l).put (.int .i64 x) (.agg []) := by
  unfold spD
  rw [List.map_append, List.map_singleton, setOf_snoc]
section
variable {w0 W w : World} {A C : Ass} {p : Nat} {c : Cf} {h : Sv} {s : St} {m : Option Nat} {b : Nat} {l : List Int}
theorem At.mapOwn (q : At w0 ((spA (some b) l).star C) W) : W.ownsMap Tryz.prog 3 (unitElem (H := Unit)) b l.length (spD l) := by
  obtain ⟨_, ⟨_, _, _, ⟨h1, _⟩, _⟩, _⟩ := q
  exact h1
theorem At.mapNew (hC : C.Good) (q : At w0 C W) : At w0 ((spA (some W.heap.size) []).star C) (W.alloc (.map #[] 0)) :=
  At.add hC q ⟨[W.heap.size], ⟨World.ownsMap_made _ _ _ _, rfl⟩, (Tn.refl _ _).alloc _, fun k hk => .inr (by simp at hk; omega)⟩
theorem At.mapPut (hC : C.Good) (q : At w0 ((spA (some b) l).star C) W) (hl : l.length < maxLen) {x : Int} (hx : Num64 x) :
    ∃ W', (Instr.mapUpdate TMp (.map (some b)) (.int .i64 x) (.agg #[])).run Tryz.prog W = .ok () W' ∧ At w0 ((spA (some b) (l ++ [x])).star C) W' := by
  obtain ⟨W', hr, hown, ht⟩ := (At.mapOwn q).store mp_law Tryz.underlying82 hl (mp_key hx) (unitElem_mk (H := Unit))
  refine ⟨W', hr, q.turn fun F hF => Becomes.left hC hF ?_⟩
  rintro F1 ⟨_, rfl⟩
  refine ⟨[b], ⟨?_, rfl⟩, (Tn.refl _ _).grown ht.grown (fun k hk => .inl (by simp at hk; simp [hk])), fun k hk => .inl hk⟩
  rw [List.length_append, spD_snoc]
  exact hown
/-- The operation, where its run is known. -/
theorem wp_mapUpdate_is {P : Program} (w : World) {ops : Array Oper} {rest : List Oper} {o : Oper} {a : Act} {Q : Exit → Act → World → Prop}
    (hg : o.guard = .none) (m x v : Operand) (t : TypeId) (hop : o.op = Op.mapUpdate t m x v) {vm key val : Value} (hm : a.eval m = vm) (hx : a.eval x = key) (hv : a.eval v = val) {w' : World} (hrun : (Instr.mapUpdate t vm key val).run P w = .ok () w')
    (hK : wpList P ops Q rest (a.put o.dst undef) w') : wpList P ops Q (o :: rest) a w := by
  refine wpList_plain hg fun K' hK' => ?_
  unfold Oper.wp
  simp [execOp, hop, hm, hx, hv, hrun, Result.andThen]
  exact hK' _ _ hK
/-- Told, with the map as it is while it is filled. -/
abbrev TDM (p : Nat) (c : Cf) (h : Sv) (s : St) (m : Option Nat) (l : List Int) (C : Ass) : Ass := (ownA p (tdC c h s m) TTd).star ((spA m l).star (StA h s C))
theorem TDM_good (hC : C.Good) : (TDM p c h s m l C).Good := (ownA_good _ _ _).star ((spA_good _ _).star (StA_good hC))
theorem TDM.blk (q : At w0 (TDM p c h s m l C) W) : Blk W p (tdC c h s m) := ⟨q.own.1, q.own.2.1, q.own.2.2⟩
theorem TDM.in (q : At w0 (TDM p c h s m l C) W) (hn : s.sp.length ≤ 17592186044411) : InIn [] W h.i s.sp.length s.sp := At.inI q.drop.drop.drop.drop.drop rfl rfl (by omega)
/-- A new map. -/
theorem TDM.new (hC : C.Good) (q : At w0 (TD p c h s none C) W) : At w0 (TDM p c h s (some W.heap.size) [] C) ((W.alloc (.map #[] 0)).setCell ⟨p, 19, .none⟩ (.map (some W.heap.size))) := by
  have q1 := At.mapNew (TD_good hC) q
  have g := (spA_good none s.sp).star (StA_good (h := h) (s := s) hC)
  have q2 := At.poke1 (spA_good _ _) g q1 19 (.map (some W.heap.size))
  have q3 := (q2.imp (Ass.imp.up2 _ _ _ _)).drop
  exact q3.imp (Ass.imp.swap _ _ _)
theorem TDM.put (hC : C.Good) (q : At w0 (TDM p c h s (some b) l C) W) (hl : l.length < maxLen) {x : Int} (hx : Num64 x) :
    ∃ W', (Instr.mapUpdate TMp (.map (some b)) (.int .i64 x) (.agg #[])).run Tryz.prog W = .ok () W' ∧ At w0 (TDM p c h s (some b) (l ++ [x]) C) W' := by
  obtain ⟨W', h1, h2⟩ := At.mapPut ((ownA_good _ _ _).star (StA_good hC)) (q.imp (Ass.imp.swap _ _ _)) hl hx
  exact ⟨W', h1, h2.imp (Ass.imp.swap _ _ _)⟩
theorem TDM.newI (hC : C.Good) {a : Option Addr} {n cp : Nat} {L : List Int} (hn : L.length = n) (q : At w0 ((rowE TIn 1 (.slice a n cp) n (inCells L)).star ((ownA p (tdC c h s m) TTd).star ((spA m L).star ((rowE TUs 9 (.slice h.u s.us.length h.uc) s.us.length (usCells s.us)).star ((rowE TSe 4 (.slice h.s s.ss.length h.sc) s.ss.length (seCells s.ss)).star ((rowE TPa 3 (.slice h.p s.ad.length h.pc) s.ad.length (paCells s.ad)).star C)))))) W) :
    At w0 (TD p c { h with i := a, ic := cp } { s with sp := L } m C) (W.setCell ⟨p, 18, .none⟩ (.slice a n cp)) := by
  subst hn
  have g := ((spA_good m L).star ((rowE_good TUs 9 (.slice h.u s.us.length h.uc) s.us.length (usCells s.us)).star ((rowE_good TSe 4 (.slice h.s s.ss.length h.sc) s.ss.length (seCells s.ss)).star ((rowE_good TPa 3 (.slice h.p s.ad.length h.pc) s.ad.length (paCells s.ad)).star hC))))
  exact (At.poke1 (rowE_good _ _ _ _ _) g q 18 (.slice a L.length cp)).imp ((Ass.imp.dn3 _ _ _ _ _).trans (((((Ass.imp.swap _ _ _).under _).under _).under _).trans (((((Ass.imp.swap _ _ _).under _).under _).under _).under _)))
theorem TDM.outI : (TDM p c h s m l C).imp ((rowE TIn 1 (.slice h.i s.sp.length h.ic) s.sp.length (inCells s.sp)).star ((ownA p (tdC c h s m) TTd).star ((spA m l).star ((rowE TUs 9 (.slice h.u s.us.length h.uc) s.us.length (usCells s.us)).star ((rowE TSe 4 (.slice h.s s.ss.length h.sc) s.ss.length (seCells s.ss)).star ((rowE TPa 3 (.slice h.p s.ad.length h.pc) s.ad.length (paCells s.ad)).star C)))))) :=
  (((((Ass.imp.swap _ _ C).under _).under _).under _).under _).trans (((((Ass.imp.swap _ _ _).under _).under _).under _).trans (Ass.imp.up3 _ _ _ _ _))
theorem run_eql_map_nil_td (w : World) (p : Option Nat) : (binOp .eql TMp (.map p) (.map .none)).run Tryz.prog w = .ok (.bool p.isNone) w := by
  cases p <;> kernel_rfl
set_option maxRecDepth 100000 in
set_option maxHeartbeats 8000000 in
theorem tspend_h (hC : C.Good) (q : At w0 (TD p c h s (some b) C) W) (hfi : s.sp.length ≤ 17592186044410) (hw : ∀ y ∈ s.sp, Num64 y) {x : Int} (hx : Num64 x) (hh : s.sp.contains x = true) :
    Calls Tryz.prog 61 #[.pointer (some ⟨p, 0, none⟩), .int .i64 x] W fun e w' => e = .returned (.bool false) ∧ At w0 C w' := by
  have hmm := @run_makeMap Tryz.prog
  have HX := Lib.hid (And.intro hx hw)
  have hhas : Maps.has (spD s.sp) (.int .i64 x) = true := by rw [spD_has, hh]
  have HL := Lib.hid (show s.sp.length < maxLen by unfold maxLen; omega)
  have HL2 := Lib.hid (show s.sp.length + 1 ≤ _ from Nat.le_trans (Nat.succ_le_succ hfi) (by decide : 17592186044410 + 1 ≤ 17592186044416))
  have HLX := Lib.hid (show (s.sp ++ [x]).length = s.sp.length + 1 by simp)
  have HG := Lib.hid ((ownA_good p (tdC c h s (some b)) TTd).star ((spA_good (some b) (s.sp ++ [x])).star ((rowE_good TUs 9 (.slice h.u s.us.length h.uc) s.us.length (usCells s.us)).star ((rowE_good TSe 4 (.slice h.s s.ss.length h.sc) s.ss.length (seCells s.ss)).star ((rowE_good TPa 3 (.slice h.p s.ad.length h.pc) s.ad.length (paCells s.ad)).star hC)))))
  clear hx hw hh
  have e1 := (TD.blk q).cell
  have hnil := run_eql_map_nil_td W (some b)
  have HQ1 := Lib.hid (show At w0 (TDM p c h s (some b) s.sp C) W from q)
  clear q
  go_enter Tryz.func61, Tryz.ntmps61
  go_wp2_with (first
    | (at_lookup; refine wpList_lookup_own_unit _ rfl _ _ TMp rfl 3 TUn mp_law Tryz.underlying82 (mp_zero _) b s.sp.length (spD s.sp) rfl (At.mapOwn (HQ1.out.imp (Ass.imp.swap _ _ _))) _ _ rfl (mp_key HX.out.1) ?_; have e1b := (TDM.blk (At.lay1 (TDM_good hC) HQ1.out (.cells #[] TUn))).cell))
  go_ret
  exact ⟨rfl, TD.none (At.lay1 (TD_good hC) HQ1.out _)⟩
set_option maxRecDepth 100000 in
set_option maxHeartbeats 8000000 in
theorem tspend_n (hC : C.Good) (q : At w0 (TD p c h s (some b) C) W) (hfi : s.sp.length ≤ 17592186044410) (hw : ∀ y ∈ s.sp, Num64 y) {x : Int} (hx : Num64 x) (hh : s.sp.contains x = false) :
    Calls Tryz.prog 61 #[.pointer (some ⟨p, 0, none⟩), .int .i64 x] W fun e w' => e = .returned (.bool true) ∧ ∃ h m, At w0 (TD p c h { s with sp := s.sp ++ [x] } m C) w' := by
  have hmm := @run_makeMap Tryz.prog
  have HX := Lib.hid (And.intro hx hw)
  have hhas : Maps.has (spD s.sp) (.int .i64 x) = false := by rw [spD_has, hh]
  have HL := Lib.hid (show s.sp.length < maxLen by unfold maxLen; omega)
  have HL2 := Lib.hid (show s.sp.length + 1 ≤ _ from Nat.le_trans (Nat.succ_le_succ hfi) (by decide : 17592186044410 + 1 ≤ 17592186044416))
  have HLX := Lib.hid (show (s.sp ++ [x]).length = s.sp.length + 1 by simp)
  have HG := Lib.hid ((ownA_good p (tdC c h s (some b)) TTd).star ((spA_good (some b) (s.sp ++ [x])).star ((rowE_good TUs 9 (.slice h.u s.us.length h.uc) s.us.length (usCells s.us)).star ((rowE_good TSe 4 (.slice h.s s.ss.length h.sc) s.ss.length (seCells s.ss)).star ((rowE_good TPa 3 (.slice h.p s.ad.length h.pc) s.ad.length (paCells s.ad)).star hC)))))
  clear hx hw hh
  have e1 := (TD.blk q).cell
  have hnil := run_eql_map_nil_td W (some b)
  have HQ1 := Lib.hid (show At w0 (TDM p c h s (some b) s.sp C) W from q)
  clear q
  go_enter Tryz.func61, Tryz.ntmps61
  go_wp2_with (first
    | (at_lookup; refine wpList_lookup_own_unit _ rfl _ _ TMp rfl 3 TUn mp_law Tryz.underlying82 (mp_zero _) b s.sp.length (spD s.sp) rfl (At.mapOwn (HQ1.out.imp (Ass.imp.swap _ _ _))) _ _ rfl (mp_key HX.out.1) ?_; have e1b := (TDM.blk (At.lay1 (TDM_good hC) HQ1.out (.cells #[] TUn))).cell)
    | (at_mapUpdate; obtain ⟨w2, hrun, q2⟩ := TDM.put hC (At.lay1 (TDM_good hC) HQ1.out _) HL.out HX.out.1; refine wp_mapUpdate_is _ rfl _ _ _ TMp rfl rfl rfl rfl hrun ?_; have e2 := (TDM.blk q2).cell; have HQ2 := Lib.hid q2; clear hrun q2)
    | (at_builtin; refine in_appLit2 HG.out rfl _ _ rfl h.i s.sp.length h.ic s.sp [x] 1 rfl rfl rfl rfl rfl (HQ2.out.imp TDM.outI) HL2.out ?_; intro a3 c3 w3 q3; rw [HLX.out] at q3; have o3 := q3.drop.own; have e3 := o3.1; have f3 := o3.2.1; have l3 := o3.2.2; have HQ3 := Lib.hid (TDM.newI hC HLX.out q3); clear q3 o3))
  go_ret
  exact ⟨rfl, _, _, HQ3.out⟩
set_option maxRecDepth 100000 in
set_option maxHeartbeats 8000000 in
theorem tspend_mh (hC : C.Good) (q : At w0 (TD p c h s (none) C) W) (hfi : s.sp.length ≤ 17592186044410) (hw : ∀ y ∈ s.sp, Num64 y) {x : Int} (hx : Num64 x) (hh : s.sp.contains x = true) :
    Calls Tryz.prog 61 #[.pointer (some ⟨p, 0, none⟩), .int .i64 x] W fun e w' => e = .returned (.bool false) ∧ At w0 C w' := by
  have hmm := @run_makeMap Tryz.prog
  have HX := Lib.hid (And.intro hx hw)
  have hhas : Maps.has (spD s.sp) (.int .i64 x) = true := by rw [spD_has, hh]
  have HL := Lib.hid (show s.sp.length < maxLen by unfold maxLen; omega)
  have HL2 := Lib.hid (show s.sp.length + 1 ≤ _ from Nat.le_trans (Nat.succ_le_succ hfi) (by decide : 17592186044410 + 1 ≤ 17592186044416))
  have HLX := Lib.hid (show (s.sp ++ [x]).length = s.sp.length + 1 by simp)
  have HG := Lib.hid ((ownA_good p (tdC c h s (some W.heap.size)) TTd).star ((spA_good (some W.heap.size) (s.sp ++ [x])).star ((rowE_good TUs 9 (.slice h.u s.us.length h.uc) s.us.length (usCells s.us)).star ((rowE_good TSe 4 (.slice h.s s.ss.length h.sc) s.ss.length (seCells s.ss)).star ((rowE_good TPa 3 (.slice h.p s.ad.length h.pc) s.ad.length (paCells s.ad)).star hC)))))
  clear hx hw hh
  have e0 := (TD.blk q).cell
  have f0 := (TD.blk q).froz
  have l0 := (TD.blk q).lt
  have hnil := run_eql_map_nil_td W none
  have q1 := TDM.new hC q
  rw [World.setCell_alloc_past _ _ _ _ l0] at q1
  have em := (TDM.blk q1).cell
  have HQ0 := Lib.hid q1
  have HI0 := Lib.hid (fun (V : World) (l : List Int) (qv : At w0 (TDM p c h s (some W.heap.size) l C) V) => TDM.in qv (Nat.le_trans hfi (by decide)))
  clear q q1
  obtain ⟨hu, huc, hs, hsc, hp, hpc, hi, hic⟩ := h
  go_enter Tryz.func61, Tryz.ntmps61
  go_wp2
  go_loopw [6, 24] (fun _ i wr => ∃ k : Nat, k ≤ s.sp.length ∧ i = .int .i64 (k : Int) ∧ Aside (At w0 (TDM p c ⟨hu, huc, hs, hsc, hp, hpc, hi, hic⟩ s (some W.heap.size) (s.sp.take k) C) wr)) (fun _ i _ => s.sp.length - (intOf i).toNat)
  case atStart => exact ⟨0, Nat.zero_le _, rfl, (show Aside _ from by rw [List.take_zero]; exact HQ0.out)⟩
  case round =>
    clear HQ0 e0 f0 l0 em
    obtain ⟨k, hk, rfl, hall⟩ := hrel
    have q := hall.out
    clear hall
    by_cases hlt : k < s.sp.length
    · obtain ⟨b, off, y, rfl, hy, hcell⟩ := in_el (HI0.out _ _ q) hlt
      have hcy := hcell _ (Below.refl _ _)
      clear hcell
      have HT := Lib.hid (show s.sp.take (k + 1) = s.sp.take k ++ [y] by rw [List.take_succ_eq_append_getElem hlt, ← hy]; simp [List.getD, hlt])
      have HY := Lib.hid (show Num64 y from HX.out.2 y (by rw [← hy]; simp [List.getD, hlt]))
      have HLK := Lib.hid (show (s.sp.take k).length < maxLen by have := HL.out; rw [List.length_take]; omega)
      have e1 := (TDM.blk q).cell
      have HQ := Lib.hid q
      clear q hy
      go_wp2_with (at_mapUpdate; obtain ⟨w2, hrun, q2⟩ := TDM.put hC HQ.out HLK.out HY.out; refine wp_mapUpdate_is _ rfl _ _ _ TMp rfl rfl rfl rfl hrun ?_; have HQ2 := Lib.hid q2; clear hrun q2)
      go_roundw
      case rel => exact ⟨k + 1, by omega, by go_num, (show Aside _ from by rw [HT.out]; exact HQ2.out)⟩
      case measure => simp [intOf]; omega
    · obtain rfl : k = s.sp.length := by omega
      rw [List.take_length] at q
      have HQ1 := Lib.hid q
      have e1 := (TDM.blk q).cell
      clear q hlt hk
      go_wp2_with (first
        | (at_lookup; refine wpList_lookup_own_unit _ rfl _ _ TMp rfl 3 TUn mp_law Tryz.underlying82 (mp_zero _) W.heap.size s.sp.length (spD s.sp) rfl (At.mapOwn (HQ1.out.imp (Ass.imp.swap _ _ _))) _ _ rfl (mp_key HX.out.1) ?_; have e1b := (TDM.blk (At.lay1 (TDM_good hC) HQ1.out (.cells #[] TUn))).cell))
      go_ret
      exact ⟨rfl, TD.none (At.lay1 (TD_good hC) HQ1.out _)⟩
set_option maxRecDepth 100000 in
set_option maxHeartbeats 8000000 in
theorem tspend_mn (hC : C.Good) (q : At w0 (TD p c h s (none) C) W) (hfi : s.sp.length ≤ 17592186044410) (hw : ∀ y ∈ s.sp, Num64 y) {x : Int} (hx : Num64 x) (hh : s.sp.contains x = false) :
    Calls Tryz.prog 61 #[.pointer (some ⟨p, 0, none⟩), .int .i64 x] W fun e w' => e = .returned (.bool true) ∧ ∃ h m, At w0 (TD p c h { s with sp := s.sp ++ [x] } m C) w' := by
  have hmm := @run_makeMap Tryz.prog
  have HX := Lib.hid (And.intro hx hw)
  have hhas : Maps.has (spD s.sp) (.int .i64 x) = false := by rw [spD_has, hh]
  have HL := Lib.hid (show s.sp.length < maxLen by unfold maxLen; omega)
  have HL2 := Lib.hid (show s.sp.length + 1 ≤ _ from Nat.le_trans (Nat.succ_le_succ hfi) (by decide : 17592186044410 + 1 ≤ 17592186044416))
  have HLX := Lib.hid (show (s.sp ++ [x]).length = s.sp.length + 1 by simp)
  have HG := Lib.hid ((ownA_good p (tdC c h s (some W.heap.size)) TTd).star ((spA_good (some W.heap.size) (s.sp ++ [x])).star ((rowE_good TUs 9 (.slice h.u s.us.length h.uc) s.us.length (usCells s.us)).star ((rowE_good TSe 4 (.slice h.s s.ss.length h.sc) s.ss.length (seCells s.ss)).star ((rowE_good TPa 3 (.slice h.p s.ad.length h.pc) s.ad.length (paCells s.ad)).star hC)))))
  clear hx hw hh
  have e0 := (TD.blk q).cell
  have f0 := (TD.blk q).froz
  have l0 := (TD.blk q).lt
  have hnil := run_eql_map_nil_td W none
  have q1 := TDM.new hC q
  rw [World.setCell_alloc_past _ _ _ _ l0] at q1
  have em := (TDM.blk q1).cell
  have HQ0 := Lib.hid q1
  have HI0 := Lib.hid (fun (V : World) (l : List Int) (qv : At w0 (TDM p c h s (some W.heap.size) l C) V) => TDM.in qv (Nat.le_trans hfi (by decide)))
  clear q q1
  obtain ⟨hu, huc, hs, hsc, hp, hpc, hi, hic⟩ := h
  go_enter Tryz.func61, Tryz.ntmps61
  go_wp2
  go_loopw [6, 24] (fun _ i wr => ∃ k : Nat, k ≤ s.sp.length ∧ i = .int .i64 (k : Int) ∧ Aside (At w0 (TDM p c ⟨hu, huc, hs, hsc, hp, hpc, hi, hic⟩ s (some W.heap.size) (s.sp.take k) C) wr)) (fun _ i _ => s.sp.length - (intOf i).toNat)
  case atStart => exact ⟨0, Nat.zero_le _, rfl, (show Aside _ from by rw [List.take_zero]; exact HQ0.out)⟩
  case round =>
    clear HQ0 e0 f0 l0 em
    obtain ⟨k, hk, rfl, hall⟩ := hrel
    have q := hall.out
    clear hall
    by_cases hlt : k < s.sp.length
    · obtain ⟨b, off, y, rfl, hy, hcell⟩ := in_el (HI0.out _ _ q) hlt
      have hcy := hcell _ (Below.refl _ _)
      clear hcell
      have HT := Lib.hid (show s.sp.take (k + 1) = s.sp.take k ++ [y] by rw [List.take_succ_eq_append_getElem hlt, ← hy]; simp [List.getD, hlt])
      have HY := Lib.hid (show Num64 y from HX.out.2 y (by rw [← hy]; simp [List.getD, hlt]))
      have HLK := Lib.hid (show (s.sp.take k).length < maxLen by have := HL.out; rw [List.length_take]; omega)
      have e1 := (TDM.blk q).cell
      have HQ := Lib.hid q
      clear q hy
      go_wp2_with (at_mapUpdate; obtain ⟨w2, hrun, q2⟩ := TDM.put hC HQ.out HLK.out HY.out; refine wp_mapUpdate_is _ rfl _ _ _ TMp rfl rfl rfl rfl hrun ?_; have HQ2 := Lib.hid q2; clear hrun q2)
      go_roundw
      case rel => exact ⟨k + 1, by omega, by go_num, (show Aside _ from by rw [HT.out]; exact HQ2.out)⟩
      case measure => simp [intOf]; omega
    · obtain rfl : k = s.sp.length := by omega
      rw [List.take_length] at q
      have HQ1 := Lib.hid q
      have e1 := (TDM.blk q).cell
      clear q hlt hk
      go_wp2_with (first
        | (at_lookup; refine wpList_lookup_own_unit _ rfl _ _ TMp rfl 3 TUn mp_law Tryz.underlying82 (mp_zero _) W.heap.size s.sp.length (spD s.sp) rfl (At.mapOwn (HQ1.out.imp (Ass.imp.swap _ _ _))) _ _ rfl (mp_key HX.out.1) ?_; have e1b := (TDM.blk (At.lay1 (TDM_good hC) HQ1.out (.cells #[] TUn))).cell)
        | (at_mapUpdate; obtain ⟨w2, hrun, q2⟩ := TDM.put hC (At.lay1 (TDM_good hC) HQ1.out _) HL.out HX.out.1; refine wp_mapUpdate_is _ rfl _ _ _ TMp rfl rfl rfl rfl hrun ?_; have e2 := (TDM.blk q2).cell; have HQ2 := Lib.hid q2; clear hrun q2)
        | (at_builtin; refine in_appLit2 HG.out rfl _ _ rfl hi s.sp.length hic s.sp [x] 1 rfl rfl rfl rfl rfl (HQ2.out.imp TDM.outI) HL2.out ?_; intro a3 c3 w3 q3; rw [HLX.out] at q3; have o3 := q3.drop.own; have e3 := o3.1; have f3 := o3.2.1; have l3 := o3.2.2; have HQ3 := Lib.hid (TDM.newI hC HLX.out q3); clear q3 o3))
      go_ret
      exact ⟨rfl, _, _, HQ3.out⟩
end
end Go.Proofs.YtopkcaflmpjhgaaGreat

namespace Go.Proofs.YtopkcaflmpjhgaaGreat
open Go Go.RowKit Go.Maps

/-- What a call leaves, its answer aside. -/
def TdR (w0 : World) (p : Nat) (c : Cf) (C : Ass) (o : Option St) (w' : World) : Prop := match o with
  | some t => ∃ h m, At w0 (TD p c h t m C) w'
  | none => At w0 C w'
theorem TdO.split {w0 w' : World} {p : Nat} {c : Cf} {C : Ass} {o : Option St} {e : Ending} (q : TdO w0 p c C o e w') : e = .returned (.bool o.isSome) ∧ TdR w0 p c C o w' := by
  cases o with
  | some t => exact ⟨q.1, q.2⟩
  | none => exact ⟨q.1, q.2⟩
section
variable {w0 W : World} {C : Ass} {p : Nat} {c : Cf} {h : Sv} {s : St} {m : Option Nat} {user session address ea eb ec tick : Int}
theorem tspend (hC : C.Good) (q : At w0 (TD p c h s m C) W) (hfi : s.sp.length ≤ 17592186044410) (hw : ∀ y ∈ s.sp, Num64 y) (hx : Num64 session) :
    Calls Tryz.prog 61 #[.pointer (some ⟨p, 0, none⟩), .int .i64 session] W (TdO w0 p c C (if s.sp.contains session then none else some { s with sp := s.sp ++ [session] })) := by
  cases hh : s.sp.contains session with
  | true =>
    cases m with
    | none => exact (tspend_mh hC q hfi hw hx hh).mono fun _ _ z => z
    | some b => exact (tspend_h hC q hfi hw hx hh).mono fun _ _ z => z
  | false =>
    cases m with
    | none => exact (tspend_mn hC q hfi hw hx hh).mono fun _ _ z => z
    | some b => exact (tspend_n hC q hfi hw hx hh).mono fun _ _ z => z
theorem tlease (hC : C.Good) (q : At w0 (TD p c h s m C) W) (hfu : s.us.length ≤ 1954687338263) (hfs : s.ss.length ≤ 4398046511099) (hfa : s.ad.length ≤ 5864062014800) (n0 : 0 ≤ session) (n1 : session ≤ 1073741823) :
    Calls Tryz.prog 58 #[.pointer (some ⟨p, 0, none⟩), .agg (evA ⟨5, user, session, address, ea, eb, ec, tick⟩)] W (TdO w0 p c C (stEv c s ⟨5, user, session, address, ea, eb, ec, tick⟩)) := by
  rw [show stEv c s ⟨5, user, session, address, ea, eb, ec, tick⟩ = if session = s.n ∧ (usAt s.us user).isSome ∧ (s.ss.length : Int) < c.ses ∧ ptOk s.ad address user then some { s with n := s.n + 1, ss := s.ss ++ [⟨session, user, address, tick⟩], ad := s.ad.set address.toNat ⟨true, user, 0⟩ } else none from rfl]
  by_cases h1 : session = s.n
  · cases hx : usAt s.us user with
    | none => rw [if_neg (by simp)]; exact (tlease_b hC q hfu h1 hx).mono fun _ _ z => z
    | some j =>
      by_cases h2 : (s.ss.length : Int) < c.ses
      · cases h3 : ptOk s.ad address user with
        | false => rw [if_neg (by simp)]; exact (tlease_d hC q hfu hfs hfa h1 hx h2 h3).mono fun _ _ z => z
        | true => rw [if_pos ⟨h1, rfl, h2, rfl⟩]; exact (tlease_e hC q hfu hfs hfa h1 hx h2 h3 (by omega) (by omega)).mono fun _ _ z => z
      · rw [if_neg (fun c => h2 c.2.2.1)]; exact (tlease_c hC q hfu h1 hx (by omega)).mono fun _ _ z => z
  · rw [if_neg (fun c => h1 c.1)]; exact (tlease_a hC q h1).mono fun _ _ z => z
theorem tend (hC : C.Good) (q : At w0 (TD p c h s m C) W) (hfu : s.us.length ≤ 1954687338263) (hfs : s.ss.length ≤ 4398046511099) (hfa : s.ad.length ≤ 5864062014800) (a0 : 0 ≤ ea) (a1 : ea ≤ 1073741823) (hw : ∀ x ∈ s.us, -9223372036854775808 ≤ x.used ∧ x.used ≤ 9223372036854775807) :
    Calls Tryz.prog 59 #[.pointer (some ⟨p, 0, none⟩), .agg (evA ⟨6, user, session, address, ea, eb, ec, tick⟩)] W (TdO w0 p c C (stEv c s ⟨6, user, session, address, ea, eb, ec, tick⟩)) := by
  rw [show stEv c s ⟨6, user, session, address, ea, eb, ec, tick⟩ = (match seAt s.ss session with
    | Option.none => Option.none
    | some k => if pfOk s.ad (s.ss.getD k .none).a tick then some { s with
        ad := s.ad.set (s.ss.getD k .none).a.toNat ⟨false, (s.ad.getD (s.ss.getD k .none).a.toNat .none).l, tick⟩
        us := (match usAt s.us (s.ss.getD k .none).u with | some j => s.us.set j { s.us.getD j .none with used := stSum (s.us.getD j .none).used ea } | Option.none => s.us)
        ss := s.ss.take k ++ s.ss.drop (k + 1) } else Option.none) from rfl]
  cases hk : seAt s.ss session with
  | none => exact (tend_n hC q hfs hk).mono fun _ _ z => z
  | some k =>
    dsimp only
    cases hj : usAt s.us (s.ss.getD k .none).u with
    | none =>
      cases hp : pfOk s.ad (s.ss.getD k .none).a tick with
      | false => exact (tend_xz hC q hfu hfs hfa hk rfl rfl hj hp).mono fun _ _ z => z
      | true => exact (tend_xy hC q hfu hfs hfa hk rfl rfl hj hp).mono fun _ _ z => z
    | some j =>
      have hjl := usAt_lt hj
      have hu0 := (hw (s.us.getD j .none) (by simp [List.getD, hjl])).1
      cases hp : pfOk s.ad (s.ss.getD k .none).a tick with
      | false => exact (tend_uz hC q hfu hfs hfa hk rfl rfl hj rfl rfl a0 a1 hu0 hp).mono fun _ _ z => z
      | true => exact (tend_uy hC q hfu hfs hfa hk rfl rfl hj rfl rfl a0 a1 hu0 hp).mono fun _ _ z => z
theorem tturnUser2 (hC : C.Good) (q : At w0 (TD p c h s m C) W) (hfu : s.us.length ≤ 1954687338263) :
    Calls Tryz.prog 62 #[.pointer (some ⟨p, 0, none⟩), .agg (evA ⟨2, user, session, address, ea, eb, ec, tick⟩)] W (TdO w0 p c C (stEv c s ⟨2, user, session, address, ea, eb, ec, tick⟩)) := by
  rw [show stEv c s ⟨2, user, session, address, ea, eb, ec, tick⟩ = (match usAt s.us user with
    | Option.none => Option.none
    | some k => (stTurn c (s.us.getD k .none) ⟨2, user, session, address, ea, eb, ec, tick⟩).map fun x => { s with us := s.us.set k x }) from rfl]
  cases hj : usAt s.us user with
  | none => exact (ttu_n hC q hfu hj).mono fun _ _ z => z
  | some j =>
    dsimp only
    by_cases hk : lkOk (s.us.getD j .none).lf (s.us.getD j .none).lu tick c.fai c.loc
    · rw [show stTurn c (s.us.getD j .none) ⟨2, user, session, address, ea, eb, ec, tick⟩ = if lkOk (s.us.getD j .none).lf (s.us.getD j .none).lu tick c.fai c.loc then some { s.us.getD j .none with lf := lkF (s.us.getD j .none).lf (s.us.getD j .none).lu tick c.fai c.loc, lu := lkU (s.us.getD j .none).lf (s.us.getD j .none).lu tick c.fai c.loc } else none from rfl, if_pos hk]
      exact (ttu_2 hC q hfu hj rfl rfl rfl (lk_yes hk).1).mono fun _ _ z => z
    · rw [show stTurn c (s.us.getD j .none) ⟨2, user, session, address, ea, eb, ec, tick⟩ = if lkOk (s.us.getD j .none).lf (s.us.getD j .none).lu tick c.fai c.loc then some { s.us.getD j .none with lf := lkF (s.us.getD j .none).lf (s.us.getD j .none).lu tick c.fai c.loc, lu := lkU (s.us.getD j .none).lf (s.us.getD j .none).lu tick c.fai c.loc } else none from rfl, if_neg hk]
      exact (ttu_2 hC q hfu hj rfl rfl rfl (lk_no hk).1).mono fun _ _ ⟨e1, _, _, z⟩ => ⟨e1, TD.none z⟩
theorem tturnUser3 (hC : C.Good) (q : At w0 (TD p c h s m C) W) (hfu : s.us.length ≤ 1954687338263) :
    Calls Tryz.prog 62 #[.pointer (some ⟨p, 0, none⟩), .agg (evA ⟨3, user, session, address, ea, eb, ec, tick⟩)] W (TdO w0 p c C (stEv c s ⟨3, user, session, address, ea, eb, ec, tick⟩)) := by
  rw [show stEv c s ⟨3, user, session, address, ea, eb, ec, tick⟩ = (match usAt s.us user with
    | Option.none => Option.none
    | some k => (stTurn c (s.us.getD k .none) ⟨3, user, session, address, ea, eb, ec, tick⟩).map fun x => { s with us := s.us.set k x }) from rfl]
  cases hj : usAt s.us user with
  | none => exact (ttu_n hC q hfu hj).mono fun _ _ z => z
  | some j =>
    dsimp only
    by_cases hk : (s.us.getD j .none).st < ea
    · rw [show stTurn c (s.us.getD j .none) ⟨3, user, session, address, ea, eb, ec, tick⟩ = if (s.us.getD j .none).st < ea then some { s.us.getD j .none with st := ea, lf := 0, lu := 0 } else none from rfl, if_pos hk]
      exact (ttu_3y hC q hfu hj rfl (by omega)).mono fun _ _ z => z
    · rw [show stTurn c (s.us.getD j .none) ⟨3, user, session, address, ea, eb, ec, tick⟩ = if (s.us.getD j .none).st < ea then some { s.us.getD j .none with st := ea, lf := 0, lu := 0 } else none from rfl, if_neg hk]
      exact (ttu_3z hC q hfu hj rfl (by omega)).mono fun _ _ z => z
theorem tturnUser4 (hC : C.Good) (q : At w0 (TD p c h s m C) W) (hfu : s.us.length ≤ 1954687338263) :
    Calls Tryz.prog 62 #[.pointer (some ⟨p, 0, none⟩), .agg (evA ⟨4, user, session, address, ea, eb, ec, tick⟩)] W (TdO w0 p c C (stEv c s ⟨4, user, session, address, ea, eb, ec, tick⟩)) := by
  rw [show stEv c s ⟨4, user, session, address, ea, eb, ec, tick⟩ = (match usAt s.us user with
    | Option.none => Option.none
    | some k => (stTurn c (s.us.getD k .none) ⟨4, user, session, address, ea, eb, ec, tick⟩).map fun x => { s with us := s.us.set k x }) from rfl]
  cases hj : usAt s.us user with
  | none => exact (ttu_n hC q hfu hj).mono fun _ _ z => z
  | some j =>
    dsimp only
    rw [show stTurn c (s.us.getD j .none) ⟨4, user, session, address, ea, eb, ec, tick⟩ = some { s.us.getD j .none with lf := 0, lu := 0 } from rfl]
    exact (ttu_4 hC q hfu hj rfl).mono fun _ _ z => z
theorem tturnUser7 (hC : C.Good) (q : At w0 (TD p c h s m C) W) (hfu : s.us.length ≤ 1954687338263) :
    Calls Tryz.prog 62 #[.pointer (some ⟨p, 0, none⟩), .agg (evA ⟨7, user, session, address, ea, eb, ec, tick⟩)] W (TdO w0 p c C (stEv c s ⟨7, user, session, address, ea, eb, ec, tick⟩)) := by
  rw [show stEv c s ⟨7, user, session, address, ea, eb, ec, tick⟩ = (match usAt s.us user with
    | Option.none => Option.none
    | some k => (stTurn c (s.us.getD k .none) ⟨7, user, session, address, ea, eb, ec, tick⟩).map fun x => { s with us := s.us.set k x }) from rfl]
  cases hj : usAt s.us user with
  | none => exact (ttu_n hC q hfu hj).mono fun _ _ z => z
  | some j =>
    dsimp only
    rw [show stTurn c (s.us.getD j .none) ⟨7, user, session, address, ea, eb, ec, tick⟩ = if 0 ≤ (s.us.getD j .none).g ∧ (s.us.getD j .none).g < 1073741823 then some { s.us.getD j .none with g := (s.us.getD j .none).g + 1 } else none from rfl]
    by_cases h0 : 0 ≤ (s.us.getD j .none).g
    · by_cases h1 : (s.us.getD j .none).g < 1073741823
      · rw [if_pos ⟨h0, h1⟩]
        exact (ttu_7y hC q hfu hj rfl h0 h1).mono fun _ _ z => z
      · rw [if_neg (fun c => h1 c.2)]
        exact (ttu_7z hC q hfu hj rfl h0 h1).mono fun _ _ z => z
    · rw [if_neg (fun c => h0 c.1)]
      exact (ttu_7x hC q hfu hj rfl h0).mono fun _ _ z => z
set_option maxRecDepth 100000 in
set_option maxHeartbeats 4000000 in
theorem tturn0 (hC : C.Good) (q : At w0 (TD p c h s m C) W) {o : Option St} (HM : ∀ V, At w0 (TD p c h s m C) V → Calls Tryz.prog 56 #[.pointer (some ⟨p, 0, none⟩), .int .i64 tick] V (TdO w0 p c C o)) :
    Calls Tryz.prog 42 #[.pointer (some ⟨p, 0, none⟩), .agg (evA ⟨0, user, session, address, ea, eb, ec, tick⟩)] W (TdO w0 p c C o) := by
  have q1 := At.lay1 (TD_good hC) q (.cells (evA ⟨0, user, session, address, ea, eb, ec, tick⟩) TEv)
  have H := Lib.hid (HM _ q1)
  clear q q1 HM
  go_enter Tryz.func42, Tryz.ntmps42
  go_wp2_with (go_at_call 56; (with_reducible refine H.out.mono ?_); rintro r w1 hr; obtain ⟨rfl, hR⟩ := hr.split; have HR := Lib.hid hR; clear hr hR)
  go_ret
  cases o with
  | some t => exact ⟨rfl, HR.out⟩
  | none => exact ⟨rfl, HR.out⟩
set_option maxRecDepth 100000 in
set_option maxHeartbeats 4000000 in
theorem tturn1 (hC : C.Good) (q : At w0 (TD p c h s m C) W) {o : Option St} (HM : ∀ V, At w0 (TD p c h s m C) V → Calls Tryz.prog 57 #[.pointer (some ⟨p, 0, none⟩), .agg (evA ⟨1, user, session, address, ea, eb, ec, tick⟩)] V (TdO w0 p c C o)) :
    Calls Tryz.prog 42 #[.pointer (some ⟨p, 0, none⟩), .agg (evA ⟨1, user, session, address, ea, eb, ec, tick⟩)] W (TdO w0 p c C o) := by
  have q1 := At.lay1 (TD_good hC) q (.cells (evA ⟨1, user, session, address, ea, eb, ec, tick⟩) TEv)
  have H := Lib.hid (HM _ q1)
  clear q q1 HM
  go_enter Tryz.func42, Tryz.ntmps42
  go_wp2_with (go_at_call 57; (with_reducible refine H.out.mono ?_); rintro r w1 hr; obtain ⟨rfl, hR⟩ := hr.split; have HR := Lib.hid hR; clear hr hR)
  go_ret
  cases o with
  | some t => exact ⟨rfl, HR.out⟩
  | none => exact ⟨rfl, HR.out⟩
set_option maxRecDepth 100000 in
set_option maxHeartbeats 4000000 in
theorem tturn5 (hC : C.Good) (q : At w0 (TD p c h s m C) W) {o : Option St} (HM : ∀ V, At w0 (TD p c h s m C) V → Calls Tryz.prog 58 #[.pointer (some ⟨p, 0, none⟩), .agg (evA ⟨5, user, session, address, ea, eb, ec, tick⟩)] V (TdO w0 p c C o)) :
    Calls Tryz.prog 42 #[.pointer (some ⟨p, 0, none⟩), .agg (evA ⟨5, user, session, address, ea, eb, ec, tick⟩)] W (TdO w0 p c C o) := by
  have q1 := At.lay1 (TD_good hC) q (.cells (evA ⟨5, user, session, address, ea, eb, ec, tick⟩) TEv)
  have H := Lib.hid (HM _ q1)
  clear q q1 HM
  go_enter Tryz.func42, Tryz.ntmps42
  go_wp2_with (go_at_call 58; (with_reducible refine H.out.mono ?_); rintro r w1 hr; obtain ⟨rfl, hR⟩ := hr.split; have HR := Lib.hid hR; clear hr hR)
  go_ret
  cases o with
  | some t => exact ⟨rfl, HR.out⟩
  | none => exact ⟨rfl, HR.out⟩
set_option maxRecDepth 100000 in
set_option maxHeartbeats 4000000 in
theorem tturn6 (hC : C.Good) (q : At w0 (TD p c h s m C) W) {o : Option St} (HM : ∀ V, At w0 (TD p c h s m C) V → Calls Tryz.prog 59 #[.pointer (some ⟨p, 0, none⟩), .agg (evA ⟨6, user, session, address, ea, eb, ec, tick⟩)] V (TdO w0 p c C o)) :
    Calls Tryz.prog 42 #[.pointer (some ⟨p, 0, none⟩), .agg (evA ⟨6, user, session, address, ea, eb, ec, tick⟩)] W (TdO w0 p c C o) := by
  have q1 := At.lay1 (TD_good hC) q (.cells (evA ⟨6, user, session, address, ea, eb, ec, tick⟩) TEv)
  have H := Lib.hid (HM _ q1)
  clear q q1 HM
  go_enter Tryz.func42, Tryz.ntmps42
  go_wp2_with (go_at_call 59; (with_reducible refine H.out.mono ?_); rintro r w1 hr; obtain ⟨rfl, hR⟩ := hr.split; have HR := Lib.hid hR; clear hr hR)
  go_ret
  cases o with
  | some t => exact ⟨rfl, HR.out⟩
  | none => exact ⟨rfl, HR.out⟩
set_option maxRecDepth 100000 in
set_option maxHeartbeats 4000000 in
theorem tturn9 (hC : C.Good) (q : At w0 (TD p c h s m C) W) {o : Option St} (HM : ∀ V, At w0 (TD p c h s m C) V → Calls Tryz.prog 61 #[.pointer (some ⟨p, 0, none⟩), .int .i64 session] V (TdO w0 p c C o)) :
    Calls Tryz.prog 42 #[.pointer (some ⟨p, 0, none⟩), .agg (evA ⟨9, user, session, address, ea, eb, ec, tick⟩)] W (TdO w0 p c C o) := by
  have q1 := At.lay1 (TD_good hC) q (.cells (evA ⟨9, user, session, address, ea, eb, ec, tick⟩) TEv)
  have H := Lib.hid (HM _ q1)
  clear q q1 HM
  go_enter Tryz.func42, Tryz.ntmps42
  go_wp2_with (go_at_call 61; (with_reducible refine H.out.mono ?_); rintro r w1 hr; obtain ⟨rfl, hR⟩ := hr.split; have HR := Lib.hid hR; clear hr hR)
  go_ret
  cases o with
  | some t => exact ⟨rfl, HR.out⟩
  | none => exact ⟨rfl, HR.out⟩
set_option maxRecDepth 100000 in
set_option maxHeartbeats 4000000 in
theorem tturn2 (hC : C.Good) (q : At w0 (TD p c h s m C) W) {o : Option St} (HM : ∀ V, At w0 (TD p c h s m C) V → Calls Tryz.prog 62 #[.pointer (some ⟨p, 0, none⟩), .agg (evA ⟨2, user, session, address, ea, eb, ec, tick⟩)] V (TdO w0 p c C o)) :
    Calls Tryz.prog 42 #[.pointer (some ⟨p, 0, none⟩), .agg (evA ⟨2, user, session, address, ea, eb, ec, tick⟩)] W (TdO w0 p c C o) := by
  have q1 := At.lay1 (TD_good hC) q (.cells (evA ⟨2, user, session, address, ea, eb, ec, tick⟩) TEv)
  have H := Lib.hid (HM _ q1)
  clear q q1 HM
  go_enter Tryz.func42, Tryz.ntmps42
  go_wp2_with (go_at_call 62; (with_reducible refine H.out.mono ?_); rintro r w1 hr; obtain ⟨rfl, hR⟩ := hr.split; have HR := Lib.hid hR; clear hr hR)
  go_ret
  cases o with
  | some t => exact ⟨rfl, HR.out⟩
  | none => exact ⟨rfl, HR.out⟩
set_option maxRecDepth 100000 in
set_option maxHeartbeats 4000000 in
theorem tturn3 (hC : C.Good) (q : At w0 (TD p c h s m C) W) {o : Option St} (HM : ∀ V, At w0 (TD p c h s m C) V → Calls Tryz.prog 62 #[.pointer (some ⟨p, 0, none⟩), .agg (evA ⟨3, user, session, address, ea, eb, ec, tick⟩)] V (TdO w0 p c C o)) :
    Calls Tryz.prog 42 #[.pointer (some ⟨p, 0, none⟩), .agg (evA ⟨3, user, session, address, ea, eb, ec, tick⟩)] W (TdO w0 p c C o) := by
  have q1 := At.lay1 (TD_good hC) q (.cells (evA ⟨3, user, session, address, ea, eb, ec, tick⟩) TEv)
  have H := Lib.hid (HM _ q1)
  clear q q1 HM
  go_enter Tryz.func42, Tryz.ntmps42
  go_wp2_with (go_at_call 62; (with_reducible refine H.out.mono ?_); rintro r w1 hr; obtain ⟨rfl, hR⟩ := hr.split; have HR := Lib.hid hR; clear hr hR)
  go_ret
  cases o with
  | some t => exact ⟨rfl, HR.out⟩
  | none => exact ⟨rfl, HR.out⟩
set_option maxRecDepth 100000 in
set_option maxHeartbeats 4000000 in
theorem tturn4 (hC : C.Good) (q : At w0 (TD p c h s m C) W) {o : Option St} (HM : ∀ V, At w0 (TD p c h s m C) V → Calls Tryz.prog 62 #[.pointer (some ⟨p, 0, none⟩), .agg (evA ⟨4, user, session, address, ea, eb, ec, tick⟩)] V (TdO w0 p c C o)) :
    Calls Tryz.prog 42 #[.pointer (some ⟨p, 0, none⟩), .agg (evA ⟨4, user, session, address, ea, eb, ec, tick⟩)] W (TdO w0 p c C o) := by
  have q1 := At.lay1 (TD_good hC) q (.cells (evA ⟨4, user, session, address, ea, eb, ec, tick⟩) TEv)
  have H := Lib.hid (HM _ q1)
  clear q q1 HM
  go_enter Tryz.func42, Tryz.ntmps42
  go_wp2_with (go_at_call 62; (with_reducible refine H.out.mono ?_); rintro r w1 hr; obtain ⟨rfl, hR⟩ := hr.split; have HR := Lib.hid hR; clear hr hR)
  go_ret
  cases o with
  | some t => exact ⟨rfl, HR.out⟩
  | none => exact ⟨rfl, HR.out⟩
set_option maxRecDepth 100000 in
set_option maxHeartbeats 4000000 in
theorem tturn7 (hC : C.Good) (q : At w0 (TD p c h s m C) W) {o : Option St} (HM : ∀ V, At w0 (TD p c h s m C) V → Calls Tryz.prog 62 #[.pointer (some ⟨p, 0, none⟩), .agg (evA ⟨7, user, session, address, ea, eb, ec, tick⟩)] V (TdO w0 p c C o)) :
    Calls Tryz.prog 42 #[.pointer (some ⟨p, 0, none⟩), .agg (evA ⟨7, user, session, address, ea, eb, ec, tick⟩)] W (TdO w0 p c C o) := by
  have q1 := At.lay1 (TD_good hC) q (.cells (evA ⟨7, user, session, address, ea, eb, ec, tick⟩) TEv)
  have H := Lib.hid (HM _ q1)
  clear q q1 HM
  go_enter Tryz.func42, Tryz.ntmps42
  go_wp2_with (go_at_call 62; (with_reducible refine H.out.mono ?_); rintro r w1 hr; obtain ⟨rfl, hR⟩ := hr.split; have HR := Lib.hid hR; clear hr hR)
  go_ret
  cases o with
  | some t => exact ⟨rfl, HR.out⟩
  | none => exact ⟨rfl, HR.out⟩
set_option maxRecDepth 100000 in
set_option maxHeartbeats 4000000 in
theorem tturn8 (hC : C.Good) (q : At w0 (TD p c h s m C) W) (he0 : -9223372036854775808 ≤ s.e) :
    Calls Tryz.prog 42 #[.pointer (some ⟨p, 0, none⟩), .agg (evA ⟨8, user, session, address, ea, eb, ec, tick⟩)] W (TdO w0 p c C (stEv c s ⟨8, user, session, address, ea, eb, ec, tick⟩)) := by
  rw [show stEv c s ⟨8, user, session, address, ea, eb, ec, tick⟩ = if s.e < 1073741823 then some { s with e := s.e + 1 } else none from rfl]
  have q1 := At.lay1 (TD_good hC) q (.cells (evA ⟨8, user, session, address, ea, eb, ec, tick⟩) TEv)
  have e1 := (TD.blk q1).cell
  have f1 := (TD.blk q1).froz
  have HQ := Lib.hid q1
  by_cases h1 : s.e < 1073741823
  · have HR := Lib.hid (traise_yes (x := s.e) (e1 13) (f1 13) h1 he0)
    have HN := Lib.hid (TD.num hC q1).2.1
    rw [if_pos h1]
    clear q q1 h1 he0
    go_enter Tryz.func42, Tryz.ntmps42
    go_wp2_with (go_at_call 60; (with_reducible refine HR.out.mono ?_); rintro r w1 ⟨rfl, rfl⟩)
    go_ret
    exact ⟨rfl, _, _, HN.out⟩
  · have HR := Lib.hid (traise_no (x := s.e) (e1 13) h1)
    rw [if_neg h1]
    clear q q1 h1 he0
    go_enter Tryz.func42, Tryz.ntmps42
    go_wp2_with (go_at_call 60; (with_reducible refine HR.out.mono ?_); rintro r w1 ⟨rfl, rfl⟩)
    go_ret
    exact ⟨rfl, TD.none HQ.out⟩
/-- turn, whatever the event that may be. -/
theorem tturn (hC : C.Good) (q : At w0 (TD p c h s m C) W) (hm : s.sm 1) (hc : c.may = true) {e : Ev} (he : e.may = true) :
    Calls Tryz.prog 42 #[.pointer (some ⟨p, 0, none⟩), .agg (evA e)] W (TdO w0 p c C (stEv c s e)) := by
  obtain ⟨kind, user, session, address, ea, eb, ec, tick⟩ := e
  obtain ⟨hr, hp, -⟩ := (Ev.may_iff _).mp he
  obtain ⟨u0, u1, a0, a1, t0, t1, c0, c1, ns, na, nb⟩ := (Ev.rng_iff _).mp hr
  rw [okNum_iff] at ns na
  dsimp only at t0 t1 ns na
  have hq : 0 ≤ c.qua ∧ c.qua ≤ 65536 := by
    unfold Cf.may cfLife at hc
    simp only [Bool.and_eq_true, decide_eq_true_eq] at hc
    omega
  have hfu : s.us.length ≤ 1954687338263 := by have := hm.u; omega
  have hfi : s.sp.length ≤ 17592186044410 := by have := hm.i; omega
  have hk := Ev.kinds hp
  dsimp only at hk
  rcases hk with rfl | rfl | rfl | rfl | rfl | rfl | rfl | rfl | rfl | rfl
  · exact tturn0 hC q fun V qv => tboot hC qv hm.s hm.a t0 t1 hq.1 hq.2 rfl
  · exact tturn1 hC q fun V qv => tenroll hC qv hfu rfl
  · exact tturn2 hC q fun V qv => tturnUser2 hC qv hfu
  · exact tturn3 hC q fun V qv => tturnUser3 hC qv hfu
  · exact tturn4 hC q fun V qv => tturnUser4 hC qv hfu
  · exact tturn5 hC q fun V qv => tlease hC qv hfu hm.s hm.a ns.1 ns.2
  · exact tturn6 hC q fun V qv => tend hC qv hfu hm.s hm.a na.1 na.2 hm.nums.2
  · exact tturn7 hC q fun V qv => tturnUser7 hC qv hfu
  · exact tturn8 hC q hm.nums.1
  · exact tturn9 hC q fun V qv => tspend hC qv hfi hm.w ⟨by omega, by omega⟩
end
end Go.Proofs.YtopkcaflmpjhgaaGreat

