/- Put together: Kdp2, Kdp3, Kdp4, Kdp7. Conditions: each theorem's own. -/
import Derived.Test.YtbfpfmidjdonjaaGreatDoorBkd
import Derived.Great.Walk
import Derived.Deep.WholeRow
import Derived.Test.YtbfpfmidjdonjaaGreatDoorBkr
namespace Go.Proofs.YtbfpfmidjdonjaaGreatDoor
open Go Go.RowKit
theorem extract64 {s : ByteArray} (h : s.size = 64) (y : ByteArray) : s.extract 0 64 ++ y.extract 64 64 = s := by
  rw [ByteArray.extract_eq_empty_iff.2 (Nat.min_le_left _ _), ByteArray.append_empty, ← h]
  exact ByteArray.extract_zero_size
theorem extract0 {y : ByteArray} (h : y.size = 64) (s : ByteArray) : s.extract 0 0 ++ y.extract 0 64 = y := by
  rw [ByteArray.extract_eq_empty_iff.2 (Nat.min_le_left _ _), ByteArray.empty_append, ← h]
  exact ByteArray.extract_zero_size
theorem set_same {k : List ByteArray} {i : Nat} (h : i < k.length) : k.set i (k.getD i ⟨#[]⟩) = k := by
  rw [show k.getD i ⟨#[]⟩ = k[i] by simp [List.getD, h]]
  exact List.set_getElem_self h
section
variable {w : World} {p : Nat} {k s : List ByteArray} {ws : List Wt} {dn : Bool} {n gk gs : Nat} {v : Value}
set_option maxRecDepth 100000 in
set_option maxHeartbeats 2000000 in
theorem kkeep (h : DqIn w p k s ws dn n gk gs v) (x : Wt) (hx : x.1 < n ∧ x.2.size = 64) (m : Nat) (hm : m ≤ 64) (K : List ByteArray) (hK : k.set x.1 (x.2.extract 0 m ++ (k.getD x.1 ⟨#[]⟩).extract m 64) = K) :
    Calls Tryz.prog 54 #[.pointer (some ⟨p, 0, none⟩), .agg (wV x).toArray, .int .i64 (m : Int)] w fun e w' => e = .returned (.tuple #[]) ∧ DqIn w' p K s ws dn n gk gs v ∧ Tn [gk] w w' := by
  obtain ⟨hx1, hx2⟩ := hx
  have hgk : gk < w.heap.size := block_lt h.bk
  have hpw : p < w.heap.size := block_lt h.bp
  go_enter Tryz.func54, Tryz.ntmps54
  go_wp2
  have hA := h.alloc (.cells (wV x).toArray TW)
  have hnew := heap_alloc_new w (.cells (wV x).toArray TW)
  refine region_tail 11 (by kernel_rfl) (by kernel_rfl) fun W hW => ?_
  have HW : DqIn W p k s ws dn n gk gs v := by subst hW; exact hA.drew
  have hnW : W.heap[w.heap.size]? = some (.cells (wV x).toArray TW (0, 0)) := by subst hW; exact hnew
  have HT : Tn [gk] w W := by subst hW; exact ((Tn.refl _ _).alloc _).drew
  clear hW hA hnew
  have c0 := HW.c0
  have hm1 : (m : Int) ≤ 64 := by omega
  have hm0 : (0 : Int) ≤ (m : Int) := by omega
  have e0 : W.cell? ⟨w.heap.size, 0, none⟩ = some (.int .i64 (x.1 : Int)) := by rw [cell_of_row W _ 0 _ _ _ hnW]; rfl
  simp only [List.take_succ_cons, List.take_zero, List.drop_succ_cons, List.drop_zero]
  repeat still_step
  refine wpStill_nil ?_
  have hkx : x.1 < k.length := by rw [HW.kn]; exact hx1
  have hfl := flatS_len HW.ks
  rw [HW.kn] at hfl
  have hlay := flatS_lay HW.ks hkx x.2 hm
  rw [hK] at hlay
  have Hn := Lib.hid (HW.setK (k' := K) (by rw [← hK, List.length_set]; exact HW.kn) (by rw [← hK]; exact set_sz HW.ks (torn_sz hx2 (getD_sz HW.ks hkx) hm)))
  have HT2 := Lib.hid (HT.setRow (g := gk) (.inl (by simp)) (flatS K).toArray)
  have hsrc : ∀ (j : Nat) (u : Value), ((bV x.2).take m)[j]? = some u → W.cell? ((⟨w.heap.size, 1, none⟩ : Addr).add j) = some u := by
    intro j u hu
    rw [Addr.add_mid, cell_of_row W _ _ _ _ _ hnW, List.getElem?_toArray, Nat.add_comm 1 j]
    rw [List.getElem?_take] at hu
    split at hu
    · simpa [wV] using hu
    · cases hu
  have htl : ((bV x.2).take m).length = m := by rw [List.length_take, bV_len, hx2]; omega
  have hone : ∀ u ∈ (bV x.2).take m, u.oneCell' = true := fun u hu => bV_one x.2 u (List.mem_of_mem_take hu)
  have hbk := HW.bk
  clear HW HT c0 e0 hnW h hK
  refine wpList_copy_own rfl (.tmp 13) (.tmp 16) 77 77 rfl 5 Tryz.underlying77 (by kernel_rfl) gk (x.1 * 64) 64 64 ⟨w.heap.size, 1, none⟩ m 64 rfl rfl (flatS k).toArray TC hbk ((bV x.2).take m) (by rw [htl]; exact (Nat.min_eq_left hm).symm) hsrc (by rw [htl]; simp only [List.size_toArray]; omega) hone ?_
  rw [htl, show (flatS k).toArray.toList = flatS k from rfl, hlay]
  go_wp2
  refine Great.bodyPost_end0 rfl rfl ?_
  exact ⟨rfl, Hn.out, HT2.out⟩
theorem kkeep64 (h : DqIn w p k s ws dn n gk gs v) (x : Wt) (hx : x.1 < n ∧ x.2.size = 64) (K : List ByteArray) (hK : k.set x.1 x.2 = K) :
    Calls Tryz.prog 54 #[.pointer (some ⟨p, 0, none⟩), .agg (wV x).toArray, .int .i64 64] w fun e w' => e = .returned (.tuple #[]) ∧ DqIn w' p K s ws dn n gk gs v ∧ Tn [gk] w w' :=
  kkeep h x hx 64 (Nat.le_refl _) K (by rw [extract64 hx.2]; exact hK)
theorem kkeep0 (h : DqIn w p k s ws dn n gk gs v) (x : Wt) (hx : x.1 < n ∧ x.2.size = 64) :
    Calls Tryz.prog 54 #[.pointer (some ⟨p, 0, none⟩), .agg (wV x).toArray, .int .i64 0] w fun e w' => e = .returned (.tuple #[]) ∧ DqIn w' p k s ws dn n gk gs v ∧ Tn [gk] w w' :=
  kkeep h x hx 0 (Nat.zero_le _) k (by rw [extract0 (getD_sz h.ks (by rw [h.kn]; exact hx.1))]; exact set_same (by rw [h.kn]; exact hx.1))
end
open Go Go.RowKit
def zW : Array Value := (wV (0, zer64)).toArray
theorem zW_size : zW.size = 65 := by kernel_rfl
theorem zero_W (w : World) : (zeroValue TW).run Tryz.prog w = .ok (.agg zW) w := (zero_of_info (n := 65) (by kernel_rfl)).1 w
theorem info_W : (Tryz.prog.info? TW).map (·.size) = some 65 := by kernel_rfl
theorem under_W : ∃ d, Tryz.prog.underlying TW = some d ∧ d.isRow = true := ⟨_, Tryz.underlying105, rfl⟩
theorem run_alloc_W (w : World) : (Instr.alloc TW true (.tuple #[])).run Tryz.prog w = .ok (.pointer (some ⟨w.heap.size, 0, none⟩)) (w.alloc (.cells zW TW)) := by
  unfold Instr.alloc
  simp only [Sem.run_bind, zero_W, Result.andThen_ok, newVar, newRow, Value.cells]
  rfl
theorem run_store_W (w : World) {x : Wt} (hx : x.2.size = 64) : (Instr.storeAt TW (.pointer (some ⟨w.heap.size, 0, none⟩)) (.agg (wV x).toArray)).run Tryz.prog (w.alloc (.cells zW TW)) = .ok () (w.alloc (.cells (wV x).toArray TW)) :=
  run_storeAt_new w TW zW (wV x).toArray (by rw [info_W]; simp [wV_len hx]) (by rw [zW_size]; simp [wV_len hx]) (all_oneCell_toArray (wV_one x))
theorem run_load_W {w : World} {g o : Nat} {x : Wt} (hx : x.2.size = 64) (h : w.rangeAt g o (wV x)) : (Instr.loadAt TW (.pointer (some ⟨g, o, none⟩))).run Tryz.prog w = .ok (.agg (wV x).toArray) w := by
  obtain ⟨d, h1, h2⟩ := under_W
  exact run_loadAt_mid w g o TW (wV x) d h h1 h2 (by rw [info_W, wV_len hx])
theorem range_new (w : World) (x : Wt) : (w.alloc (.cells (wV x).toArray TW)).rangeAt w.heap.size 0 (wV x) :=
  rangeAt_row (heap_alloc_new w _) (fun j u hu => by rw [Nat.zero_add]; exact hu)
section
variable {ops : Array Oper} {rest : List Oper} {op : Oper} {a : Act} {w : World} {Q : Exit → Act → World → Prop}
theorem wpList_load_W (hgd : op.guard = none) (y : Operand) (ho : op.op = .load TW y) (g o : Nat) (hy : a.eval y = .pointer (some ⟨g, o, none⟩)) {x : Wt} (hx : x.2.size = 64) (h : w.rangeAt g o (wV x))
    (hK : wpList Tryz.prog ops Q rest (a.put op.dst (.agg (wV x).toArray)) w) : wpList Tryz.prog ops Q (op :: rest) a w := by
  obtain ⟨d, h1, h2⟩ := under_W
  exact wpList_load_mid hgd TW y ho g o hy (wV x) d h h1 h2 (by rw [info_W, wV_len hx]) hK
theorem wpList_alloc_W (hgd : op.guard = none) (ho : op.op = .alloc TW) (hK : wpList Tryz.prog ops Q rest (a.put op.dst (.pointer (some ⟨w.heap.size, 0, none⟩))) (w.alloc (.cells zW TW))) : wpList Tryz.prog ops Q (op :: rest) a w :=
  Great.wpList_runTo hgd op.dst rfl _ _ (by unfold execOp; simp only [ho, Sem.run_bind, run_alloc_W, Result.andThen_ok]; rfl) hK
theorem wpList_store_W (hgd : op.guard = none) (y z : Operand) (ho : op.op = .store TW y z) (hy : a.eval y = .pointer (some ⟨w.heap.size, 0, none⟩)) {x : Wt} (hz : a.eval z = .agg (wV x).toArray) (hx : x.2.size = 64)
    (hK : wpList Tryz.prog ops Q rest (a.put op.dst undef) (w.alloc (.cells (wV x).toArray TW))) : wpList Tryz.prog ops Q (op :: rest) a (w.alloc (.cells zW TW)) :=
  wpList_plain hgd fun K hk => by
    unfold Oper.wp execOp
    simp only [ho, hy, hz, Sem.run_bind, run_store_W w hx, Result.andThen_ok]
    exact hk _ _ hK
end
def KAt (w : World) (p : Nat) (s : List ByteArray) (ws : List Wt) (n gk gs : Nat) (v : Value) (K : List ByteArray) (w' : World) : Prop := DqIn w' p K s ws false n gk gs v ∧ Tn (dqF p gk gs v) w w'
theorem KAt.next {w : World} {p : Nat} {s : List ByteArray} {ws : List Wt} {n gk gs : Nat} {v : Value} {K : List ByteArray} {w' : World} (h : KAt w p s ws n gk gs v K w') {K' : List ByteArray} {w1 w2 : World} (hb : Below w'.heap.size w' w1) (hd : DqIn w2 p K' s ws false n gk gs v) (ht : Tn [gk] w1 w2) : KAt w p s ws n gk gs v K' w2 :=
  ⟨hd, h.2.trans ((Tn.ofBelow hb (dqF p gk gs v)).trans (ht.mono (G := dqF p gk gs v) (by simp)) (fun x hx => .inl hx)) (fun x hx => .inl hx)⟩
set_option maxRecDepth 100000 in
set_option maxHeartbeats 4000000 in
theorem kpflush (p : Nat) (d : Dk) : Does Tryz.prog (dpA p d) 87 #[.pointer (some ⟨p, 0, none⟩)] (.returned (.int .i64 d.flE)) (dpA p d.fl) := by
  intro w F h
  have hs := dpA_same h (Below.refl _ _)
  obtain ⟨n, gk, gs, v, hi, rfl⟩ := h
  have Hu := Lib.hid (kup hi)
  cases hd : d.down with
  | true =>
    rw [show d.flE = 801 by unfold Dk.flE; rw [hd]; rfl, show d.fl = d by unfold Dk.fl; rw [hd]; rfl]
    rw [hd] at Hu
    clear hi
    go_enter Tryz.func87, Tryz.ntmps87
    go_wp2_with (go_at_call 52; (with_reducible refine (Hu.out).mono ?_); rintro e w1 ⟨rfl, rfl⟩)
    go_ret
    exact ⟨rfl, hs⟩
  | false =>
    rw [show d.flE = 0 by unfold Dk.flE; rw [hd]; rfl, show d.fl = ⟨d.see, [], false⟩ by unfold Dk.fl; rw [hd]; rfl]
    rw [hd] at Hu hi
    have c2 := hi.c2
    have hfew := hi.few
    have hws := hi.wo
    unfold maxLen at hfew
    have h0 : KAt w p d.see d.waits n gk gs v d.kept w := ⟨hi, Tn.refl _ _⟩
    obtain ⟨ao, c, rfl⟩ := hi.shape
    clear hi hs
    have hfin : ∀ w', KAt w p d.see d.waits n gk gs (.slice ao d.waits.length c) d.see w' → Becomes (dqF p gk gs (.slice ao d.waits.length c)) (dpA p ⟨d.see, [], false⟩) w (w'.setCell ⟨p, 2, none⟩ (.slice none 0 0)) :=
      fun w' hk => dpA_becomes (d := ⟨d.see, [], false⟩) hk.1.setNil (hk.2.setCell (.inl (by simp)) _) (fun j hj => by simp [Value.ownBlock] at hj)
    have hall : keepAll d.kept (d.waits.take d.waits.length) = d.see := by rw [List.take_length]; rfl
    generalize d.see = S at *
    have HF := Lib.hid hfin
    have HA := Lib.hid hall
    have HW := Lib.hid hws
    clear hfin hall hws
    go_enter Tryz.func87, Tryz.ntmps87
    go_wp2_with (go_at_call 52; (with_reducible refine (Hu.out).mono ?_); rintro e w1 ⟨rfl, rfl⟩)
    go_loopw [16] (fun x wr => ∃ j : Nat, j ≤ d.waits.length ∧ x = .int .i64 (j : Int) ∧ KAt w p S d.waits n gk gs (.slice ao d.waits.length c) (keepAll d.kept (d.waits.take j)) wr) (fun x _ => d.waits.length - (intOf x).toNat)
    case atStart => exact ⟨0, Nat.zero_le _, rfl, h0⟩
    case round =>
      clear h0
      obtain ⟨j, hj, rfl, hk⟩ := hrel
      by_cases hlt : j < d.waits.length
      · obtain ⟨x, hx⟩ : ∃ x, d.waits.getD j (0, ⟨#[]⟩) = x := ⟨_, rfl⟩
        obtain ⟨gw, cw, hv, hr⟩ := hk.1.wait hlt
        obtain ⟨rfl, rfl⟩ : ao = some ⟨gw, 0, none⟩ ∧ c = cw := by simpa using hv
        clear hv
        rw [hx] at hr
        have hxo := HW.out x (by rw [← hx, List.getD, List.getElem?_eq_getElem hlt]; exact List.getElem_mem hlt)
        have hstep := keepAll_take (k := d.kept) hlt
        rw [hx] at hstep
        have HR := Lib.hid hr
        have HK := Lib.hid (kkeep64 (hk.1.alloc (.cells (wV x).toArray TW)) x hxo (keepAll d.kept (d.waits.take (j + 1))) hstep.symm)
        have HN := Lib.hid (fun w2 => hk.next (K' := keepAll d.kept (d.waits.take (j + 1))) (w2 := w2) ((Below.refl _ _).alloc (Nat.le_refl _) (.cells (wV x).toArray TW)))
        generalize hK2 : keepAll d.kept (d.waits.take (j + 1)) = K2 at *
        have HE := Lib.hid hK2
        clear hK2
        have HX := Lib.hid hxo
        clear hk hr hxo hstep hx
        go_wp2_with (first
          | (refine wpList_load_W rfl (.tmp 18) rfl gw (j * 65) rfl HX.out.2 HR.out ?_)
          | (refine wpList_load_W rfl (.tmp 5) rfl wr.heap.size 0 rfl HX.out.2 (range_new wr x) ?_)
          | (refine wpList_alloc_W rfl rfl ?_)
          | (refine wpList_store_W rfl (.tmp 5) (.tmp 19) rfl rfl rfl HX.out.2 ?_)
          | (go_at_call 54; (with_reducible refine (HK.out).mono ?_); rintro e w1 ⟨rfl, hk1, hk2⟩; have H2 := Lib.hid (HN.out _ hk1 hk2); clear hk1 hk2))
        go_round
        case rel => exact ⟨j + 1, by omega, by go_num, by rw [HE.out]; exact H2.out⟩
        case measure => simp [intOf]; omega
      · obtain rfl : j = d.waits.length := by omega
        rw [HA.out] at hk
        have c2 := hk.1.c2
        have f2 := hk.1.f 2
        have HB := Lib.hid (HF.out _ hk)
        clear hk
        go_wp2
        go_ret
        exact ⟨rfl, HB.out⟩
open Go Go.RowKit
theorem info_C4 : (Tryz.prog.info? TC).map (·.size) = some 64 := by kernel_rfl
set_option maxRecDepth 100000 in
set_option maxHeartbeats 4000000 in
theorem kpcrash1 (p : Nat) (d : Dk) (m t tt : Nat) (htt : min t 64 = tt) (hm : m ≤ 9223372036854775807) (ht : t ≤ 9223372036854775807) (hd : d.down = false) : Does Tryz.prog (dpA p d) 24 #[.pointer (some ⟨p, 0, none⟩), .int .i64 m, .int .i64 t] (.returned (.int .i64 0)) (dpA p ⟨crk m tt 0 false d.kept d.waits, [], true⟩) := by
  intro w F h
  obtain ⟨n, gk, gs, v, hi, rfl⟩ := h
  rw [hd] at hi
  have Hu := Lib.hid (kup hi)
  have c2 := hi.c2
  have hfew := hi.few
  have hws := hi.wo
  unfold maxLen at hfew
  have h0 : KAt w p d.see d.waits n gk gs v d.kept w := ⟨hi, Tn.refl _ _⟩
  obtain ⟨ao, c, rfl⟩ := hi.shape
  clear hi
  have htt64 : tt ≤ 64 := by omega
  have hmin : (if (64 : Int) < (t : Int) then (64 : Int) else (t : Int)) = (tt : Int) := by split <;> omega
  generalize d.see = S at *
  generalize hR : crk m tt 0 false d.kept d.waits = R
  have HW := Lib.hid hws
  clear hws
  go_enter Tryz.func24, Tryz.ntmps24
  go_wp2_with (go_at_call 52; (with_reducible refine (Hu.out).mono ?_); rintro e w1 ⟨rfl, rfl⟩)
  go_loopw [8, 29] (fun l x wr => ∃ (j : Nat) (lost : Bool) (K : List ByteArray) (L : Int), j ≤ d.waits.length ∧ Hid (L = if lost then 0 else (tt : Int)) ∧ l = .int .i64 L ∧ x = .int .i64 (j : Int) ∧ crk m tt j lost K (d.waits.drop j) = R ∧ KAt w p S d.waits n gk gs (.slice ao d.waits.length c) K wr) (fun _ x _ => d.waits.length - (intOf x).toNat)
  case atStart => exact ⟨0, false, d.kept, _, Nat.zero_le _, Lib.hid (show min (t : Int) 64 = if false = true then 0 else (tt : Int) by rw [if_neg (by decide)]; omega), rfl, rfl, hR, h0⟩
  case round =>
    clear hR h0
    obtain ⟨j, lost, K, L, hj, HL, rfl, rfl, hc, hk⟩ := hrel
    by_cases hlt : j < d.waits.length
    · obtain ⟨x, hx⟩ : ∃ x, d.waits.getD j (0, ⟨#[]⟩) = x := ⟨_, rfl⟩
      obtain ⟨gw, cw, hv, hr⟩ := hk.1.wait hlt
      obtain ⟨rfl, rfl⟩ : ao = some ⟨gw, 0, none⟩ ∧ c = cw := by simpa using hv
      clear hv
      rw [hx] at hr
      have hxo := HW.out x (by rw [← hx, List.getD, List.getElem?_eq_getElem hlt]; exact List.getElem_mem hlt)
      rw [crk_cons hlt hx] at hc
      have hbt := bit_test m j hm
      have hA := hk.1.alloc (.cells (wV x).toArray TW)
      have HN := Lib.hid (fun K' w2 => hk.next (K' := K') (w2 := w2) ((Below.refl _ _).alloc (Nat.le_refl _) (.cells (wV x).toArray TW)))
      have HR := Lib.hid hr
      have HX := Lib.hid hxo
      clear hr hx hk
      cases hbk : bitK m j with
      | true =>
        rw [hbk, if_pos rfl] at hc
        obtain ⟨h30, hb1⟩ : j < 30 ∧ m.testBit j = true := by simpa [bitK] using hbk
        rw [hb1] at hbt
        have HK := Lib.hid (kkeep64 hA x hxo _ rfl)
        have HC := Lib.hid hc
        generalize K.set x.1 x.2 = K2 at *
        clear hA hxo hc hbk hb1
        go_wp2_with (first
          | (refine wpList_load_W rfl (.tmp 32) rfl gw (j * 65) rfl HX.out.2 HR.out ?_)
          | (refine wpList_load_W rfl (.tmp 10) rfl wr.heap.size 0 rfl HX.out.2 (range_new wr x) ?_)
          | (refine wpList_alloc_W rfl rfl ?_)
          | (refine wpList_store_W rfl (.tmp 10) (.tmp 33) rfl rfl rfl HX.out.2 ?_)
          | (go_at_call 54; (with_reducible refine (HK.out).mono ?_); rintro e w1 ⟨rfl, hk1, hk2⟩; have H2 := Lib.hid (HN.out _ _ hk1 hk2); clear hk1 hk2))
        go_round
        case rel => exact ⟨j + 1, lost, K2, L, by omega, HL, rfl, by go_num, HC.out, H2.out⟩
        case measure => simp [intOf]; omega
      | false =>
        rw [hbk, if_neg (by decide)] at hc
        have hnb : j < 30 → m.testBit j = false := by simpa [bitK] using hbk
        cases lost with
        | true =>
          rw [if_pos rfl] at hc
          obtain rfl : L = 0 := HL.out
          have HK := Lib.hid (kkeep0 hA x hxo)
          have HC := Lib.hid hc
          clear hA hxo hc hbk
          by_cases h30 : j < 30
          · rw [hnb h30] at hbt
            clear hnb
            go_wp2_with (first
              | (refine wpList_load_W rfl (.tmp 32) rfl gw (j * 65) rfl HX.out.2 HR.out ?_)
              | (refine wpList_load_W rfl (.tmp 10) rfl wr.heap.size 0 rfl HX.out.2 (range_new wr x) ?_)
              | (refine wpList_alloc_W rfl rfl ?_)
              | (refine wpList_store_W rfl (.tmp 10) (.tmp 33) rfl rfl rfl HX.out.2 ?_)
              | (go_at_call 54; (with_reducible refine (HK.out).mono ?_); rintro e w1 ⟨rfl, hk1, hk2⟩; have H2 := Lib.hid (HN.out _ _ hk1 hk2); clear hk1 hk2))
            go_round
            case rel => exact ⟨j + 1, true, K, 0, by omega, Lib.hid rfl, rfl, by go_num, HC.out, H2.out⟩
            case measure => simp [intOf]; omega
          · clear hnb hbt
            go_wp2_with (first
              | (refine wpList_load_W rfl (.tmp 32) rfl gw (j * 65) rfl HX.out.2 HR.out ?_)
              | (refine wpList_load_W rfl (.tmp 10) rfl wr.heap.size 0 rfl HX.out.2 (range_new wr x) ?_)
              | (refine wpList_alloc_W rfl rfl ?_)
              | (refine wpList_store_W rfl (.tmp 10) (.tmp 33) rfl rfl rfl HX.out.2 ?_)
              | (go_at_call 54; (with_reducible refine (HK.out).mono ?_); rintro e w1 ⟨rfl, hk1, hk2⟩; have H2 := Lib.hid (HN.out _ _ hk1 hk2); clear hk1 hk2))
            go_round
            case rel => exact ⟨j + 1, true, K, 0, by omega, Lib.hid rfl, rfl, by go_num, HC.out, H2.out⟩
            case measure => simp [intOf]; omega
        | false =>
          rw [if_neg (by decide)] at hc
          obtain rfl : L = (tt : Int) := HL.out.trans (if_neg (by decide))
          have HK := Lib.hid (kkeep hA x hxo tt htt64 _ rfl)
          have HC := Lib.hid hc
          generalize K.set x.1 (x.2.extract 0 tt ++ (K.getD x.1 ⟨#[]⟩).extract tt 64) = K2 at *
          clear hA hxo hc hbk
          by_cases h30 : j < 30
          · rw [hnb h30] at hbt
            clear hnb
            go_wp2_with (first
              | (refine wpList_load_W rfl (.tmp 32) rfl gw (j * 65) rfl HX.out.2 HR.out ?_)
              | (refine wpList_load_W rfl (.tmp 10) rfl wr.heap.size 0 rfl HX.out.2 (range_new wr x) ?_)
              | (refine wpList_alloc_W rfl rfl ?_)
              | (refine wpList_store_W rfl (.tmp 10) (.tmp 33) rfl rfl rfl HX.out.2 ?_)
              | (go_at_call 54; (with_reducible refine (HK.out).mono ?_); rintro e w1 ⟨rfl, hk1, hk2⟩; have H2 := Lib.hid (HN.out _ _ hk1 hk2); clear hk1 hk2))
            go_round
            case rel => exact ⟨j + 1, true, K2, 0, by omega, Lib.hid rfl, rfl, by go_num, HC.out, H2.out⟩
            case measure => simp [intOf]; omega
          · clear hnb hbt
            go_wp2_with (first
              | (refine wpList_load_W rfl (.tmp 32) rfl gw (j * 65) rfl HX.out.2 HR.out ?_)
              | (refine wpList_load_W rfl (.tmp 10) rfl wr.heap.size 0 rfl HX.out.2 (range_new wr x) ?_)
              | (refine wpList_alloc_W rfl rfl ?_)
              | (refine wpList_store_W rfl (.tmp 10) (.tmp 33) rfl rfl rfl HX.out.2 ?_)
              | (go_at_call 54; (with_reducible refine (HK.out).mono ?_); rintro e w1 ⟨rfl, hk1, hk2⟩; have H2 := Lib.hid (HN.out _ _ hk1 hk2); clear hk1 hk2))
            go_round
            case rel => exact ⟨j + 1, true, K2, 0, by omega, Lib.hid rfl, rfl, by go_num, HC.out, H2.out⟩
            case measure => simp [intOf]; omega
    · obtain rfl : j = d.waits.length := by omega
      rw [List.drop_length, crk] at hc
      subst hc
      obtain ⟨h1, h2⟩ := hk
      have e2 := h1.c2
      have g2 := h1.f 2
      have h3 := h1.setNil
      have h4 := h2.setCell (p := ⟨p, 2, none⟩) (.inl (by simp)) (.slice none 0 0)
      clear h1 h2
      go_wp2
      refine region_tail 8 (by kernel_rfl) (by kernel_rfl) fun W hW => ?_
      have HD : DqIn W p K S [] false n gk gs (.slice none 0 0) := by subst hW; exact h3.drew
      have HT : Tn (dqF p gk gs (.slice ao d.waits.length c)) w W := by subst hW; exact h4.drew
      clear hW h3 h4
      have a0 := HD.c0
      have a1 := HD.c1
      have bk := HD.bk
      have bs := HD.bs
      have l1 := flatS_len HD.ks
      have l2 := flatS_len HD.ss
      rw [HD.kn] at l1
      rw [HD.sn] at l2
      have HS := HD.setS (s' := K) HD.kn HD.ks
      have HU := HT.setRow (g := gs) (.inl (by simp)) (flatS K).toArray
      have a3 := HS.c3
      have g3 := HS.f 3
      have HE := Lib.hid (dpA_becomes (d := ⟨K, [], true⟩) (HS.setDown true) (HU.setCell (p := ⟨p, 3, none⟩) (.inl (by simp)) (.bool true)) (fun j hj => by simp [Value.ownBlock] at hj))
      clear HD HT HS HU
      simp only [List.take_succ_cons, List.take_zero, List.drop_succ_cons, List.drop_zero]
      repeat still_step
      refine wpStill_nil ?_
      refine wpList_copy_rows rfl (.tmp 57) (.tmp 61) 107 107 rfl TC Tryz.underlying107 64 info_C4 gs n n gk n rfl rfl (flatS S) (flatS K) TC TC bs bk l2 l1 (flatS_one K) ?_
      go_wp2
      go_ret
      exact ⟨rfl, HE.out⟩
theorem kpcrash (p : Nat) (d : Dk) (m t : Int) (hm : m ≤ 9223372036854775807) (ht : t ≤ 9223372036854775807) : Does Tryz.prog (dpA p d) 24 #[.pointer (some ⟨p, 0, none⟩), .int .i64 m, .int .i64 t] (.returned (.int .i64 (d.crE m t))) (dpA p (d.cr m t)) := by
  cases hd : d.down with
  | true =>
    rw [show d.crE m t = 801 by unfold Dk.crE; rw [hd]; rfl, show d.cr m t = d by unfold Dk.cr; rw [hd]; rfl]
    intro w F h
    have hs := dpA_same h (Below.refl _ _)
    obtain ⟨n, gk, gs, v, hi, rfl⟩ := h
    have Hu := Lib.hid (kup hi)
    rw [hd] at Hu
    clear hi
    go_enter Tryz.func24, Tryz.ntmps24
    go_wp2_with (go_at_call 52; (with_reducible refine (Hu.out).mono ?_); rintro e w1 ⟨rfl, rfl⟩)
    go_ret
    exact ⟨rfl, hs⟩
  | false =>
    by_cases hb : 0 ≤ m ∧ 0 ≤ t
    · obtain ⟨h0, h1⟩ := hb
      rw [show d.crE m t = 0 by unfold Dk.crE; rw [hd]; simp [h0, h1], show d.cr m t = ⟨crk m.toNat (min t.toNat 64) 0 false d.kept d.waits, [], true⟩ by unfold Dk.cr; rw [hd]; simp [h0, h1]]
      obtain ⟨m, rfl⟩ := Int.eq_ofNat_of_zero_le h0
      obtain ⟨t, rfl⟩ := Int.eq_ofNat_of_zero_le h1
      exact kpcrash1 p d m t _ rfl (by omega) (by omega) hd
    · rw [show d.crE m t = 800 by unfold Dk.crE; rw [hd]; simp; omega, show d.cr m t = d by unfold Dk.cr; rw [hd]; simp; omega]
      intro w F h
      have hs := dpA_same h (Below.refl _ _)
      obtain ⟨n, gk, gs, v, hi, rfl⟩ := h
      have Hu := Lib.hid (kup hi)
      rw [hd] at Hu
      clear hi
      by_cases h0 : m < 0
      · go_enter Tryz.func24, Tryz.ntmps24
        go_wp2_with (go_at_call 52; (with_reducible refine (Hu.out).mono ?_); rintro e w1 ⟨rfl, rfl⟩)
        go_ret
        exact ⟨rfl, hs⟩
      · have h1 : t < 0 := by omega
        go_enter Tryz.func24, Tryz.ntmps24
        go_wp2_with (go_at_call 52; (with_reducible refine (Hu.out).mono ?_); rintro e w1 ⟨rfl, rfl⟩)
        go_ret
        exact ⟨rfl, hs⟩
open Go Go.RowKit
theorem infC : (Tryz.prog.info? TC).map (fun i => (i.zero, i.size, i.bytes)) = some (some (.agg (bV zer64).toArray), 64, 64) := by kernel_rfl
theorem zer_at (j : Nat) (hj : j < 64) : (bV zer64)[j]? = some (.int .u8 0) := by
  have e : bV zer64 = List.replicate 64 (.int .u8 0) := by kernel_rfl
  rw [e, List.getElem?_replicate, if_pos hj]
theorem flat_zer (n : Nat) : flatS (List.replicate n zer64) = List.replicate (n * 64) (.int .u8 0) := by
  have e : bV zer64 = List.replicate 64 (.int .u8 0) := by kernel_rfl
  induction n with
  | zero => rfl
  | succ n ih => rw [List.replicate_succ, flatS_cons, ih, e, List.replicate_append_replicate]; congr 1; omega
abbrev kObj (n : Nat) : Obj := .cells (flatS (List.replicate n zer64)).toArray TC
theorem made_zer (n : Nat) : madeCells (bV zer64).toArray (n * 64) = (flatS (List.replicate n zer64)).toArray := by
  apply Array.ext_getElem?
  intro j
  have h64 : (bV zer64).toArray.size = 64 := by kernel_rfl
  unfold madeCells
  rw [Array.getElem?_map, Array.getElem?_range, flat_zer, List.getElem?_toArray (xs := List.replicate (n * 64) (Value.int .u8 0)), List.getElem?_replicate]
  by_cases h : j < n * 64
  · rw [if_pos h, if_pos h, Option.map_some, h64]
    have hz0 := zer_at (j % 64) (Nat.mod_lt _ (by decide))
    rw [getElem!_def, List.getElem?_toArray, hz0]
  · rw [if_neg h, if_neg h]
    rfl
theorem three_0 (w : World) (A B C : Obj) : (((w.alloc A).alloc B).alloc C).heap[w.heap.size]? = some A := by
  rw [Go.heap_alloc_old _ _ (by simp; omega), Go.heap_alloc_old _ _ (by simp)]
  exact heap_alloc_new w A
theorem three_1 (w : World) (A B C : Obj) : (((w.alloc A).alloc B).alloc C).heap[w.heap.size + 1]? = some B := by
  rw [Go.heap_alloc_old _ _ (by simp)]
  exact heap_alloc2_new w A B
theorem three_2 (w : World) (A B C : Obj) : (((w.alloc A).alloc B).alloc C).heap[w.heap.size + 1 + 1]? = some C := by
  have := heap_alloc_new ((w.alloc A).alloc B) C
  rw [show ((w.alloc A).alloc B).heap.size = w.heap.size + 1 + 1 by simp] at this
  exact this
theorem three_b (w : World) (A B C : Obj) : Below w.heap.size w (((w.alloc A).alloc B).alloc C).drew := by
  have h := (((Below.refl w.heap.size w).alloc (Nat.le_refl _) A).alloc (by simp) B).alloc (by simp; omega) C
  exact ⟨h.os, h.tape, h.output, h.size, h.block⟩
theorem k_made (n : Nat) (h1 : 1 ≤ n) (h2 : n ≤ 256) (W : World) : (Instr.makeSlice 107 (.int .i64 (n : Int)) (.int .i64 (n : Int))).run Tryz.prog W = .ok (.slice (some ⟨W.heap.size, 0, none⟩) n n) (W.alloc (kObj n)) := by
  obtain ⟨i, hi, hz, hs, hb⟩ := info_of infC
  have hr := run_make (P := Tryz.prog) W 107 TC i (.agg (bV zer64).toArray) Tryz.underlying107 hi hz .i64 .i64 n n (by omega) (Int.le_refl _) (by rw [hb]; omega) (by omega)
  rw [Int.toNat_natCast, hs] at hr
  rw [hr, show (Value.agg (bV zer64).toArray).cells = (bV zer64).toArray from rfl, made_zer]
theorem k_in {w : World} {n p gk gs : Nat} (h1 : 1 ≤ n) (h2 : n ≤ 256) (hp : w.heap[p]? = some (.cells #[.slice (some ⟨gk, 0, none⟩) n n, .slice (some ⟨gs, 0, none⟩) n n, .slice none 0 0, .bool false] TD (0, 0))) (hk : w.heap[gk]? = some (kObj n)) (hs : w.heap[gs]? = some (kObj n)) (d1 : p ≠ gk) (d2 : p ≠ gs) (d3 : gk ≠ gs) :
    DqIn w p (List.replicate n zer64) (List.replicate n zer64) [] false n gk gs (.slice none 0 0) :=
  ⟨hp, hk, hs, World.ownsRow_nil _ _ _ _, d1, d2, d3, by simp [Value.ownBlock], by simp [Value.ownBlock], by simp [Value.ownBlock], by simp, by simp, h1, h2, fun x hx => by rw [List.eq_of_mem_replicate hx]; rfl, fun x hx => by rw [List.eq_of_mem_replicate hx]; rfl, fun x hx => by cases hx⟩
theorem k_becomes {w w' : World} {n p gk gs : Nat} (h : DqIn w' p (List.replicate n zer64) (List.replicate n zer64) [] false n gk gs (.slice none 0 0)) (hb : Below w.heap.size w w') (h1 : w.heap.size ≤ p) (h2 : w.heap.size ≤ gk) (h3 : w.heap.size ≤ gs) : Becomes [] (dpA p (Dk.new n)) w w' :=
  ⟨_, ⟨n, gk, gs, .slice none 0 0, h, rfl⟩, Tn.ofBelow hb _, fun j hj => .inr (by
    simp [Value.ownBlock] at hj
    rcases hj with rfl | rfl | rfl
    · exact h1
    · exact h2
    · exact h3)⟩
def KpnewP (n : Nat) (w : World) (e : Ending) (w' : World) : Prop := ∃ p : Nat, e = .returned (.tuple #[.pointer (some ⟨p, 0, none⟩), .int .i64 0]) ∧ Becomes [] (dpA p (Dk.new n)) w w'
theorem kpnew_bad (n : Int) (w : World) (h : n < 1 ∨ 256 < n) : Calls Tryz.prog 44 #[.int .i64 n] w fun e w' => e = .returned (.tuple #[.pointer none, .int .i64 800]) ∧ Below w.heap.size w w' := by
  rcases h with h | h
  · go_enter Tryz.func44, Tryz.ntmps44
    go_wp2
    go_ret2
    exact ⟨rfl, Below.refl _ _⟩
  · have h' : ¬ n < 1 := by omega
    go_enter Tryz.func44, Tryz.ntmps44
    go_wp2
    go_ret2
    exact ⟨rfl, Below.refl _ _⟩
set_option maxRecDepth 100000 in
set_option maxHeartbeats 2000000 in
theorem kpnew_ok (n : Nat) (w : World) (h1 : 1 ≤ n) (h2 : n ≤ 256) : Calls Tryz.prog 44 #[.int .i64 n] w (KpnewP n w) := by
  have hmk := k_made n h1 h2
  go_enter Tryz.func44, Tryz.ntmps44
  go_wp2
  have HA := Lib.hid (fun O (hO : O = _) => k_becomes (w := w) (k_in (w := (((w.alloc (kObj n)).alloc (kObj n)).alloc O).drew) (gk := w.heap.size) (gs := w.heap.size + 1) h1 h2 ((three_2 w _ _ O).trans (congrArg some hO)) (three_0 w _ _ O) (three_1 w _ _ O) (by omega) (by omega) (by omega)) (three_b w _ _ O) (by omega) (by omega) (by omega))
  have HB := Lib.hid (fun O (hO : O = _) => k_becomes (w := w) (k_in (w := (((w.alloc (kObj n)).alloc (kObj n)).alloc O).drew) (gk := w.heap.size + 1) (gs := w.heap.size) h1 h2 ((three_2 w _ _ O).trans (congrArg some hO)) (three_1 w _ _ O) (three_0 w _ _ O) (by omega) (by omega) (by omega)) (three_b w _ _ O) (by omega) (by omega) (by omega))
  go_region
  all_goals
    go_wp2
    go_ret2
    first
      | exact ⟨_, rfl, HA.out _ rfl⟩
      | exact ⟨_, rfl, HB.out _ rfl⟩
end Go.Proofs.YtbfpfmidjdonjaaGreatDoor
