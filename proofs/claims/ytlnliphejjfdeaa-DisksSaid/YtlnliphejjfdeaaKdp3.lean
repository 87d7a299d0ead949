/- Package disk's Flush: what it answers and leaves. No condition but that the disk is one. -/
import Derived.Test.YtlnliphejjfdeaaKdp2
namespace Go.Proofs.Ytlnliphejjfdeaa
open Go Go.RowKit

def zW : Array Value := (wV (0, zer64)).toArray
theorem zW_size : zW.size = 65 := by kernel_rfl
theorem zero_W (w : World) : (zeroValue TW).run Try.prog w = .ok (.agg zW) w := (zero_of_info (n := 65) (by kernel_rfl)).1 w
theorem info_W : (Try.prog.info? TW).map (·.size) = some 65 := by kernel_rfl
theorem under_W : ∃ d, Try.prog.underlying TW = some d ∧ d.isRow = true := ⟨_, Try.underlying67, rfl⟩
theorem run_alloc_W (w : World) : (Instr.alloc TW true (.tuple #[])).run Try.prog w = .ok (.pointer (some ⟨w.heap.size, 0, none⟩)) (w.alloc (.cells zW TW)) := by
  simp [Instr.alloc, Sem.run_bind, zero_W, newVar, newRow, Value.cells]
/-- A write out of the row, laid into a variable of its own. -/
theorem run_store_W (w : World) {x : Wt} (hx : x.2.size = 64) : (Instr.storeAt TW (.pointer (some ⟨w.heap.size, 0, none⟩)) (.agg (wV x).toArray)).run Try.prog (w.alloc (.cells zW TW)) = .ok () (w.alloc (.cells (wV x).toArray TW)) :=
  run_storeAt_new w TW zW (wV x).toArray (by rw [info_W]; simp [wV_len hx]) (by rw [zW_size]; simp [wV_len hx]) (all_oneCell_toArray (wV_one x))
theorem run_load_W {w : World} {g o : Nat} {x : Wt} (hx : x.2.size = 64) (h : w.rangeAt g o (wV x)) : (Instr.loadAt TW (.pointer (some ⟨g, o, none⟩))).run Try.prog w = .ok (.agg (wV x).toArray) w := by
  obtain ⟨d, h1, h2⟩ := under_W
  exact run_loadAt_mid w g o TW (wV x) d h h1 h2 (by rw [info_W, wV_len hx])
theorem range_new (w : World) (x : Wt) : (w.alloc (.cells (wV x).toArray TW)).rangeAt w.heap.size 0 (wV x) :=
  rangeAt_row (heap_alloc_new w _) (fun j u hu => by rw [Nat.zero_add]; exact hu)
section
variable {ops : Array Oper} {rest : List Oper} {op : Oper} {a : Act} {w : World} {Q : Exit → Act → World → Prop}
theorem wpList_load_W (hgd : op.guard = none) (y : Operand) (ho : op.op = .load TW y) (g o : Nat) (hy : a.eval y = .pointer (some ⟨g, o, none⟩)) {x : Wt} (hx : x.2.size = 64) (h : w.rangeAt g o (wV x))
    (hK : wpList Try.prog ops Q rest (a.put op.dst (.agg (wV x).toArray)) w) : wpList Try.prog ops Q (op :: rest) a w := by
  obtain ⟨d, h1, h2⟩ := under_W
  exact wpList_load_mid hgd TW y ho g o hy (wV x) d h h1 h2 (by rw [info_W, wV_len hx]) hK
theorem wpList_alloc_W (hgd : op.guard = none) (ho : op.op = .alloc TW) (hK : wpList Try.prog ops Q rest (a.put op.dst (.pointer (some ⟨w.heap.size, 0, none⟩))) (w.alloc (.cells zW TW))) : wpList Try.prog ops Q (op :: rest) a w :=
  Great.wpList_runTo hgd op.dst rfl _ _ (by unfold execOp; simp only [ho, Sem.run_bind, run_alloc_W, Result.andThen_ok]; rfl) hK
theorem wpList_store_W (hgd : op.guard = none) (y z : Operand) (ho : op.op = .store TW y z) (hy : a.eval y = .pointer (some ⟨w.heap.size, 0, none⟩)) {x : Wt} (hz : a.eval z = .agg (wV x).toArray) (hx : x.2.size = 64)
    (hK : wpList Try.prog ops Q rest (a.put op.dst undef) (w.alloc (.cells (wV x).toArray TW))) : wpList Try.prog ops Q (op :: rest) a (w.alloc (.cells zW TW)) :=
  wpList_plain hgd fun K hk => by
    unfold Oper.wp execOp
    simp only [ho, hy, hz, Sem.run_bind, run_store_W w hx, Result.andThen_ok]
    exact hk _ _ hK
end
/-- So far kept. -/
def KAt (w : World) (p : Nat) (s : List ByteArray) (ws : List Wt) (n gk gs : Nat) (v : Value) (K : List ByteArray) (w' : World) : Prop := DqIn w' p K s ws false n gk gs v ∧ Tn (dqF p gk gs v) w w'
theorem KAt.next {w : World} {p : Nat} {s : List ByteArray} {ws : List Wt} {n gk gs : Nat} {v : Value} {K : List ByteArray} {w' : World} (h : KAt w p s ws n gk gs v K w') {K' : List ByteArray} {w1 w2 : World} (hb : Below w'.heap.size w' w1) (hd : DqIn w2 p K' s ws false n gk gs v) (ht : Tn [gk] w1 w2) : KAt w p s ws n gk gs v K' w2 :=
  ⟨hd, h.2.trans ((Tn.ofBelow hb (dqF p gk gs v)).trans (ht.mono (G := dqF p gk gs v) (by simp)) (fun x hx => .inl hx)) (fun x hx => .inl hx)⟩
set_option maxHeartbeats 4000000 in
theorem kpflush (p : Nat) (d : Dk) : Does Try.prog (dpA p d) 14 #[.pointer (some ⟨p, 0, none⟩)] (.returned (.int .i64 d.flE)) (dpA p d.fl) := by
  intro w F h
  have hs := dpA_same h (Below.refl _ _)
  obtain ⟨n, gk, gs, v, hi, rfl⟩ := h
  have Hu := Lib.hid (kup hi)
  cases hd : d.down with
  | true =>
    rw [show d.flE = 801 by unfold Dk.flE; rw [hd]; rfl, show d.fl = d by unfold Dk.fl; rw [hd]; rfl]
    rw [hd] at Hu
    clear hi
    go_enter Try.func14, Try.ntmps14
    go_wp2_with (go_at_call 25; (with_reducible refine (Hu.out).mono ?_); rintro e w1 ⟨rfl, rfl⟩)
    go_ret
    exact ⟨rfl, hs⟩
  | false =>
    rw [show d.flE = 0 by unfold Dk.flE; rw [hd]; rfl, show d.fl = ⟨d.see, [], false⟩ by unfold Dk.fl; rw [hd]; rfl]
    rw [hd] at Hu hi
    have c2 := hi.c2
    have hfew := hi.few
    have hws := hi.wo
    unfold maxLen at hfew
    have h0 : KAt w p d.see d.waits n gk gs v d.kept w := ⟨hi, Tn.refl _ _⟩
    obtain ⟨ao, c, rfl⟩ := hi.shape
    clear hi hs
    have hfin : ∀ w', KAt w p d.see d.waits n gk gs (.slice ao d.waits.length c) d.see w' → Becomes (dqF p gk gs (.slice ao d.waits.length c)) (dpA p ⟨d.see, [], false⟩) w (w'.setCell ⟨p, 2, none⟩ (.slice none 0 0)) :=
      fun w' hk => dpA_becomes (d := ⟨d.see, [], false⟩) hk.1.setNil (hk.2.setCell (.inl (by simp)) _) (fun j hj => by simp [Value.ownBlock] at hj)
    have hall : keepAll d.kept (d.waits.take d.waits.length) = d.see := by rw [List.take_length]; rfl
    generalize d.see = S at *
    have HF := Lib.hid hfin
    have HA := Lib.hid hall
    have HW := Lib.hid hws
    clear hfin hall hws
    go_enter Try.func14, Try.ntmps14
    go_wp2_with (go_at_call 25; (with_reducible refine (Hu.out).mono ?_); rintro e w1 ⟨rfl, rfl⟩)
    go_loopw [16] (fun x wr => ∃ j : Nat, j ≤ d.waits.length ∧ x = .int .i64 (j : Int) ∧ KAt w p S d.waits n gk gs (.slice ao d.waits.length c) (keepAll d.kept (d.waits.take j)) wr) (fun x _ => d.waits.length - (intOf x).toNat)
    case atStart => exact ⟨0, Nat.zero_le _, rfl, h0⟩
    case round =>
      clear h0
      obtain ⟨j, hj, rfl, hk⟩ := hrel
      by_cases hlt : j < d.waits.length
      · obtain ⟨x, hx⟩ : ∃ x, d.waits.getD j (0, ⟨#[]⟩) = x := ⟨_, rfl⟩
        obtain ⟨gw, cw, hv, hr⟩ := hk.1.wait hlt
        obtain ⟨rfl, rfl⟩ : ao = some ⟨gw, 0, none⟩ ∧ c = cw := by simpa using hv
        clear hv
        rw [hx] at hr
        have hxo := HW.out x (by rw [← hx, List.getD, List.getElem?_eq_getElem hlt]; exact List.getElem_mem hlt)
        have hstep := keepAll_take (k := d.kept) hlt
        rw [hx] at hstep
        have HR := Lib.hid hr
        have HK := Lib.hid (kkeep64 (hk.1.alloc (.cells (wV x).toArray TW)) x hxo (keepAll d.kept (d.waits.take (j + 1))) hstep.symm)
        have HN := Lib.hid (fun w2 => hk.next (K' := keepAll d.kept (d.waits.take (j + 1))) (w2 := w2) ((Below.refl _ _).alloc (Nat.le_refl _) (.cells (wV x).toArray TW)))
        generalize hK2 : keepAll d.kept (d.waits.take (j + 1)) = K2 at *
        have HE := Lib.hid hK2
        clear hK2
        have HX := Lib.hid hxo
        clear hk hr hxo hstep hx
        go_wp2_with (first
          | (refine wpList_load_W rfl (.tmp 18) rfl gw (j * 65) rfl HX.out.2 HR.out ?_)
          | (refine wpList_load_W rfl (.tmp 5) rfl wr.heap.size 0 rfl HX.out.2 (range_new wr x) ?_)
          | (refine wpList_alloc_W rfl rfl ?_)
          | (refine wpList_store_W rfl (.tmp 5) (.tmp 19) rfl rfl rfl HX.out.2 ?_)
          | (go_at_call 27; (with_reducible refine (HK.out).mono ?_); rintro e w1 ⟨rfl, hk1, hk2⟩; have H2 := Lib.hid (HN.out _ hk1 hk2); clear hk1 hk2))
        go_round
        case rel => exact ⟨j + 1, by omega, by go_num, by rw [HE.out]; exact H2.out⟩
        case measure => simp [intOf]; omega
      · obtain rfl : j = d.waits.length := by omega
        rw [HA.out] at hk
        have c2 := hk.1.c2
        have f2 := hk.1.f 2
        have HB := Lib.hid (HF.out _ hk)
        clear hk
        go_wp2
        go_ret
        exact ⟨rfl, HB.out⟩
end Go.Proofs.Ytlnliphejjfdeaa
