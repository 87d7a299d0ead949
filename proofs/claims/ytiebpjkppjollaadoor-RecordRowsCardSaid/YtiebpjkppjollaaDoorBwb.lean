/- Put together: Rcp3, Rcp4. Conditions: each theorem's own. -/
import Derived.Test.YtiebpjkppjollaaDoorBwa
import Derived.Test.YtiebpjkppjollaaDoorBlk
import Derived.Test.YtiebpjkppjollaaDoorBeb
import Derived.LoopN
import Derived.Test.YtiebpjkppjollaaDoorRcref
namespace Go.Proofs.YtiebpjkppjollaaDoor
open Go Go.RowKit

theorem join_body (r : Rc) : (((((⟨#[]⟩ : ByteArray) ++ numS r.seq) ++ numS r.boot) ++ numS r.prev) ++ textS r.ev.put) = r.body := by
  simp only [Rc.body, Rc.fl, encL, Fld.enc]
  simp only [ba_assoc]
  rw [ba_nil, nil_ba]
set_option maxRecDepth 100000 in
set_option maxHeartbeats 8000000 in
theorem pjoin_yes (r : Rc) (hm : r.may = true) (w : World) : Calls Tryd.prog 34 #[r.val] w fun e w' => e = .returned (.tuple #[.string r.body, .bool true]) ∧ Below w.heap.size w w' := by
  obtain ⟨m1, m2, m3, m4, m5, m6⟩ := (Rc.may_iff r).1 hm
  have hn : ∀ x : Int, okNum x = true → ∀ w, Calls Tryd.prog 53 #[.int .i64 x] w fun e w' => e = .returned (.tuple #[.string (numS x), .int .i64 0]) ∧ Below w.heap.size w w' := fun x hx w => by
    have := fnumA x w
    rw [show numE x = 0 by unfold numE; rw [hx]; rfl] at this
    exact this
  have N1 := Lib.hid (hn _ m2)
  have N2 := Lib.hid (hn _ m4)
  have N3 := Lib.hid (hn _ m5)
  have hp := fun w => epput r.ev w
  rw [show r.ev.putS = r.ev.put by unfold Ev.putS; rw [m6]; rfl, show r.ev.putE = 0 by unfold Ev.putE; rw [m6]; rfl] at hp
  have hf := fun w => pframe r.ev.put w (by have := Ev.put_small r.ev; omega)
  have hj := join_body r
  have z1 := numS_size5 r.seq
  have z2 := numS_size5 r.boot
  have z3 := numS_size5 r.prev
  have z4 := textS_size (Ev.put_small r.ev)
  rw [← hj]
  clear hm hj hn m2 m4 m5 m6
  generalize textS r.ev.put = S4 at *
  generalize r.ev.put = S5 at *
  obtain ⟨seq, boot, prev, ⟨k, u, s, a, x, y, z, t⟩⟩ := r
  unfold Rc.val
  simp only [Ev.val] at hp m1 m3 z1 z2 z3 z4 N1 N2 N3 ⊢
  generalize numS seq = S1 at *
  generalize numS boot = S2 at *
  generalize numS prev = S3 at *
  have HP := Lib.hid hp
  have HF := Lib.hid hf
  clear hp hf
  have hbl : ∀ W, Below ((w.alloc (.cells #[.int .i64 seq, .int .i64 boot, .int .i64 prev, .int .i64 k, .int .i64 u, .int .i64 s, .int .i64 a, .int .i64 x, .int .i64 y, .int .i64 z, .int .i64 t] 34)).alloc (.cells #[.int .i64 seq, .int .i64 boot, .int .i64 prev] 3)).heap.size ((w.alloc (.cells #[.int .i64 seq, .int .i64 boot, .int .i64 prev, .int .i64 k, .int .i64 u, .int .i64 s, .int .i64 a, .int .i64 x, .int .i64 y, .int .i64 z, .int .i64 t] 34)).alloc (.cells #[.int .i64 seq, .int .i64 boot, .int .i64 prev] 3)) W →
      Blk W w.heap.size #[.int .i64 seq, .int .i64 boot, .int .i64 prev, .int .i64 k, .int .i64 u, .int .i64 s, .int .i64 a, .int .i64 x, .int .i64 y, .int .i64 z, .int .i64 t] ∧ Blk W (w.heap.size + 1) #[.int .i64 seq, .int .i64 boot, .int .i64 prev] ∧ Below w.heap.size w W := fun W h =>
    ⟨((Blk.new _ _ _).alloc _).step h, (Blk.new' _ _ (by simp) _ _).step h, (((Below.refl _ _).alloc (Nat.le_refl _) _).alloc (by simp) _).trans (h.mono (by simp; omega))⟩
  have HB := Lib.hid hbl
  clear hbl
  go_enter Tryd.func34, Tryd.ntmps34
  go_wp2
  refine wp_loop_rounds 4 ?_
  rw [rounds_succ]
  go_wp2_with (go_at_call 53; (with_reducible refine (N1.out _).mono ?_); rintro e w1 ⟨rfl, hb0⟩; obtain ⟨k1, k2, k3⟩ := HB.out _ hb0; have e1 := k1.cell; have e2 := k2.cell)
  rw [rounds_succ]
  go_wp2_with (go_at_call 53; (with_reducible refine (N2.out _).mono ?_); rintro e w2 ⟨rfl, hb⟩; replace hb0 := hb0.trans (hb.mono hb0.size); obtain ⟨k1, k2, k3⟩ := HB.out _ hb0; have e1 := k1.cell; have e2 := k2.cell; clear hb)
  rw [rounds_succ]
  go_wp2_with (go_at_call 53; (with_reducible refine (N3.out _).mono ?_); rintro e w3 ⟨rfl, hb⟩; replace hb0 := hb0.trans (hb.mono hb0.size); obtain ⟨k1, k2, k3⟩ := HB.out _ hb0; have e1 := k1.cell; have e2 := k2.cell; clear hb)
  rw [rounds_succ]
  go_wp2_with (first
    | (go_at_call 54; (with_reducible refine (HP.out _).mono ?_); rintro e w4 ⟨rfl, hb⟩; replace hb0 := hb0.trans (hb.mono hb0.size); obtain ⟨k1, k2, k3⟩ := HB.out _ hb0; have e1 := k1.cell; have e2 := k2.cell; clear hb)
    | (go_at_call 55; (with_reducible refine (HF.out _).mono ?_); rintro e w5 ⟨rfl, hb⟩; replace hb0 := hb0.trans (hb.mono hb0.size); obtain ⟨k1, k2, k3⟩ := HB.out _ hb0; clear hb))
  go_ret2
  exact ⟨rfl, k3⟩
end Go.Proofs.YtiebpjkppjollaaDoor

namespace Go.Proofs.YtiebpjkppjollaaDoor
open Go Go.RowKit

theorem nyes {x : Int} (hx : okNum x = true) (w : World) : Calls Tryd.prog 53 #[.int .i64 x] w fun e w' => e = .returned (.tuple #[.string (numS x), .int .i64 0]) ∧ Below w.heap.size w w' := by
  have := fnumA x w
  rw [show numE x = 0 by unfold numE; rw [hx]; rfl] at this
  exact this
theorem nno {x : Int} (hx : okNum x = false) (w : World) : Calls Tryd.prog 53 #[.int .i64 x] w fun e w' => e = .returned (.tuple #[.string (numS x), .int .i64 100]) ∧ Below w.heap.size w w' := by
  have := fnumA x w
  rw [show numE x = 100 by unfold numE; rw [hx]; rfl] at this
  exact this
set_option maxRecDepth 100000 in
set_option maxHeartbeats 8000000 in
theorem pjoin_n1 (seq boot prev k u s a x y z t : Int) (h : seq < 1) (w : World) : Calls Tryd.prog 34 #[.agg #[.int .i64 seq, .int .i64 boot, .int .i64 prev, .int .i64 k, .int .i64 u, .int .i64 s, .int .i64 a, .int .i64 x, .int .i64 y, .int .i64 z, .int .i64 t]] w fun e w' => e = .returned (.tuple #[.string ⟨#[]⟩, .bool false]) ∧ Below w.heap.size w w' := by
  go_enter Tryd.func34, Tryd.ntmps34
  go_wp2
  go_ret2
  exact ⟨rfl, (Below.refl _ _).alloc (Nat.le_refl _) _⟩
set_option maxRecDepth 100000 in
set_option maxHeartbeats 8000000 in
theorem pjoin_n2 (seq boot prev k u s a x y z t : Int) (c1 : 1 ≤ seq) (h : boot < 1) (w : World) : Calls Tryd.prog 34 #[.agg #[.int .i64 seq, .int .i64 boot, .int .i64 prev, .int .i64 k, .int .i64 u, .int .i64 s, .int .i64 a, .int .i64 x, .int .i64 y, .int .i64 z, .int .i64 t]] w fun e w' => e = .returned (.tuple #[.string ⟨#[]⟩, .bool false]) ∧ Below w.heap.size w w' := by
  go_enter Tryd.func34, Tryd.ntmps34
  go_wp2
  go_ret2
  exact ⟨rfl, (Below.refl _ _).alloc (Nat.le_refl _) _⟩
set_option maxRecDepth 100000 in
set_option maxHeartbeats 8000000 in
theorem pjoin_n3 (seq boot prev k u s a x y z t : Int) (c1 : 1 ≤ seq) (c2 : 1 ≤ boot) (h1 : okNum seq = false) (w : World) : Calls Tryd.prog 34 #[.agg #[.int .i64 seq, .int .i64 boot, .int .i64 prev, .int .i64 k, .int .i64 u, .int .i64 s, .int .i64 a, .int .i64 x, .int .i64 y, .int .i64 z, .int .i64 t]] w fun e w' => e = .returned (.tuple #[.string ⟨#[]⟩, .bool false]) ∧ Below w.heap.size w w' := by
  have z1 := numS_size5 seq
  have N1 := Lib.hid (fun w => nno h1 w)
  clear h1
  generalize numS seq = S1 at *
  have hbl : ∀ W, Below ((w.alloc (.cells #[.int .i64 seq, .int .i64 boot, .int .i64 prev, .int .i64 k, .int .i64 u, .int .i64 s, .int .i64 a, .int .i64 x, .int .i64 y, .int .i64 z, .int .i64 t] 34)).alloc (.cells #[.int .i64 seq, .int .i64 boot, .int .i64 prev] 3)).heap.size ((w.alloc (.cells #[.int .i64 seq, .int .i64 boot, .int .i64 prev, .int .i64 k, .int .i64 u, .int .i64 s, .int .i64 a, .int .i64 x, .int .i64 y, .int .i64 z, .int .i64 t] 34)).alloc (.cells #[.int .i64 seq, .int .i64 boot, .int .i64 prev] 3)) W → Blk W w.heap.size #[.int .i64 seq, .int .i64 boot, .int .i64 prev, .int .i64 k, .int .i64 u, .int .i64 s, .int .i64 a, .int .i64 x, .int .i64 y, .int .i64 z, .int .i64 t] ∧ Blk W (w.heap.size + 1) #[.int .i64 seq, .int .i64 boot, .int .i64 prev] ∧ Below w.heap.size w W := fun W h =>
    ⟨((Blk.new _ _ _).alloc _).step h, (Blk.new' _ _ (by simp) _ _).step h, (((Below.refl _ _).alloc (Nat.le_refl _) _).alloc (by simp) _).trans (h.mono (by simp; omega))⟩
  have HB := Lib.hid hbl
  clear hbl
  go_enter Tryd.func34, Tryd.ntmps34
  go_wp2
  refine wp_loop_rounds 4 ?_
  rw [rounds_succ]
  go_wp2_with (go_at_call 53; (with_reducible refine (N1.out _).mono ?_); rintro e w1 ⟨rfl, hb0⟩; obtain ⟨k1, k2, k3⟩ := HB.out _ hb0; have e1 := k1.cell; have e2 := k2.cell)
  go_ret2
  exact ⟨rfl, k3⟩
set_option maxRecDepth 100000 in
set_option maxHeartbeats 8000000 in
theorem pjoin_n4 (seq boot prev k u s a x y z t : Int) (c1 : 1 ≤ seq) (c2 : 1 ≤ boot) (h1 : okNum seq = true) (h2 : okNum boot = false) (w : World) : Calls Tryd.prog 34 #[.agg #[.int .i64 seq, .int .i64 boot, .int .i64 prev, .int .i64 k, .int .i64 u, .int .i64 s, .int .i64 a, .int .i64 x, .int .i64 y, .int .i64 z, .int .i64 t]] w fun e w' => e = .returned (.tuple #[.string ⟨#[]⟩, .bool false]) ∧ Below w.heap.size w w' := by
  have z1 := numS_size5 seq
  have N1 := Lib.hid (fun w => nyes h1 w)
  clear h1
  generalize numS seq = S1 at *
  have z2 := numS_size5 boot
  have N2 := Lib.hid (fun w => nno h2 w)
  clear h2
  generalize numS boot = S2 at *
  have hbl : ∀ W, Below ((w.alloc (.cells #[.int .i64 seq, .int .i64 boot, .int .i64 prev, .int .i64 k, .int .i64 u, .int .i64 s, .int .i64 a, .int .i64 x, .int .i64 y, .int .i64 z, .int .i64 t] 34)).alloc (.cells #[.int .i64 seq, .int .i64 boot, .int .i64 prev] 3)).heap.size ((w.alloc (.cells #[.int .i64 seq, .int .i64 boot, .int .i64 prev, .int .i64 k, .int .i64 u, .int .i64 s, .int .i64 a, .int .i64 x, .int .i64 y, .int .i64 z, .int .i64 t] 34)).alloc (.cells #[.int .i64 seq, .int .i64 boot, .int .i64 prev] 3)) W → Blk W w.heap.size #[.int .i64 seq, .int .i64 boot, .int .i64 prev, .int .i64 k, .int .i64 u, .int .i64 s, .int .i64 a, .int .i64 x, .int .i64 y, .int .i64 z, .int .i64 t] ∧ Blk W (w.heap.size + 1) #[.int .i64 seq, .int .i64 boot, .int .i64 prev] ∧ Below w.heap.size w W := fun W h =>
    ⟨((Blk.new _ _ _).alloc _).step h, (Blk.new' _ _ (by simp) _ _).step h, (((Below.refl _ _).alloc (Nat.le_refl _) _).alloc (by simp) _).trans (h.mono (by simp; omega))⟩
  have HB := Lib.hid hbl
  clear hbl
  go_enter Tryd.func34, Tryd.ntmps34
  go_wp2
  refine wp_loop_rounds 4 ?_
  rw [rounds_succ]
  go_wp2_with (go_at_call 53; (with_reducible refine (N1.out _).mono ?_); rintro e w1 ⟨rfl, hb0⟩; obtain ⟨k1, k2, k3⟩ := HB.out _ hb0; have e1 := k1.cell; have e2 := k2.cell)
  rw [rounds_succ]
  go_wp2_with (go_at_call 53; (with_reducible refine (N2.out _).mono ?_); rintro e w2 ⟨rfl, hb⟩; replace hb0 := hb0.trans (hb.mono hb0.size); obtain ⟨k1, k2, k3⟩ := HB.out _ hb0; have e1 := k1.cell; have e2 := k2.cell; clear hb)
  go_ret2
  exact ⟨rfl, k3⟩
set_option maxRecDepth 100000 in
set_option maxHeartbeats 8000000 in
theorem pjoin_n5 (seq boot prev k u s a x y z t : Int) (c1 : 1 ≤ seq) (c2 : 1 ≤ boot) (h1 : okNum seq = true) (h2 : okNum boot = true) (h3 : okNum prev = false) (w : World) : Calls Tryd.prog 34 #[.agg #[.int .i64 seq, .int .i64 boot, .int .i64 prev, .int .i64 k, .int .i64 u, .int .i64 s, .int .i64 a, .int .i64 x, .int .i64 y, .int .i64 z, .int .i64 t]] w fun e w' => e = .returned (.tuple #[.string ⟨#[]⟩, .bool false]) ∧ Below w.heap.size w w' := by
  have z1 := numS_size5 seq
  have N1 := Lib.hid (fun w => nyes h1 w)
  clear h1
  generalize numS seq = S1 at *
  have z2 := numS_size5 boot
  have N2 := Lib.hid (fun w => nyes h2 w)
  clear h2
  generalize numS boot = S2 at *
  have z3 := numS_size5 prev
  have N3 := Lib.hid (fun w => nno h3 w)
  clear h3
  generalize numS prev = S3 at *
  have hbl : ∀ W, Below ((w.alloc (.cells #[.int .i64 seq, .int .i64 boot, .int .i64 prev, .int .i64 k, .int .i64 u, .int .i64 s, .int .i64 a, .int .i64 x, .int .i64 y, .int .i64 z, .int .i64 t] 34)).alloc (.cells #[.int .i64 seq, .int .i64 boot, .int .i64 prev] 3)).heap.size ((w.alloc (.cells #[.int .i64 seq, .int .i64 boot, .int .i64 prev, .int .i64 k, .int .i64 u, .int .i64 s, .int .i64 a, .int .i64 x, .int .i64 y, .int .i64 z, .int .i64 t] 34)).alloc (.cells #[.int .i64 seq, .int .i64 boot, .int .i64 prev] 3)) W → Blk W w.heap.size #[.int .i64 seq, .int .i64 boot, .int .i64 prev, .int .i64 k, .int .i64 u, .int .i64 s, .int .i64 a, .int .i64 x, .int .i64 y, .int .i64 z, .int .i64 t] ∧ Blk W (w.heap.size + 1) #[.int .i64 seq, .int .i64 boot, .int .i64 prev] ∧ Below w.heap.size w W := fun W h =>
    ⟨((Blk.new _ _ _).alloc _).step h, (Blk.new' _ _ (by simp) _ _).step h, (((Below.refl _ _).alloc (Nat.le_refl _) _).alloc (by simp) _).trans (h.mono (by simp; omega))⟩
  have HB := Lib.hid hbl
  clear hbl
  go_enter Tryd.func34, Tryd.ntmps34
  go_wp2
  refine wp_loop_rounds 4 ?_
  rw [rounds_succ]
  go_wp2_with (go_at_call 53; (with_reducible refine (N1.out _).mono ?_); rintro e w1 ⟨rfl, hb0⟩; obtain ⟨k1, k2, k3⟩ := HB.out _ hb0; have e1 := k1.cell; have e2 := k2.cell)
  rw [rounds_succ]
  go_wp2_with (go_at_call 53; (with_reducible refine (N2.out _).mono ?_); rintro e w2 ⟨rfl, hb⟩; replace hb0 := hb0.trans (hb.mono hb0.size); obtain ⟨k1, k2, k3⟩ := HB.out _ hb0; have e1 := k1.cell; have e2 := k2.cell; clear hb)
  rw [rounds_succ]
  go_wp2_with (go_at_call 53; (with_reducible refine (N3.out _).mono ?_); rintro e w3 ⟨rfl, hb⟩; replace hb0 := hb0.trans (hb.mono hb0.size); obtain ⟨k1, k2, k3⟩ := HB.out _ hb0; have e1 := k1.cell; have e2 := k2.cell; clear hb)
  go_ret2
  exact ⟨rfl, k3⟩
set_option maxRecDepth 100000 in
set_option maxHeartbeats 8000000 in
theorem pjoin_n6 (seq boot prev k u s a x y z t : Int) (c1 : 1 ≤ seq) (c2 : 1 ≤ boot) (h1 : okNum seq = true) (h2 : okNum boot = true) (h3 : okNum prev = true) (h4 : (Ev.mk k u s a x y z t).may = false) (w : World) : Calls Tryd.prog 34 #[.agg #[.int .i64 seq, .int .i64 boot, .int .i64 prev, .int .i64 k, .int .i64 u, .int .i64 s, .int .i64 a, .int .i64 x, .int .i64 y, .int .i64 z, .int .i64 t]] w fun e w' => e = .returned (.tuple #[.string ⟨#[]⟩, .bool false]) ∧ Below w.heap.size w w' := by
  have z1 := numS_size5 seq
  have N1 := Lib.hid (fun w => nyes h1 w)
  clear h1
  generalize numS seq = S1 at *
  have z2 := numS_size5 boot
  have N2 := Lib.hid (fun w => nyes h2 w)
  clear h2
  generalize numS boot = S2 at *
  have z3 := numS_size5 prev
  have N3 := Lib.hid (fun w => nyes h3 w)
  clear h3
  generalize numS prev = S3 at *
  have hp := fun w => epput_no (Ev.mk k u s a x y z t) w h4
  simp only [Ev.val] at hp
  have HP := Lib.hid hp
  clear hp h4
  have hbl : ∀ W, Below ((w.alloc (.cells #[.int .i64 seq, .int .i64 boot, .int .i64 prev, .int .i64 k, .int .i64 u, .int .i64 s, .int .i64 a, .int .i64 x, .int .i64 y, .int .i64 z, .int .i64 t] 34)).alloc (.cells #[.int .i64 seq, .int .i64 boot, .int .i64 prev] 3)).heap.size ((w.alloc (.cells #[.int .i64 seq, .int .i64 boot, .int .i64 prev, .int .i64 k, .int .i64 u, .int .i64 s, .int .i64 a, .int .i64 x, .int .i64 y, .int .i64 z, .int .i64 t] 34)).alloc (.cells #[.int .i64 seq, .int .i64 boot, .int .i64 prev] 3)) W → Blk W w.heap.size #[.int .i64 seq, .int .i64 boot, .int .i64 prev, .int .i64 k, .int .i64 u, .int .i64 s, .int .i64 a, .int .i64 x, .int .i64 y, .int .i64 z, .int .i64 t] ∧ Blk W (w.heap.size + 1) #[.int .i64 seq, .int .i64 boot, .int .i64 prev] ∧ Below w.heap.size w W := fun W h =>
    ⟨((Blk.new _ _ _).alloc _).step h, (Blk.new' _ _ (by simp) _ _).step h, (((Below.refl _ _).alloc (Nat.le_refl _) _).alloc (by simp) _).trans (h.mono (by simp; omega))⟩
  have HB := Lib.hid hbl
  clear hbl
  go_enter Tryd.func34, Tryd.ntmps34
  go_wp2
  refine wp_loop_rounds 4 ?_
  rw [rounds_succ]
  go_wp2_with (go_at_call 53; (with_reducible refine (N1.out _).mono ?_); rintro e w1 ⟨rfl, hb0⟩; obtain ⟨k1, k2, k3⟩ := HB.out _ hb0; have e1 := k1.cell; have e2 := k2.cell)
  rw [rounds_succ]
  go_wp2_with (go_at_call 53; (with_reducible refine (N2.out _).mono ?_); rintro e w2 ⟨rfl, hb⟩; replace hb0 := hb0.trans (hb.mono hb0.size); obtain ⟨k1, k2, k3⟩ := HB.out _ hb0; have e1 := k1.cell; have e2 := k2.cell; clear hb)
  rw [rounds_succ]
  go_wp2_with (go_at_call 53; (with_reducible refine (N3.out _).mono ?_); rintro e w3 ⟨rfl, hb⟩; replace hb0 := hb0.trans (hb.mono hb0.size); obtain ⟨k1, k2, k3⟩ := HB.out _ hb0; have e1 := k1.cell; have e2 := k2.cell; clear hb)
  rw [rounds_succ]
  go_wp2_with (go_at_call 54; (with_reducible refine (HP.out _).mono ?_); rintro e w4 ⟨rfl, hb⟩; replace hb0 := hb0.trans (hb.mono hb0.size); obtain ⟨k1, k2, k3⟩ := HB.out _ hb0; clear hb)
  go_ret2
  exact ⟨rfl, k3⟩
theorem pjoin_no (r : Rc) (hm : r.may = false) (w : World) : Calls Tryd.prog 34 #[r.val] w fun e w' => e = .returned (.tuple #[.string ⟨#[]⟩, .bool false]) ∧ Below w.heap.size w w' := by
  obtain ⟨seq, boot, prev, ⟨k, u, s, a, x, y, z, t⟩⟩ := r
  by_cases c1 : 1 ≤ seq
  · by_cases c2 : 1 ≤ boot
    · cases h1 : okNum seq with
      | false => exact pjoin_n3 _ _ _ _ _ _ _ _ _ _ _ c1 c2 h1 w
      | true =>
        cases h2 : okNum boot with
        | false => exact pjoin_n4 _ _ _ _ _ _ _ _ _ _ _ c1 c2 h1 h2 w
        | true =>
          cases h3 : okNum prev with
          | false => exact pjoin_n5 _ _ _ _ _ _ _ _ _ _ _ c1 c2 h1 h2 h3 w
          | true =>
            cases h4 : (Ev.mk k u s a x y z t).may with
            | false => exact pjoin_n6 _ _ _ _ _ _ _ _ _ _ _ c1 c2 h1 h2 h3 h4 w
            | true =>
              have e : (Rc.mk seq boot prev (Ev.mk k u s a x y z t)).may = true := (Rc.may_iff (Rc.mk seq boot prev (Ev.mk k u s a x y z t))).2 (And.intro c1 (And.intro h1 (And.intro c2 (And.intro h2 (And.intro h3 h4)))))
              exact absurd (e.symm.trans hm) (by decide)
    · exact pjoin_n2 _ _ _ _ _ _ _ _ _ _ _ c1 (Int.not_le.1 c2) w
  · exact pjoin_n1 _ _ _ _ _ _ _ _ _ _ _ (Int.not_le.1 c1) w
end Go.Proofs.YtiebpjkppjollaaDoor

