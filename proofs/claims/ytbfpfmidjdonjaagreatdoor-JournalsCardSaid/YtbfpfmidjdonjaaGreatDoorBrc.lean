/- Put together: Rcp3, Rcp4, Rcp7, Rcp8, Rcp9, Rcp10, Rcprog. Conditions: each theorem's own. -/
import Derived.Test.YtbfpfmidjdonjaaGreatDoorBsc
import Derived.Test.YtbfpfmidjdonjaaGreatDoorBlk
import Derived.Test.YtbfpfmidjdonjaaGreatDoorBeb
import Derived.LoopN
import Derived.Test.YtbfpfmidjdonjaaGreatDoorBrb
import Derived.Test.YtbfpfmidjdonjaaGreatDoorBpb
import Derived.Test.YtbfpfmidjdonjaaGreatDoorFtext
import Derived.Test.YtbfpfmidjdonjaaGreatDoorBfg
import Derived.Test.YtbfpfmidjdonjaaGreatDoorBpm
namespace Go.Proofs.YtbfpfmidjdonjaaGreatDoor
open Go Go.RowKit
theorem join_body (r : Rc) : (((((⟨#[]⟩ : ByteArray) ++ numS r.seq) ++ numS r.boot) ++ numS r.prev) ++ textS r.ev.put) = r.body := by
  simp only [Rc.body, Rc.fl, encL, Fld.enc]
  simp only [ba_assoc]
  rw [ba_nil, nil_ba]
set_option maxRecDepth 100000 in
set_option maxHeartbeats 8000000 in
theorem pjoin_yes (r : Rc) (hm : r.may = true) (w : World) : Calls Tryz.prog 105 #[r.val] w fun e w' => e = .returned (.tuple #[.string r.body, .bool true]) ∧ Below w.heap.size w w' := by
  obtain ⟨m1, m2, m3, m4, m5, m6⟩ := (Rc.may_iff r).1 hm
  have hn : ∀ x : Int, okNum x = true → ∀ w, Calls Tryz.prog 111 #[.int .i64 x] w fun e w' => e = .returned (.tuple #[.string (numS x), .int .i64 0]) ∧ Below w.heap.size w w' := fun x hx w => by
    have := fnumA x w
    rw [show numE x = 0 by unfold numE; rw [hx]; rfl] at this
    exact this
  have N1 := Lib.hid (hn _ m2)
  have N2 := Lib.hid (hn _ m4)
  have N3 := Lib.hid (hn _ m5)
  have hp := fun w => epput r.ev w
  rw [show r.ev.putS = r.ev.put by unfold Ev.putS; rw [m6]; rfl, show r.ev.putE = 0 by unfold Ev.putE; rw [m6]; rfl] at hp
  have hf := fun w => pframe r.ev.put w (by have := Ev.put_small r.ev; omega)
  have hj := join_body r
  have z1 := numS_size5 r.seq
  have z2 := numS_size5 r.boot
  have z3 := numS_size5 r.prev
  have z4 := textS_size (Ev.put_small r.ev)
  rw [← hj]
  clear hm hj hn m2 m4 m5 m6
  generalize textS r.ev.put = S4 at *
  generalize r.ev.put = S5 at *
  obtain ⟨seq, boot, prev, ⟨k, u, s, a, x, y, z, t⟩⟩ := r
  unfold Rc.val
  simp only [Ev.val] at hp m1 m3 z1 z2 z3 z4 N1 N2 N3 ⊢
  generalize numS seq = S1 at *
  generalize numS boot = S2 at *
  generalize numS prev = S3 at *
  have HP := Lib.hid hp
  have HF := Lib.hid hf
  clear hp hf
  have hbl : ∀ W, Below ((w.alloc (.cells #[.int .i64 seq, .int .i64 boot, .int .i64 prev, .int .i64 k, .int .i64 u, .int .i64 s, .int .i64 a, .int .i64 x, .int .i64 y, .int .i64 z, .int .i64 t] 74)).alloc (.cells #[.int .i64 seq, .int .i64 boot, .int .i64 prev] 3)).heap.size ((w.alloc (.cells #[.int .i64 seq, .int .i64 boot, .int .i64 prev, .int .i64 k, .int .i64 u, .int .i64 s, .int .i64 a, .int .i64 x, .int .i64 y, .int .i64 z, .int .i64 t] 74)).alloc (.cells #[.int .i64 seq, .int .i64 boot, .int .i64 prev] 3)) W →
      Blk W w.heap.size #[.int .i64 seq, .int .i64 boot, .int .i64 prev, .int .i64 k, .int .i64 u, .int .i64 s, .int .i64 a, .int .i64 x, .int .i64 y, .int .i64 z, .int .i64 t] ∧ Blk W (w.heap.size + 1) #[.int .i64 seq, .int .i64 boot, .int .i64 prev] ∧ Below w.heap.size w W := fun W h =>
    ⟨((Blk.new _ _ _).alloc _).step h, (Blk.new' _ _ (by simp) _ _).step h, (((Below.refl _ _).alloc (Nat.le_refl _) _).alloc (by simp) _).trans (h.mono (by simp; omega))⟩
  have HB := Lib.hid hbl
  clear hbl
  go_enter Tryz.func105, Tryz.ntmps105
  go_wp2
  refine wp_loop_rounds 4 ?_
  rw [rounds_succ]
  go_wp2_with (go_at_call 111; (with_reducible refine (N1.out _).mono ?_); rintro e w1 ⟨rfl, hb0⟩; obtain ⟨k1, k2, k3⟩ := HB.out _ hb0; have e1 := k1.cell; have e2 := k2.cell)
  rw [rounds_succ]
  go_wp2_with (go_at_call 111; (with_reducible refine (N2.out _).mono ?_); rintro e w2 ⟨rfl, hb⟩; replace hb0 := hb0.trans (hb.mono hb0.size); obtain ⟨k1, k2, k3⟩ := HB.out _ hb0; have e1 := k1.cell; have e2 := k2.cell; clear hb)
  rw [rounds_succ]
  go_wp2_with (go_at_call 111; (with_reducible refine (N3.out _).mono ?_); rintro e w3 ⟨rfl, hb⟩; replace hb0 := hb0.trans (hb.mono hb0.size); obtain ⟨k1, k2, k3⟩ := HB.out _ hb0; have e1 := k1.cell; have e2 := k2.cell; clear hb)
  rw [rounds_succ]
  go_wp2_with (first
    | (go_at_call 112; (with_reducible refine (HP.out _).mono ?_); rintro e w4 ⟨rfl, hb⟩; replace hb0 := hb0.trans (hb.mono hb0.size); obtain ⟨k1, k2, k3⟩ := HB.out _ hb0; have e1 := k1.cell; have e2 := k2.cell; clear hb)
    | (go_at_call 113; (with_reducible refine (HF.out _).mono ?_); rintro e w5 ⟨rfl, hb⟩; replace hb0 := hb0.trans (hb.mono hb0.size); obtain ⟨k1, k2, k3⟩ := HB.out _ hb0; clear hb))
  go_ret2
  exact ⟨rfl, k3⟩
open Go Go.RowKit
theorem nyes {x : Int} (hx : okNum x = true) (w : World) : Calls Tryz.prog 111 #[.int .i64 x] w fun e w' => e = .returned (.tuple #[.string (numS x), .int .i64 0]) ∧ Below w.heap.size w w' := by
  have := fnumA x w
  rw [show numE x = 0 by unfold numE; rw [hx]; rfl] at this
  exact this
theorem nno {x : Int} (hx : okNum x = false) (w : World) : Calls Tryz.prog 111 #[.int .i64 x] w fun e w' => e = .returned (.tuple #[.string (numS x), .int .i64 100]) ∧ Below w.heap.size w w' := by
  have := fnumA x w
  rw [show numE x = 100 by unfold numE; rw [hx]; rfl] at this
  exact this
set_option maxRecDepth 100000 in
set_option maxHeartbeats 8000000 in
theorem pjoin_n1 (seq boot prev k u s a x y z t : Int) (h : seq < 1) (w : World) : Calls Tryz.prog 105 #[.agg #[.int .i64 seq, .int .i64 boot, .int .i64 prev, .int .i64 k, .int .i64 u, .int .i64 s, .int .i64 a, .int .i64 x, .int .i64 y, .int .i64 z, .int .i64 t]] w fun e w' => e = .returned (.tuple #[.string ⟨#[]⟩, .bool false]) ∧ Below w.heap.size w w' := by
  go_enter Tryz.func105, Tryz.ntmps105
  go_wp2
  go_ret2
  exact ⟨rfl, (Below.refl _ _).alloc (Nat.le_refl _) _⟩
set_option maxRecDepth 100000 in
set_option maxHeartbeats 8000000 in
theorem pjoin_n2 (seq boot prev k u s a x y z t : Int) (c1 : 1 ≤ seq) (h : boot < 1) (w : World) : Calls Tryz.prog 105 #[.agg #[.int .i64 seq, .int .i64 boot, .int .i64 prev, .int .i64 k, .int .i64 u, .int .i64 s, .int .i64 a, .int .i64 x, .int .i64 y, .int .i64 z, .int .i64 t]] w fun e w' => e = .returned (.tuple #[.string ⟨#[]⟩, .bool false]) ∧ Below w.heap.size w w' := by
  go_enter Tryz.func105, Tryz.ntmps105
  go_wp2
  go_ret2
  exact ⟨rfl, (Below.refl _ _).alloc (Nat.le_refl _) _⟩
set_option maxRecDepth 100000 in
set_option maxHeartbeats 8000000 in
theorem pjoin_n3 (seq boot prev k u s a x y z t : Int) (c1 : 1 ≤ seq) (c2 : 1 ≤ boot) (h1 : okNum seq = false) (w : World) : Calls Tryz.prog 105 #[.agg #[.int .i64 seq, .int .i64 boot, .int .i64 prev, .int .i64 k, .int .i64 u, .int .i64 s, .int .i64 a, .int .i64 x, .int .i64 y, .int .i64 z, .int .i64 t]] w fun e w' => e = .returned (.tuple #[.string ⟨#[]⟩, .bool false]) ∧ Below w.heap.size w w' := by
  have z1 := numS_size5 seq
  have N1 := Lib.hid (fun w => nno h1 w)
  clear h1
  generalize numS seq = S1 at *
  have hbl : ∀ W, Below ((w.alloc (.cells #[.int .i64 seq, .int .i64 boot, .int .i64 prev, .int .i64 k, .int .i64 u, .int .i64 s, .int .i64 a, .int .i64 x, .int .i64 y, .int .i64 z, .int .i64 t] 74)).alloc (.cells #[.int .i64 seq, .int .i64 boot, .int .i64 prev] 3)).heap.size ((w.alloc (.cells #[.int .i64 seq, .int .i64 boot, .int .i64 prev, .int .i64 k, .int .i64 u, .int .i64 s, .int .i64 a, .int .i64 x, .int .i64 y, .int .i64 z, .int .i64 t] 74)).alloc (.cells #[.int .i64 seq, .int .i64 boot, .int .i64 prev] 3)) W → Blk W w.heap.size #[.int .i64 seq, .int .i64 boot, .int .i64 prev, .int .i64 k, .int .i64 u, .int .i64 s, .int .i64 a, .int .i64 x, .int .i64 y, .int .i64 z, .int .i64 t] ∧ Blk W (w.heap.size + 1) #[.int .i64 seq, .int .i64 boot, .int .i64 prev] ∧ Below w.heap.size w W := fun W h =>
    ⟨((Blk.new _ _ _).alloc _).step h, (Blk.new' _ _ (by simp) _ _).step h, (((Below.refl _ _).alloc (Nat.le_refl _) _).alloc (by simp) _).trans (h.mono (by simp; omega))⟩
  have HB := Lib.hid hbl
  clear hbl
  go_enter Tryz.func105, Tryz.ntmps105
  go_wp2
  refine wp_loop_rounds 4 ?_
  rw [rounds_succ]
  go_wp2_with (go_at_call 111; (with_reducible refine (N1.out _).mono ?_); rintro e w1 ⟨rfl, hb0⟩; obtain ⟨k1, k2, k3⟩ := HB.out _ hb0; have e1 := k1.cell; have e2 := k2.cell)
  go_ret2
  exact ⟨rfl, k3⟩
set_option maxRecDepth 100000 in
set_option maxHeartbeats 8000000 in
theorem pjoin_n4 (seq boot prev k u s a x y z t : Int) (c1 : 1 ≤ seq) (c2 : 1 ≤ boot) (h1 : okNum seq = true) (h2 : okNum boot = false) (w : World) : Calls Tryz.prog 105 #[.agg #[.int .i64 seq, .int .i64 boot, .int .i64 prev, .int .i64 k, .int .i64 u, .int .i64 s, .int .i64 a, .int .i64 x, .int .i64 y, .int .i64 z, .int .i64 t]] w fun e w' => e = .returned (.tuple #[.string ⟨#[]⟩, .bool false]) ∧ Below w.heap.size w w' := by
  have z1 := numS_size5 seq
  have N1 := Lib.hid (fun w => nyes h1 w)
  clear h1
  generalize numS seq = S1 at *
  have z2 := numS_size5 boot
  have N2 := Lib.hid (fun w => nno h2 w)
  clear h2
  generalize numS boot = S2 at *
  have hbl : ∀ W, Below ((w.alloc (.cells #[.int .i64 seq, .int .i64 boot, .int .i64 prev, .int .i64 k, .int .i64 u, .int .i64 s, .int .i64 a, .int .i64 x, .int .i64 y, .int .i64 z, .int .i64 t] 74)).alloc (.cells #[.int .i64 seq, .int .i64 boot, .int .i64 prev] 3)).heap.size ((w.alloc (.cells #[.int .i64 seq, .int .i64 boot, .int .i64 prev, .int .i64 k, .int .i64 u, .int .i64 s, .int .i64 a, .int .i64 x, .int .i64 y, .int .i64 z, .int .i64 t] 74)).alloc (.cells #[.int .i64 seq, .int .i64 boot, .int .i64 prev] 3)) W → Blk W w.heap.size #[.int .i64 seq, .int .i64 boot, .int .i64 prev, .int .i64 k, .int .i64 u, .int .i64 s, .int .i64 a, .int .i64 x, .int .i64 y, .int .i64 z, .int .i64 t] ∧ Blk W (w.heap.size + 1) #[.int .i64 seq, .int .i64 boot, .int .i64 prev] ∧ Below w.heap.size w W := fun W h =>
    ⟨((Blk.new _ _ _).alloc _).step h, (Blk.new' _ _ (by simp) _ _).step h, (((Below.refl _ _).alloc (Nat.le_refl _) _).alloc (by simp) _).trans (h.mono (by simp; omega))⟩
  have HB := Lib.hid hbl
  clear hbl
  go_enter Tryz.func105, Tryz.ntmps105
  go_wp2
  refine wp_loop_rounds 4 ?_
  rw [rounds_succ]
  go_wp2_with (go_at_call 111; (with_reducible refine (N1.out _).mono ?_); rintro e w1 ⟨rfl, hb0⟩; obtain ⟨k1, k2, k3⟩ := HB.out _ hb0; have e1 := k1.cell; have e2 := k2.cell)
  rw [rounds_succ]
  go_wp2_with (go_at_call 111; (with_reducible refine (N2.out _).mono ?_); rintro e w2 ⟨rfl, hb⟩; replace hb0 := hb0.trans (hb.mono hb0.size); obtain ⟨k1, k2, k3⟩ := HB.out _ hb0; have e1 := k1.cell; have e2 := k2.cell; clear hb)
  go_ret2
  exact ⟨rfl, k3⟩
set_option maxRecDepth 100000 in
set_option maxHeartbeats 8000000 in
theorem pjoin_n5 (seq boot prev k u s a x y z t : Int) (c1 : 1 ≤ seq) (c2 : 1 ≤ boot) (h1 : okNum seq = true) (h2 : okNum boot = true) (h3 : okNum prev = false) (w : World) : Calls Tryz.prog 105 #[.agg #[.int .i64 seq, .int .i64 boot, .int .i64 prev, .int .i64 k, .int .i64 u, .int .i64 s, .int .i64 a, .int .i64 x, .int .i64 y, .int .i64 z, .int .i64 t]] w fun e w' => e = .returned (.tuple #[.string ⟨#[]⟩, .bool false]) ∧ Below w.heap.size w w' := by
  have z1 := numS_size5 seq
  have N1 := Lib.hid (fun w => nyes h1 w)
  clear h1
  generalize numS seq = S1 at *
  have z2 := numS_size5 boot
  have N2 := Lib.hid (fun w => nyes h2 w)
  clear h2
  generalize numS boot = S2 at *
  have z3 := numS_size5 prev
  have N3 := Lib.hid (fun w => nno h3 w)
  clear h3
  generalize numS prev = S3 at *
  have hbl : ∀ W, Below ((w.alloc (.cells #[.int .i64 seq, .int .i64 boot, .int .i64 prev, .int .i64 k, .int .i64 u, .int .i64 s, .int .i64 a, .int .i64 x, .int .i64 y, .int .i64 z, .int .i64 t] 74)).alloc (.cells #[.int .i64 seq, .int .i64 boot, .int .i64 prev] 3)).heap.size ((w.alloc (.cells #[.int .i64 seq, .int .i64 boot, .int .i64 prev, .int .i64 k, .int .i64 u, .int .i64 s, .int .i64 a, .int .i64 x, .int .i64 y, .int .i64 z, .int .i64 t] 74)).alloc (.cells #[.int .i64 seq, .int .i64 boot, .int .i64 prev] 3)) W → Blk W w.heap.size #[.int .i64 seq, .int .i64 boot, .int .i64 prev, .int .i64 k, .int .i64 u, .int .i64 s, .int .i64 a, .int .i64 x, .int .i64 y, .int .i64 z, .int .i64 t] ∧ Blk W (w.heap.size + 1) #[.int .i64 seq, .int .i64 boot, .int .i64 prev] ∧ Below w.heap.size w W := fun W h =>
    ⟨((Blk.new _ _ _).alloc _).step h, (Blk.new' _ _ (by simp) _ _).step h, (((Below.refl _ _).alloc (Nat.le_refl _) _).alloc (by simp) _).trans (h.mono (by simp; omega))⟩
  have HB := Lib.hid hbl
  clear hbl
  go_enter Tryz.func105, Tryz.ntmps105
  go_wp2
  refine wp_loop_rounds 4 ?_
  rw [rounds_succ]
  go_wp2_with (go_at_call 111; (with_reducible refine (N1.out _).mono ?_); rintro e w1 ⟨rfl, hb0⟩; obtain ⟨k1, k2, k3⟩ := HB.out _ hb0; have e1 := k1.cell; have e2 := k2.cell)
  rw [rounds_succ]
  go_wp2_with (go_at_call 111; (with_reducible refine (N2.out _).mono ?_); rintro e w2 ⟨rfl, hb⟩; replace hb0 := hb0.trans (hb.mono hb0.size); obtain ⟨k1, k2, k3⟩ := HB.out _ hb0; have e1 := k1.cell; have e2 := k2.cell; clear hb)
  rw [rounds_succ]
  go_wp2_with (go_at_call 111; (with_reducible refine (N3.out _).mono ?_); rintro e w3 ⟨rfl, hb⟩; replace hb0 := hb0.trans (hb.mono hb0.size); obtain ⟨k1, k2, k3⟩ := HB.out _ hb0; have e1 := k1.cell; have e2 := k2.cell; clear hb)
  go_ret2
  exact ⟨rfl, k3⟩
set_option maxRecDepth 100000 in
set_option maxHeartbeats 8000000 in
theorem pjoin_n6 (seq boot prev k u s a x y z t : Int) (c1 : 1 ≤ seq) (c2 : 1 ≤ boot) (h1 : okNum seq = true) (h2 : okNum boot = true) (h3 : okNum prev = true) (h4 : (Ev.mk k u s a x y z t).may = false) (w : World) : Calls Tryz.prog 105 #[.agg #[.int .i64 seq, .int .i64 boot, .int .i64 prev, .int .i64 k, .int .i64 u, .int .i64 s, .int .i64 a, .int .i64 x, .int .i64 y, .int .i64 z, .int .i64 t]] w fun e w' => e = .returned (.tuple #[.string ⟨#[]⟩, .bool false]) ∧ Below w.heap.size w w' := by
  have z1 := numS_size5 seq
  have N1 := Lib.hid (fun w => nyes h1 w)
  clear h1
  generalize numS seq = S1 at *
  have z2 := numS_size5 boot
  have N2 := Lib.hid (fun w => nyes h2 w)
  clear h2
  generalize numS boot = S2 at *
  have z3 := numS_size5 prev
  have N3 := Lib.hid (fun w => nyes h3 w)
  clear h3
  generalize numS prev = S3 at *
  have hp := fun w => epput_no (Ev.mk k u s a x y z t) w h4
  simp only [Ev.val] at hp
  have HP := Lib.hid hp
  clear hp h4
  have hbl : ∀ W, Below ((w.alloc (.cells #[.int .i64 seq, .int .i64 boot, .int .i64 prev, .int .i64 k, .int .i64 u, .int .i64 s, .int .i64 a, .int .i64 x, .int .i64 y, .int .i64 z, .int .i64 t] 74)).alloc (.cells #[.int .i64 seq, .int .i64 boot, .int .i64 prev] 3)).heap.size ((w.alloc (.cells #[.int .i64 seq, .int .i64 boot, .int .i64 prev, .int .i64 k, .int .i64 u, .int .i64 s, .int .i64 a, .int .i64 x, .int .i64 y, .int .i64 z, .int .i64 t] 74)).alloc (.cells #[.int .i64 seq, .int .i64 boot, .int .i64 prev] 3)) W → Blk W w.heap.size #[.int .i64 seq, .int .i64 boot, .int .i64 prev, .int .i64 k, .int .i64 u, .int .i64 s, .int .i64 a, .int .i64 x, .int .i64 y, .int .i64 z, .int .i64 t] ∧ Blk W (w.heap.size + 1) #[.int .i64 seq, .int .i64 boot, .int .i64 prev] ∧ Below w.heap.size w W := fun W h =>
    ⟨((Blk.new _ _ _).alloc _).step h, (Blk.new' _ _ (by simp) _ _).step h, (((Below.refl _ _).alloc (Nat.le_refl _) _).alloc (by simp) _).trans (h.mono (by simp; omega))⟩
  have HB := Lib.hid hbl
  clear hbl
  go_enter Tryz.func105, Tryz.ntmps105
  go_wp2
  refine wp_loop_rounds 4 ?_
  rw [rounds_succ]
  go_wp2_with (go_at_call 111; (with_reducible refine (N1.out _).mono ?_); rintro e w1 ⟨rfl, hb0⟩; obtain ⟨k1, k2, k3⟩ := HB.out _ hb0; have e1 := k1.cell; have e2 := k2.cell)
  rw [rounds_succ]
  go_wp2_with (go_at_call 111; (with_reducible refine (N2.out _).mono ?_); rintro e w2 ⟨rfl, hb⟩; replace hb0 := hb0.trans (hb.mono hb0.size); obtain ⟨k1, k2, k3⟩ := HB.out _ hb0; have e1 := k1.cell; have e2 := k2.cell; clear hb)
  rw [rounds_succ]
  go_wp2_with (go_at_call 111; (with_reducible refine (N3.out _).mono ?_); rintro e w3 ⟨rfl, hb⟩; replace hb0 := hb0.trans (hb.mono hb0.size); obtain ⟨k1, k2, k3⟩ := HB.out _ hb0; have e1 := k1.cell; have e2 := k2.cell; clear hb)
  rw [rounds_succ]
  go_wp2_with (go_at_call 112; (with_reducible refine (HP.out _).mono ?_); rintro e w4 ⟨rfl, hb⟩; replace hb0 := hb0.trans (hb.mono hb0.size); obtain ⟨k1, k2, k3⟩ := HB.out _ hb0; clear hb)
  go_ret2
  exact ⟨rfl, k3⟩
theorem pjoin_no (r : Rc) (hm : r.may = false) (w : World) : Calls Tryz.prog 105 #[r.val] w fun e w' => e = .returned (.tuple #[.string ⟨#[]⟩, .bool false]) ∧ Below w.heap.size w w' := by
  obtain ⟨seq, boot, prev, ⟨k, u, s, a, x, y, z, t⟩⟩ := r
  by_cases c1 : 1 ≤ seq
  · by_cases c2 : 1 ≤ boot
    · cases h1 : okNum seq with
      | false => exact pjoin_n3 _ _ _ _ _ _ _ _ _ _ _ c1 c2 h1 w
      | true =>
        cases h2 : okNum boot with
        | false => exact pjoin_n4 _ _ _ _ _ _ _ _ _ _ _ c1 c2 h1 h2 w
        | true =>
          cases h3 : okNum prev with
          | false => exact pjoin_n5 _ _ _ _ _ _ _ _ _ _ _ c1 c2 h1 h2 h3 w
          | true =>
            cases h4 : (Ev.mk k u s a x y z t).may with
            | false => exact pjoin_n6 _ _ _ _ _ _ _ _ _ _ _ c1 c2 h1 h2 h3 h4 w
            | true =>
              have e : (Rc.mk seq boot prev (Ev.mk k u s a x y z t)).may = true := (Rc.may_iff (Rc.mk seq boot prev (Ev.mk k u s a x y z t))).2 (And.intro c1 (And.intro h1 (And.intro c2 (And.intro h2 (And.intro h3 h4)))))
              exact absurd (e.symm.trans hm) (by decide)
    · exact pjoin_n2 _ _ _ _ _ _ _ _ _ _ _ c1 (Int.not_le.1 c2) w
  · exact pjoin_n1 _ _ _ _ _ _ _ _ _ _ _ (Int.not_le.1 c1) w
open Go Go.RowKit
structure RS (w W : World) (c : Array Value) : Prop where
  good : Gd w
  gr : Gr w W
  b0 : Blk W w.heap.size #[.int .i64 0, .int .i64 0, .int .i64 0, .int .i64 0, .int .i64 0, .int .i64 0, .int .i64 0, .int .i64 0, .int .i64 0, .int .i64 0, .int .i64 0]
  b1 : Blk W (w.heap.size + 1) c
  b2 : Blk W (w.heap.size + 1 + 1) #[.pointer (some ⟨w.heap.size + 1, 0, none⟩), .pointer (some ⟨w.heap.size + 1, 1, none⟩), .pointer (some ⟨w.heap.size + 1, 2, none⟩)]
theorem RS.start {w : World} (hg : Gd w) : RS w (((w.alloc (.cells #[.int .i64 0, .int .i64 0, .int .i64 0, .int .i64 0, .int .i64 0, .int .i64 0, .int .i64 0, .int .i64 0, .int .i64 0, .int .i64 0, .int .i64 0] 74)).alloc (.cells #[.int .i64 0, .int .i64 0, .int .i64 0, .int .i64 0, .int .i64 0, .int .i64 0, .int .i64 0, .int .i64 0, .int .i64 0, .int .i64 0, .int .i64 0] 74)).alloc (.cells #[.pointer (some ⟨w.heap.size + 1, 0, none⟩), .pointer (some ⟨w.heap.size + 1, 1, none⟩), .pointer (some ⟨w.heap.size + 1, 2, none⟩)] 209)) #[.int .i64 0, .int .i64 0, .int .i64 0, .int .i64 0, .int .i64 0, .int .i64 0, .int .i64 0, .int .i64 0, .int .i64 0, .int .i64 0, .int .i64 0] :=
  ⟨hg, ((Gr.refl hg).alloc _).alloc _ |>.alloc _, ((Blk.new _ _ _).alloc _).alloc _, (Blk.new' _ _ (by simp) _ _).alloc _, Blk.new' _ _ (by simp) _ _⟩
theorem RS.step {w W W' : World} {c : Array Value} (h : RS w W c) (hb : Below W.heap.size W W') : RS w W' c := ⟨h.good, h.gr.step hb, h.b0.step hb, h.b1.step hb, h.b2.step hb⟩
theorem RS.set {w W : World} {c c' : Array Value} (h : RS w W c) (i : Nat) (v : Value) (hi : i < c.size) (hc : ∀ j, (c'[j]? = if j = i then some v else c[j]?)) : RS w (W.setCell ⟨w.heap.size + 1, i, none⟩ v) c' :=
  ⟨h.good, h.gr.set h.good _ _ (by simp), h.b0.far _ _ (by simp), h.b1.set i v hi hc, h.b2.far _ _ (by simp)⟩
theorem RS.put {w W : World} {c : Array Value} (h : RS w W c) (i : Nat) (v : Value) (hi : i < c.size) : RS w (W.setCell ⟨w.heap.size + 1, i, none⟩ v) (c.setIfInBounds i v) :=
  h.set i v hi (fun j => by
    by_cases e : j = i
    · subst e; rw [if_pos rfl, Array.getElem?_setIfInBounds_self_of_lt hi]
    · rw [if_neg e, Array.getElem?_setIfInBounds_ne (fun c => e c.symm)])
theorem RS.put0 {w W : World} {x1 : Int} (h : RS w W #[.int .i64 0, .int .i64 0, .int .i64 0, .int .i64 0, .int .i64 0, .int .i64 0, .int .i64 0, .int .i64 0, .int .i64 0, .int .i64 0, .int .i64 0]) : RS w (W.setCell ⟨w.heap.size + 1, 0, none⟩ (.int .i64 x1)) #[.int .i64 x1, .int .i64 0, .int .i64 0, .int .i64 0, .int .i64 0, .int .i64 0, .int .i64 0, .int .i64 0, .int .i64 0, .int .i64 0, .int .i64 0] := h.put 0 _ (by simp)
theorem RS.put1 {w W : World} {x1 x2 : Int} (h : RS w W #[.int .i64 x1, .int .i64 0, .int .i64 0, .int .i64 0, .int .i64 0, .int .i64 0, .int .i64 0, .int .i64 0, .int .i64 0, .int .i64 0, .int .i64 0]) : RS w (W.setCell ⟨w.heap.size + 1, 1, none⟩ (.int .i64 x2)) #[.int .i64 x1, .int .i64 x2, .int .i64 0, .int .i64 0, .int .i64 0, .int .i64 0, .int .i64 0, .int .i64 0, .int .i64 0, .int .i64 0, .int .i64 0] := h.put 1 _ (by simp)
theorem RS.put2 {w W : World} {x1 x2 x3 : Int} (h : RS w W #[.int .i64 x1, .int .i64 x2, .int .i64 0, .int .i64 0, .int .i64 0, .int .i64 0, .int .i64 0, .int .i64 0, .int .i64 0, .int .i64 0, .int .i64 0]) : RS w (W.setCell ⟨w.heap.size + 1, 2, none⟩ (.int .i64 x3)) #[.int .i64 x1, .int .i64 x2, .int .i64 x3, .int .i64 0, .int .i64 0, .int .i64 0, .int .i64 0, .int .i64 0, .int .i64 0, .int .i64 0, .int .i64 0] := h.put 2 _ (by simp)
theorem RS.putE {w W : World} {x1 x2 x3 : Int} (k u q a x y z t : Int) (h : RS w W #[.int .i64 x1, .int .i64 x2, .int .i64 x3, .int .i64 0, .int .i64 0, .int .i64 0, .int .i64 0, .int .i64 0, .int .i64 0, .int .i64 0, .int .i64 0]) : RS w ((((((((W.setCell ⟨w.heap.size + 1, 3, none⟩ (.int .i64 k)).setCell ⟨w.heap.size + 1, 4, none⟩ (.int .i64 u)).setCell ⟨w.heap.size + 1, 5, none⟩ (.int .i64 q)).setCell ⟨w.heap.size + 1, 6, none⟩ (.int .i64 a)).setCell ⟨w.heap.size + 1, 7, none⟩ (.int .i64 x)).setCell ⟨w.heap.size + 1, 8, none⟩ (.int .i64 y)).setCell ⟨w.heap.size + 1, 9, none⟩ (.int .i64 z)).setCell ⟨w.heap.size + 1, 10, none⟩ (.int .i64 t)) #[.int .i64 x1, .int .i64 x2, .int .i64 x3, .int .i64 k, .int .i64 u, .int .i64 q, .int .i64 a, .int .i64 x, .int .i64 y, .int .i64 z, .int .i64 t] := by
  have h1 := (((((((h.put 3 (.int .i64 k) (by simp)).put 4 (.int .i64 u) (by simp)).put 5 (.int .i64 q) (by simp)).put 6 (.int .i64 a) (by simp)).put 7 (.int .i64 x) (by simp)).put 8 (.int .i64 y) (by simp)).put 9 (.int .i64 z) (by simp)).put 10 (.int .i64 t) (by simp)
  simpa only [List.setIfInBounds_toArray, List.set_cons_zero, List.set_cons_succ] using h1
set_option maxRecDepth 100000 in
set_option maxHeartbeats 8000000 in
theorem pread1 (s : ByteArray) (er x1 t1 : Int) (w : World) (hg : Gd w)
    (P1 : ∀ w, Gd w → Calls Tryz.prog 124 #[.string s, .int .i64 0] w fun e w' => e = .returned (.tuple #[.int .i64 x1, .int .i64 t1, .int .i64 er]) ∧ Below w.heap.size w w')
    (her : ¬ er = 0) :
    Calls Tryz.prog 117 #[.string s] w fun e w' => e = .returned (.tuple #[.agg #[.int .i64 0, .int .i64 0, .int .i64 0, .int .i64 0, .int .i64 0, .int .i64 0, .int .i64 0, .int .i64 0, .int .i64 0, .int .i64 0, .int .i64 0], .int .i64 0, .bool false]) ∧ Below w.heap.size w w' := by
  have her2 : (er != 0) = true := by simpa using her
  have hR := RS.start hg
  replace P1 := Lib.hid P1
  clear hg
  go_enter Tryz.func117, Tryz.ntmps117
  go_wp2
  refine wp_loop_rounds 4 ?_
  rw [rounds_succ]
  go_wp2_with (go_at_call 124; (with_reducible refine (P1.out _ hR.gr.good).mono ?_); rintro e w1 ⟨rfl, hb⟩; replace hR := hR.step hb; have e0 := hR.b0.cell; have g0 := hR.b0.froz; have e1 := hR.b1.cell; have g1 := hR.b1.froz; have l1 := hR.b1.lt; have e2 := hR.b2.cell; clear hb)
  refine bodyPost_ret (v := .tuple #[.agg #[.int .i64 0, .int .i64 0, .int .i64 0, .int .i64 0, .int .i64 0, .int .i64 0, .int .i64 0, .int .i64 0, .int .i64 0, .int .i64 0, .int .i64 0], .int .i64 0, .bool false]) (by simp [results, Tryz.results117, go_sem, e0]) rfl ⟨rfl, ?_⟩
  repeat (with_reducible refine Below.setCell ?_ (by simp) _)
  with_reducible exact hR.gr.below
set_option maxRecDepth 100000 in
set_option maxHeartbeats 8000000 in
theorem pread2 (s : ByteArray) (er x1 t1 x2 t2 : Int) (w : World) (hg : Gd w)
    (P1 : ∀ w, Gd w → Calls Tryz.prog 124 #[.string s, .int .i64 0] w fun e w' => e = .returned (.tuple #[.int .i64 x1, .int .i64 t1, .int .i64 0]) ∧ Below w.heap.size w w')
    (P2 : ∀ w, Gd w → Calls Tryz.prog 124 #[.string s, .int .i64 t1] w fun e w' => e = .returned (.tuple #[.int .i64 x2, .int .i64 t2, .int .i64 er]) ∧ Below w.heap.size w w')
    (her : ¬ er = 0) :
    Calls Tryz.prog 117 #[.string s] w fun e w' => e = .returned (.tuple #[.agg #[.int .i64 0, .int .i64 0, .int .i64 0, .int .i64 0, .int .i64 0, .int .i64 0, .int .i64 0, .int .i64 0, .int .i64 0, .int .i64 0, .int .i64 0], .int .i64 0, .bool false]) ∧ Below w.heap.size w w' := by
  have her2 : (er != 0) = true := by simpa using her
  have hR := RS.start hg
  replace P1 := Lib.hid P1
  replace P2 := Lib.hid P2
  clear hg
  go_enter Tryz.func117, Tryz.ntmps117
  go_wp2
  refine wp_loop_rounds 4 ?_
  rw [rounds_succ]
  go_wp2_with (go_at_call 124; (with_reducible refine (P1.out _ hR.gr.good).mono ?_); rintro e w1 ⟨rfl, hb⟩; replace hR := hR.step hb; have e0 := hR.b0.cell; have g0 := hR.b0.froz; have e1 := hR.b1.cell; have g1 := hR.b1.froz; have l1 := hR.b1.lt; have e2 := hR.b2.cell; clear hb)
  replace hR := hR.put0 (x1 := x1)
  have e0 := hR.b0.cell; have g0 := hR.b0.froz; have e1 := hR.b1.cell; have g1 := hR.b1.froz; have l1 := hR.b1.lt; have e2 := hR.b2.cell
  rw [rounds_succ]
  go_wp2_with (go_at_call 124; (with_reducible refine (P2.out _ hR.gr.good).mono ?_); rintro e w2 ⟨rfl, hb⟩; replace hR := hR.step hb; have e0 := hR.b0.cell; have g0 := hR.b0.froz; have e1 := hR.b1.cell; have g1 := hR.b1.froz; have l1 := hR.b1.lt; have e2 := hR.b2.cell; clear hb)
  refine bodyPost_ret (v := .tuple #[.agg #[.int .i64 0, .int .i64 0, .int .i64 0, .int .i64 0, .int .i64 0, .int .i64 0, .int .i64 0, .int .i64 0, .int .i64 0, .int .i64 0, .int .i64 0], .int .i64 0, .bool false]) (by simp [results, Tryz.results117, go_sem, e0]) rfl ⟨rfl, ?_⟩
  repeat (with_reducible refine Below.setCell ?_ (by simp) _)
  with_reducible exact hR.gr.below
set_option maxRecDepth 100000 in
set_option maxHeartbeats 8000000 in
theorem pread3 (s : ByteArray) (er x1 t1 x2 t2 x3 t3 : Int) (w : World) (hg : Gd w)
    (P1 : ∀ w, Gd w → Calls Tryz.prog 124 #[.string s, .int .i64 0] w fun e w' => e = .returned (.tuple #[.int .i64 x1, .int .i64 t1, .int .i64 0]) ∧ Below w.heap.size w w')
    (P2 : ∀ w, Gd w → Calls Tryz.prog 124 #[.string s, .int .i64 t1] w fun e w' => e = .returned (.tuple #[.int .i64 x2, .int .i64 t2, .int .i64 0]) ∧ Below w.heap.size w w')
    (P3 : ∀ w, Gd w → Calls Tryz.prog 124 #[.string s, .int .i64 t2] w fun e w' => e = .returned (.tuple #[.int .i64 x3, .int .i64 t3, .int .i64 er]) ∧ Below w.heap.size w w')
    (her : ¬ er = 0) :
    Calls Tryz.prog 117 #[.string s] w fun e w' => e = .returned (.tuple #[.agg #[.int .i64 0, .int .i64 0, .int .i64 0, .int .i64 0, .int .i64 0, .int .i64 0, .int .i64 0, .int .i64 0, .int .i64 0, .int .i64 0, .int .i64 0], .int .i64 0, .bool false]) ∧ Below w.heap.size w w' := by
  have her2 : (er != 0) = true := by simpa using her
  have hR := RS.start hg
  replace P1 := Lib.hid P1
  replace P2 := Lib.hid P2
  replace P3 := Lib.hid P3
  clear hg
  go_enter Tryz.func117, Tryz.ntmps117
  go_wp2
  refine wp_loop_rounds 4 ?_
  rw [rounds_succ]
  go_wp2_with (go_at_call 124; (with_reducible refine (P1.out _ hR.gr.good).mono ?_); rintro e w1 ⟨rfl, hb⟩; replace hR := hR.step hb; have e0 := hR.b0.cell; have g0 := hR.b0.froz; have e1 := hR.b1.cell; have g1 := hR.b1.froz; have l1 := hR.b1.lt; have e2 := hR.b2.cell; clear hb)
  replace hR := hR.put0 (x1 := x1)
  have e0 := hR.b0.cell; have g0 := hR.b0.froz; have e1 := hR.b1.cell; have g1 := hR.b1.froz; have l1 := hR.b1.lt; have e2 := hR.b2.cell
  rw [rounds_succ]
  go_wp2_with (go_at_call 124; (with_reducible refine (P2.out _ hR.gr.good).mono ?_); rintro e w2 ⟨rfl, hb⟩; replace hR := hR.step hb; have e0 := hR.b0.cell; have g0 := hR.b0.froz; have e1 := hR.b1.cell; have g1 := hR.b1.froz; have l1 := hR.b1.lt; have e2 := hR.b2.cell; clear hb)
  replace hR := hR.put1 (x2 := x2)
  have e0 := hR.b0.cell; have g0 := hR.b0.froz; have e1 := hR.b1.cell; have g1 := hR.b1.froz; have l1 := hR.b1.lt; have e2 := hR.b2.cell
  rw [rounds_succ]
  go_wp2_with (go_at_call 124; (with_reducible refine (P3.out _ hR.gr.good).mono ?_); rintro e w3 ⟨rfl, hb⟩; replace hR := hR.step hb; have e0 := hR.b0.cell; have g0 := hR.b0.froz; have e1 := hR.b1.cell; have g1 := hR.b1.froz; have l1 := hR.b1.lt; have e2 := hR.b2.cell; clear hb)
  refine bodyPost_ret (v := .tuple #[.agg #[.int .i64 0, .int .i64 0, .int .i64 0, .int .i64 0, .int .i64 0, .int .i64 0, .int .i64 0, .int .i64 0, .int .i64 0, .int .i64 0, .int .i64 0], .int .i64 0, .bool false]) (by simp [results, Tryz.results117, go_sem, e0]) rfl ⟨rfl, ?_⟩
  repeat (with_reducible refine Below.setCell ?_ (by simp) _)
  with_reducible exact hR.gr.below
set_option maxRecDepth 100000 in
set_option maxHeartbeats 8000000 in
theorem pread4 (s : ByteArray) (er x1 t1 x2 t2 x3 t3 t4 : Int) (tx : ByteArray) (w : World) (hg : Gd w)
    (P1 : ∀ w, Gd w → Calls Tryz.prog 124 #[.string s, .int .i64 0] w fun e w' => e = .returned (.tuple #[.int .i64 x1, .int .i64 t1, .int .i64 0]) ∧ Below w.heap.size w w')
    (P2 : ∀ w, Gd w → Calls Tryz.prog 124 #[.string s, .int .i64 t1] w fun e w' => e = .returned (.tuple #[.int .i64 x2, .int .i64 t2, .int .i64 0]) ∧ Below w.heap.size w w')
    (P3 : ∀ w, Gd w → Calls Tryz.prog 124 #[.string s, .int .i64 t2] w fun e w' => e = .returned (.tuple #[.int .i64 x3, .int .i64 t3, .int .i64 0]) ∧ Below w.heap.size w w')
    (PT : ∀ w, Gd w → Calls Tryz.prog 125 #[.string s, .int .i64 t3] w fun e w' => e = .returned (.tuple #[.string tx, .int .i64 t4, .int .i64 er]) ∧ Below w.heap.size w w')
    (her : ¬ er = 0) :
    Calls Tryz.prog 117 #[.string s] w fun e w' => e = .returned (.tuple #[.agg #[.int .i64 0, .int .i64 0, .int .i64 0, .int .i64 0, .int .i64 0, .int .i64 0, .int .i64 0, .int .i64 0, .int .i64 0, .int .i64 0, .int .i64 0], .int .i64 0, .bool false]) ∧ Below w.heap.size w w' := by
  have her2 : (er != 0) = true := by simpa using her
  have hR := RS.start hg
  replace P1 := Lib.hid P1
  replace P2 := Lib.hid P2
  replace P3 := Lib.hid P3
  replace PT := Lib.hid PT
  clear hg
  go_enter Tryz.func117, Tryz.ntmps117
  go_wp2
  refine wp_loop_rounds 4 ?_
  rw [rounds_succ]
  go_wp2_with (go_at_call 124; (with_reducible refine (P1.out _ hR.gr.good).mono ?_); rintro e w1 ⟨rfl, hb⟩; replace hR := hR.step hb; have e0 := hR.b0.cell; have g0 := hR.b0.froz; have e1 := hR.b1.cell; have g1 := hR.b1.froz; have l1 := hR.b1.lt; have e2 := hR.b2.cell; clear hb)
  replace hR := hR.put0 (x1 := x1)
  have e0 := hR.b0.cell; have g0 := hR.b0.froz; have e1 := hR.b1.cell; have g1 := hR.b1.froz; have l1 := hR.b1.lt; have e2 := hR.b2.cell
  rw [rounds_succ]
  go_wp2_with (go_at_call 124; (with_reducible refine (P2.out _ hR.gr.good).mono ?_); rintro e w2 ⟨rfl, hb⟩; replace hR := hR.step hb; have e0 := hR.b0.cell; have g0 := hR.b0.froz; have e1 := hR.b1.cell; have g1 := hR.b1.froz; have l1 := hR.b1.lt; have e2 := hR.b2.cell; clear hb)
  replace hR := hR.put1 (x2 := x2)
  have e0 := hR.b0.cell; have g0 := hR.b0.froz; have e1 := hR.b1.cell; have g1 := hR.b1.froz; have l1 := hR.b1.lt; have e2 := hR.b2.cell
  rw [rounds_succ]
  go_wp2_with (go_at_call 124; (with_reducible refine (P3.out _ hR.gr.good).mono ?_); rintro e w3 ⟨rfl, hb⟩; replace hR := hR.step hb; have e0 := hR.b0.cell; have g0 := hR.b0.froz; have e1 := hR.b1.cell; have g1 := hR.b1.froz; have l1 := hR.b1.lt; have e2 := hR.b2.cell; clear hb)
  replace hR := hR.put2 (x3 := x3)
  have e0 := hR.b0.cell; have g0 := hR.b0.froz; have e1 := hR.b1.cell; have g1 := hR.b1.froz; have l1 := hR.b1.lt; have e2 := hR.b2.cell
  rw [rounds_succ]
  go_wp2_with (first
    | (go_at_call 125; (with_reducible refine (PT.out _ hR.gr.good).mono ?_); rintro e w4 ⟨rfl, hb⟩; replace hR := hR.step hb; have e0 := hR.b0.cell; have g0 := hR.b0.froz; have e1 := hR.b1.cell; have g1 := hR.b1.froz; have l1 := hR.b1.lt; have e2 := hR.b2.cell; clear hb))
  refine bodyPost_ret (v := .tuple #[.agg #[.int .i64 0, .int .i64 0, .int .i64 0, .int .i64 0, .int .i64 0, .int .i64 0, .int .i64 0, .int .i64 0, .int .i64 0, .int .i64 0, .int .i64 0], .int .i64 0, .bool false]) (by simp [results, Tryz.results117, go_sem, e0]) rfl ⟨rfl, ?_⟩
  repeat (with_reducible refine Below.setCell ?_ (by simp) _)
  with_reducible exact hR.gr.below
set_option maxRecDepth 100000 in
set_option maxHeartbeats 8000000 in
theorem pread5 (s : ByteArray) (x1 t1 x2 t2 x3 t3 t4 k u q a x y z t : Int) (tx : ByteArray) (w : World) (hg : Gd w)
    (P1 : ∀ w, Gd w → Calls Tryz.prog 124 #[.string s, .int .i64 0] w fun e w' => e = .returned (.tuple #[.int .i64 x1, .int .i64 t1, .int .i64 0]) ∧ Below w.heap.size w w')
    (P2 : ∀ w, Gd w → Calls Tryz.prog 124 #[.string s, .int .i64 t1] w fun e w' => e = .returned (.tuple #[.int .i64 x2, .int .i64 t2, .int .i64 0]) ∧ Below w.heap.size w w')
    (P3 : ∀ w, Gd w → Calls Tryz.prog 124 #[.string s, .int .i64 t2] w fun e w' => e = .returned (.tuple #[.int .i64 x3, .int .i64 t3, .int .i64 0]) ∧ Below w.heap.size w w')
    (PT : ∀ w, Gd w → Calls Tryz.prog 125 #[.string s, .int .i64 t3] w fun e w' => e = .returned (.tuple #[.string tx, .int .i64 t4, .int .i64 0]) ∧ Below w.heap.size w w')
    (PE : ∀ w, Gd w → Calls Tryz.prog 126 #[.string tx] w fun e w' => e = .returned (.tuple #[.agg #[.int .i64 k, .int .i64 u, .int .i64 q, .int .i64 a, .int .i64 x, .int .i64 y, .int .i64 z, .int .i64 t], .int .i64 700]) ∧ Below w.heap.size w w') :
    Calls Tryz.prog 117 #[.string s] w fun e w' => e = .returned (.tuple #[.agg #[.int .i64 0, .int .i64 0, .int .i64 0, .int .i64 0, .int .i64 0, .int .i64 0, .int .i64 0, .int .i64 0, .int .i64 0, .int .i64 0, .int .i64 0], .int .i64 0, .bool false]) ∧ Below w.heap.size w w' := by
  have hR := RS.start hg
  replace P1 := Lib.hid P1
  replace P2 := Lib.hid P2
  replace P3 := Lib.hid P3
  replace PT := Lib.hid PT
  replace PE := Lib.hid PE
  clear hg
  go_enter Tryz.func117, Tryz.ntmps117
  go_wp2
  refine wp_loop_rounds 4 ?_
  rw [rounds_succ]
  go_wp2_with (go_at_call 124; (with_reducible refine (P1.out _ hR.gr.good).mono ?_); rintro e w1 ⟨rfl, hb⟩; replace hR := hR.step hb; have e0 := hR.b0.cell; have g0 := hR.b0.froz; have e1 := hR.b1.cell; have g1 := hR.b1.froz; have l1 := hR.b1.lt; have e2 := hR.b2.cell; clear hb)
  replace hR := hR.put0 (x1 := x1)
  have e0 := hR.b0.cell; have g0 := hR.b0.froz; have e1 := hR.b1.cell; have g1 := hR.b1.froz; have l1 := hR.b1.lt; have e2 := hR.b2.cell
  rw [rounds_succ]
  go_wp2_with (go_at_call 124; (with_reducible refine (P2.out _ hR.gr.good).mono ?_); rintro e w2 ⟨rfl, hb⟩; replace hR := hR.step hb; have e0 := hR.b0.cell; have g0 := hR.b0.froz; have e1 := hR.b1.cell; have g1 := hR.b1.froz; have l1 := hR.b1.lt; have e2 := hR.b2.cell; clear hb)
  replace hR := hR.put1 (x2 := x2)
  have e0 := hR.b0.cell; have g0 := hR.b0.froz; have e1 := hR.b1.cell; have g1 := hR.b1.froz; have l1 := hR.b1.lt; have e2 := hR.b2.cell
  rw [rounds_succ]
  go_wp2_with (go_at_call 124; (with_reducible refine (P3.out _ hR.gr.good).mono ?_); rintro e w3 ⟨rfl, hb⟩; replace hR := hR.step hb; have e0 := hR.b0.cell; have g0 := hR.b0.froz; have e1 := hR.b1.cell; have g1 := hR.b1.froz; have l1 := hR.b1.lt; have e2 := hR.b2.cell; clear hb)
  replace hR := hR.put2 (x3 := x3)
  have e0 := hR.b0.cell; have g0 := hR.b0.froz; have e1 := hR.b1.cell; have g1 := hR.b1.froz; have l1 := hR.b1.lt; have e2 := hR.b2.cell
  rw [rounds_succ]
  go_wp2_with (first
    | (go_at_call 125; (with_reducible refine (PT.out _ hR.gr.good).mono ?_); rintro e w4 ⟨rfl, hb⟩; replace hR := hR.step hb; have e0 := hR.b0.cell; have g0 := hR.b0.froz; have e1 := hR.b1.cell; have g1 := hR.b1.froz; have l1 := hR.b1.lt; have e2 := hR.b2.cell; clear hb)
    | (go_at_call 126; (with_reducible refine (PE.out _ hR.gr.good).mono ?_); rintro e w5 ⟨rfl, hb⟩; replace hR := hR.step hb; have e0 := hR.b0.cell; have g0 := hR.b0.froz; have e1 := hR.b1.cell; have g1 := hR.b1.froz; have l1 := hR.b1.lt; have e2 := hR.b2.cell; clear hb))
  refine bodyPost_ret (v := .tuple #[.agg #[.int .i64 0, .int .i64 0, .int .i64 0, .int .i64 0, .int .i64 0, .int .i64 0, .int .i64 0, .int .i64 0, .int .i64 0, .int .i64 0, .int .i64 0], .int .i64 0, .bool false]) (by simp [results, Tryz.results117, go_sem, e0]) rfl ⟨rfl, ?_⟩
  repeat (with_reducible refine Below.setCell ?_ (by simp) _)
  with_reducible exact hR.gr.below
set_option maxRecDepth 100000 in
set_option maxHeartbeats 8000000 in
theorem pread6 (s : ByteArray) (er x1 t1 x2 t2 x3 t3 t4 k u q a x y z t x6 t6 : Int) (tx : ByteArray) (w : World) (hg : Gd w)
    (P1 : ∀ w, Gd w → Calls Tryz.prog 124 #[.string s, .int .i64 0] w fun e w' => e = .returned (.tuple #[.int .i64 x1, .int .i64 t1, .int .i64 0]) ∧ Below w.heap.size w w')
    (P2 : ∀ w, Gd w → Calls Tryz.prog 124 #[.string s, .int .i64 t1] w fun e w' => e = .returned (.tuple #[.int .i64 x2, .int .i64 t2, .int .i64 0]) ∧ Below w.heap.size w w')
    (P3 : ∀ w, Gd w → Calls Tryz.prog 124 #[.string s, .int .i64 t2] w fun e w' => e = .returned (.tuple #[.int .i64 x3, .int .i64 t3, .int .i64 0]) ∧ Below w.heap.size w w')
    (PT : ∀ w, Gd w → Calls Tryz.prog 125 #[.string s, .int .i64 t3] w fun e w' => e = .returned (.tuple #[.string tx, .int .i64 t4, .int .i64 0]) ∧ Below w.heap.size w w')
    (PE : ∀ w, Gd w → Calls Tryz.prog 126 #[.string tx] w fun e w' => e = .returned (.tuple #[.agg #[.int .i64 k, .int .i64 u, .int .i64 q, .int .i64 a, .int .i64 x, .int .i64 y, .int .i64 z, .int .i64 t], .int .i64 0]) ∧ Below w.heap.size w w')
    (P6 : ∀ w, Gd w → Calls Tryz.prog 124 #[.string s, .int .i64 t4] w fun e w' => e = .returned (.tuple #[.int .i64 x6, .int .i64 t6, .int .i64 er]) ∧ Below w.heap.size w w')
    (her : ¬ er = 0) :
    Calls Tryz.prog 117 #[.string s] w fun e w' => e = .returned (.tuple #[.agg #[.int .i64 0, .int .i64 0, .int .i64 0, .int .i64 0, .int .i64 0, .int .i64 0, .int .i64 0, .int .i64 0, .int .i64 0, .int .i64 0, .int .i64 0], .int .i64 0, .bool false]) ∧ Below w.heap.size w w' := by
  have her2 : (er != 0) = true := by simpa using her
  have hR := RS.start hg
  replace P1 := Lib.hid P1
  replace P2 := Lib.hid P2
  replace P3 := Lib.hid P3
  replace PT := Lib.hid PT
  replace PE := Lib.hid PE
  replace P6 := Lib.hid P6
  clear hg
  go_enter Tryz.func117, Tryz.ntmps117
  go_wp2
  refine wp_loop_rounds 4 ?_
  rw [rounds_succ]
  go_wp2_with (go_at_call 124; (with_reducible refine (P1.out _ hR.gr.good).mono ?_); rintro e w1 ⟨rfl, hb⟩; replace hR := hR.step hb; have e0 := hR.b0.cell; have g0 := hR.b0.froz; have e1 := hR.b1.cell; have g1 := hR.b1.froz; have l1 := hR.b1.lt; have e2 := hR.b2.cell; clear hb)
  replace hR := hR.put0 (x1 := x1)
  have e0 := hR.b0.cell; have g0 := hR.b0.froz; have e1 := hR.b1.cell; have g1 := hR.b1.froz; have l1 := hR.b1.lt; have e2 := hR.b2.cell
  rw [rounds_succ]
  go_wp2_with (go_at_call 124; (with_reducible refine (P2.out _ hR.gr.good).mono ?_); rintro e w2 ⟨rfl, hb⟩; replace hR := hR.step hb; have e0 := hR.b0.cell; have g0 := hR.b0.froz; have e1 := hR.b1.cell; have g1 := hR.b1.froz; have l1 := hR.b1.lt; have e2 := hR.b2.cell; clear hb)
  replace hR := hR.put1 (x2 := x2)
  have e0 := hR.b0.cell; have g0 := hR.b0.froz; have e1 := hR.b1.cell; have g1 := hR.b1.froz; have l1 := hR.b1.lt; have e2 := hR.b2.cell
  rw [rounds_succ]
  go_wp2_with (go_at_call 124; (with_reducible refine (P3.out _ hR.gr.good).mono ?_); rintro e w3 ⟨rfl, hb⟩; replace hR := hR.step hb; have e0 := hR.b0.cell; have g0 := hR.b0.froz; have e1 := hR.b1.cell; have g1 := hR.b1.froz; have l1 := hR.b1.lt; have e2 := hR.b2.cell; clear hb)
  replace hR := hR.put2 (x3 := x3)
  have e0 := hR.b0.cell; have g0 := hR.b0.froz; have e1 := hR.b1.cell; have g1 := hR.b1.froz; have l1 := hR.b1.lt; have e2 := hR.b2.cell
  rw [rounds_succ]
  go_wp2_with (first
    | (go_at_call 125; (with_reducible refine (PT.out _ hR.gr.good).mono ?_); rintro e w4 ⟨rfl, hb⟩; replace hR := hR.step hb; have e0 := hR.b0.cell; have g0 := hR.b0.froz; have e1 := hR.b1.cell; have g1 := hR.b1.froz; have l1 := hR.b1.lt; have e2 := hR.b2.cell; clear hb)
    | (go_at_call 126; (with_reducible refine (PE.out _ hR.gr.good).mono ?_); rintro e w5 ⟨rfl, hb⟩; replace hR := hR.step hb; have e0 := hR.b0.cell; have g0 := hR.b0.froz; have e1 := hR.b1.cell; have g1 := hR.b1.froz; have l1 := hR.b1.lt; have e2 := hR.b2.cell; clear hb)
    | (go_at_call 124; (with_reducible refine (P6.out _ (hR.putE k u q a x y z t).gr.good).mono ?_); rintro e w6 ⟨rfl, hb⟩; replace hR := (hR.putE k u q a x y z t).step hb; have e0 := hR.b0.cell; have g0 := hR.b0.froz; have e1 := hR.b1.cell; have g1 := hR.b1.froz; have l1 := hR.b1.lt; have e2 := hR.b2.cell; clear hb))
  refine bodyPost_ret (v := .tuple #[.agg #[.int .i64 0, .int .i64 0, .int .i64 0, .int .i64 0, .int .i64 0, .int .i64 0, .int .i64 0, .int .i64 0, .int .i64 0, .int .i64 0, .int .i64 0], .int .i64 0, .bool false]) (by simp [results, Tryz.results117, go_sem, e0]) rfl ⟨rfl, ?_⟩
  repeat (with_reducible refine Below.setCell ?_ (by simp) _)
  with_reducible exact hR.gr.below
set_option maxRecDepth 100000 in
set_option maxHeartbeats 8000000 in
theorem pread7 (s : ByteArray) (x1 t1 x2 t2 x3 t3 t4 k u q a x y z t x6 t6 : Int) (tx : ByteArray) (w : World) (hg : Gd w)
    (P1 : ∀ w, Gd w → Calls Tryz.prog 124 #[.string s, .int .i64 0] w fun e w' => e = .returned (.tuple #[.int .i64 x1, .int .i64 t1, .int .i64 0]) ∧ Below w.heap.size w w')
    (P2 : ∀ w, Gd w → Calls Tryz.prog 124 #[.string s, .int .i64 t1] w fun e w' => e = .returned (.tuple #[.int .i64 x2, .int .i64 t2, .int .i64 0]) ∧ Below w.heap.size w w')
    (P3 : ∀ w, Gd w → Calls Tryz.prog 124 #[.string s, .int .i64 t2] w fun e w' => e = .returned (.tuple #[.int .i64 x3, .int .i64 t3, .int .i64 0]) ∧ Below w.heap.size w w')
    (PT : ∀ w, Gd w → Calls Tryz.prog 125 #[.string s, .int .i64 t3] w fun e w' => e = .returned (.tuple #[.string tx, .int .i64 t4, .int .i64 0]) ∧ Below w.heap.size w w')
    (PE : ∀ w, Gd w → Calls Tryz.prog 126 #[.string tx] w fun e w' => e = .returned (.tuple #[.agg #[.int .i64 k, .int .i64 u, .int .i64 q, .int .i64 a, .int .i64 x, .int .i64 y, .int .i64 z, .int .i64 t], .int .i64 0]) ∧ Below w.heap.size w w')
    (P6 : ∀ w, Gd w → Calls Tryz.prog 124 #[.string s, .int .i64 t4] w fun e w' => e = .returned (.tuple #[.int .i64 x6, .int .i64 t6, .int .i64 0]) ∧ Below w.heap.size w w') :
    Calls Tryz.prog 117 #[.string s] w fun e w' => e = .returned (.tuple #[.agg #[.int .i64 x1, .int .i64 x2, .int .i64 x3, .int .i64 k, .int .i64 u, .int .i64 q, .int .i64 a, .int .i64 x, .int .i64 y, .int .i64 z, .int .i64 t], .int .i64 x6, .bool true]) ∧ Below w.heap.size w w' := by
  have hR := RS.start hg
  replace P1 := Lib.hid P1
  replace P2 := Lib.hid P2
  replace P3 := Lib.hid P3
  replace PT := Lib.hid PT
  replace PE := Lib.hid PE
  replace P6 := Lib.hid P6
  clear hg
  go_enter Tryz.func117, Tryz.ntmps117
  go_wp2
  refine wp_loop_rounds 4 ?_
  rw [rounds_succ]
  go_wp2_with (go_at_call 124; (with_reducible refine (P1.out _ hR.gr.good).mono ?_); rintro e w1 ⟨rfl, hb⟩; replace hR := hR.step hb; have e0 := hR.b0.cell; have g0 := hR.b0.froz; have e1 := hR.b1.cell; have g1 := hR.b1.froz; have l1 := hR.b1.lt; have e2 := hR.b2.cell; clear hb)
  replace hR := hR.put0 (x1 := x1)
  have e0 := hR.b0.cell; have g0 := hR.b0.froz; have e1 := hR.b1.cell; have g1 := hR.b1.froz; have l1 := hR.b1.lt; have e2 := hR.b2.cell
  rw [rounds_succ]
  go_wp2_with (go_at_call 124; (with_reducible refine (P2.out _ hR.gr.good).mono ?_); rintro e w2 ⟨rfl, hb⟩; replace hR := hR.step hb; have e0 := hR.b0.cell; have g0 := hR.b0.froz; have e1 := hR.b1.cell; have g1 := hR.b1.froz; have l1 := hR.b1.lt; have e2 := hR.b2.cell; clear hb)
  replace hR := hR.put1 (x2 := x2)
  have e0 := hR.b0.cell; have g0 := hR.b0.froz; have e1 := hR.b1.cell; have g1 := hR.b1.froz; have l1 := hR.b1.lt; have e2 := hR.b2.cell
  rw [rounds_succ]
  go_wp2_with (go_at_call 124; (with_reducible refine (P3.out _ hR.gr.good).mono ?_); rintro e w3 ⟨rfl, hb⟩; replace hR := hR.step hb; have e0 := hR.b0.cell; have g0 := hR.b0.froz; have e1 := hR.b1.cell; have g1 := hR.b1.froz; have l1 := hR.b1.lt; have e2 := hR.b2.cell; clear hb)
  replace hR := hR.put2 (x3 := x3)
  have e0 := hR.b0.cell; have g0 := hR.b0.froz; have e1 := hR.b1.cell; have g1 := hR.b1.froz; have l1 := hR.b1.lt; have e2 := hR.b2.cell
  rw [rounds_succ]
  go_wp2_with (first
    | (go_at_call 125; (with_reducible refine (PT.out _ hR.gr.good).mono ?_); rintro e w4 ⟨rfl, hb⟩; replace hR := hR.step hb; have e0 := hR.b0.cell; have g0 := hR.b0.froz; have e1 := hR.b1.cell; have g1 := hR.b1.froz; have l1 := hR.b1.lt; have e2 := hR.b2.cell; clear hb)
    | (go_at_call 126; (with_reducible refine (PE.out _ hR.gr.good).mono ?_); rintro e w5 ⟨rfl, hb⟩; replace hR := hR.step hb; have e0 := hR.b0.cell; have g0 := hR.b0.froz; have e1 := hR.b1.cell; have g1 := hR.b1.froz; have l1 := hR.b1.lt; have e2 := hR.b2.cell; clear hb)
    | (go_at_call 124; (with_reducible refine (P6.out _ (hR.putE k u q a x y z t).gr.good).mono ?_); rintro e w6 ⟨rfl, hb⟩; replace hR := (hR.putE k u q a x y z t).step hb; have e0 := hR.b0.cell; have g0 := hR.b0.froz; have e1 := hR.b1.cell; have g1 := hR.b1.froz; have l1 := hR.b1.lt; have e2 := hR.b2.cell; clear hb))
  refine bodyPost_ret (v := .tuple #[.agg #[.int .i64 x1, .int .i64 x2, .int .i64 x3, .int .i64 k, .int .i64 u, .int .i64 q, .int .i64 a, .int .i64 x, .int .i64 y, .int .i64 z, .int .i64 t], .int .i64 x6, .bool true]) (by simp [results, Tryz.results117, go_sem, e0]) rfl ⟨rfl, ?_⟩
  repeat (with_reducible refine Below.setCell ?_ (by simp) _)
  with_reducible exact hR.gr.below
open Go Go.RowKit
def rdP (s : ByteArray) : Option (Rc × Int) :=
  if getE s 0 = 0 then
    if getE s (getTo s 0) = 0 then
      if getE s (getTo s (getTo s 0)) = 0 then
        if txtE s (getTo s (getTo s (getTo s 0))) = 0 then
          match Ev.get (txtS s (getTo s (getTo s (getTo s 0)))) with
          | some v => if getE s (txtTo s (getTo s (getTo s (getTo s 0)))) = 0 then some (⟨getX s 0, getX s (getTo s 0), getX s (getTo s (getTo s 0)), v⟩, getX s (txtTo s (getTo s (getTo s (getTo s 0))))) else none
          | none => none
        else none
      else none
    else none
  else none
theorem rdP_of {s : ByteArray} {r : Rc} {own : Int} (h : rcRd s = some (r, own)) : rdP s = some (r, own) := by
  unfold rcRd at h
  unfold rdP
  by_cases e1 : getE s 0 = 0
  · by_cases e2 : getE s (getTo s 0) = 0
    · by_cases e3 : getE s (getTo s (getTo s 0)) = 0
      · by_cases e4 : txtE s (getTo s (getTo s (getTo s 0))) = 0
        · by_cases e5 : getE s (txtTo s (getTo s (getTo s (getTo s 0)))) = 0
          · simp only [rdL, if_pos e1, if_pos e2, if_pos e3, if_pos e4, if_pos e5, Option.map_some, Option.bind_some, rcMk] at h
            rw [if_pos e1, if_pos e2, if_pos e3, if_pos e4]
            cases hv : Ev.get (txtS s (getTo s (getTo s (getTo s 0)))) with
            | none => rw [hv] at h; cases h
            | some v =>
              rw [hv] at h
              simp only at h ⊢
              rw [if_pos e5]
              split at h
              · exact h
              · cases h
          · simp only [rdL, if_pos e1, if_pos e2, if_pos e3, if_pos e4, if_neg e5, Option.map_none, Option.bind_none] at h; cases h
        · simp only [rdL, if_pos e1, if_pos e2, if_pos e3, if_neg e4, Option.map_none, Option.bind_none] at h; cases h
      · simp only [rdL, if_pos e1, if_pos e2, if_neg e3, Option.map_none, Option.bind_none] at h; cases h
    · simp only [rdL, if_pos e1, if_neg e2, Option.map_none, Option.bind_none] at h; cases h
  · simp only [rdL, if_neg e1, Option.bind_none] at h; cases h
theorem rdP_num {s : ByteArray} {r : Rc} {own : Int} (h : rdP s = some (r, own)) : okNum own = true := by
  unfold rdP at h
  split at h
  · split at h
    · split at h
      · split at h
        · split at h
          · split at h
            · rename_i e5
              obtain ⟨b0, b1, _⟩ := get_bd e5
              simp only [Option.some.injEq, Prod.mk.injEq] at h
              rw [← h.2]
              exact (okNum_iff _).2 ⟨b0, b1⟩
            · cases h
          · cases h
        · cases h
      · cases h
    · cases h
  · cases h
theorem find_P (ts : List ByteArray) (s : ByteArray) : rcFind ts s = (rdP s).bind fun x => if x.1.may && ckI ts true x.1.tm x.2 && decide (x.1.sec x.2 = s) then some x else none := by
  cases hp : rdP s with
  | none =>
    cases hf : rcFind ts s with
    | none => rfl
    | some y =>
      obtain ⟨r, own⟩ := y
      obtain ⟨a, b, c, _⟩ := (rcFind_iff ts s r own).1 hf
      have := rdP_of (c ▸ rcRd_back r own a b)
      rw [hp] at this; cases this
  | some x =>
    obtain ⟨r, own⟩ := x
    show _ = if r.may && ckI ts true r.tm own && decide (r.sec own = s) then some (r, own) else none
    split
    · rename_i hc
      simp only [Bool.and_eq_true, decide_eq_true_eq] at hc
      exact (rcFind_iff ts s r own).2 ⟨hc.1.1, rdP_num hp, hc.2.symm, hc.1.2⟩
    · rename_i hc
      cases hf : rcFind ts s with
      | none => rfl
      | some y =>
        obtain ⟨q, o⟩ := y
        obtain ⟨a, b, c, d⟩ := (rcFind_iff ts s q o).1 hf
        have := rdP_of (c ▸ rcRd_back q o a b)
        rw [hp] at this
        cases this
        refine absurd ?_ hc
        simp only [Bool.and_eq_true, decide_eq_true_eq]
        exact ⟨⟨a, d⟩, c.symm⟩
theorem fgettE {s : ByteArray} {a : Int} (e : txtE s a = 0) (hs : s.size ≤ 9223372036854770000) (ha0 : -9223372036854775808 ≤ a) (ha1 : a ≤ 9223372036854775807) (w : World) (hg : Gd w) :
    Calls Tryz.prog 125 #[.string s, .int .i64 a] w fun e w' => e = .returned (.tuple #[.string (txtS s a), .int .i64 (txtTo s a), .int .i64 0]) ∧ Below w.heap.size w w' := by
  have := fgett s a w hs ha0 ha1 hg
  rw [e] at this
  exact this
def rdV (s : ByteArray) : Ending := match rdP s with
  | some x => .returned (.tuple #[x.1.val, .int .i64 x.2, .bool true])
  | none => .returned (.tuple #[Rc.zero.val, .int .i64 0, .bool false])
theorem pread (s : ByteArray) (w : World) (hs : s.size ≤ 9223372036854770000) (hg : Gd w) : Calls Tryz.prog 117 #[.string s] w fun e w' => e = rdV s ∧ Below w.heap.size w w' := by
  have hN : rdP s = none → rdV s = .returned (.tuple #[.agg #[.int .i64 0, .int .i64 0, .int .i64 0, .int .i64 0, .int .i64 0, .int .i64 0, .int .i64 0, .int .i64 0, .int .i64 0, .int .i64 0, .int .i64 0], .int .i64 0, .bool false]) := fun h => by unfold rdV; rw [h]; rfl
  by_cases e1 : getE s 0 = 0
  · obtain ⟨_, _, b2, b3, b4⟩ := get_bd e1
    by_cases e2 : getE s (getTo s 0) = 0
    · obtain ⟨_, _, c2, c3, c4⟩ := get_bd e2
      by_cases e3 : getE s (getTo s (getTo s 0)) = 0
      · obtain ⟨_, _, d2, d3, d4⟩ := get_bd e3
        by_cases e4 : txtE s (getTo s (getTo s (getTo s 0))) = 0
        · obtain ⟨m, hm⟩ : ∃ m : Nat, getTo s (getTo s (getTo s 0)) = m := ⟨(getTo s (getTo s (getTo s 0))).toNat, by omega⟩
          have e4' := e4
          rw [hm] at e4'
          obtain ⟨m2, hm2, f1, f2, f3, _⟩ := txt_back e4'
          rw [← hm] at hm2 f3
          have hsz : (txtS s (getTo s (getTo s (getTo s 0)))).size ≤ 9223372036854770000 := by omega
          have PE := fun w hg => epget (txtS s (getTo s (getTo s (getTo s 0)))) w hsz hg
          cases hv : Ev.get (txtS s (getTo s (getTo s (getTo s 0)))) with
          | none =>
            rw [hN (by unfold rdP; rw [if_pos e1, if_pos e2, if_pos e3, if_pos e4, hv])]
            rw [show Ev.getE (txtS s (getTo s (getTo s (getTo s 0)))) = 700 by unfold Ev.getE; rw [hv]; rfl] at PE
            exact pread5 s _ _ _ _ _ _ _ _ _ _ _ _ _ _ _ _ w hg (fgetE e1 hs (by omega) (by omega)) (fgetE e2 hs (by omega) (by omega)) (fgetE e3 hs (by omega) (by omega)) (fgettE e4 hs (by omega) (by omega)) PE
          | some v =>
            rw [show Ev.getE (txtS s (getTo s (getTo s (getTo s 0)))) = 0 by unfold Ev.getE; rw [hv]; rfl, show Ev.getP (txtS s (getTo s (getTo s (getTo s 0)))) = v by unfold Ev.getP; rw [hv]; rfl] at PE
            by_cases e5 : getE s (txtTo s (getTo s (getTo s (getTo s 0)))) = 0
            · rw [show rdV s = .returned (.tuple #[(Rc.mk (getX s 0) (getX s (getTo s 0)) (getX s (getTo s (getTo s 0))) v).val, .int .i64 (getX s (txtTo s (getTo s (getTo s (getTo s 0))))), .bool true]) by unfold rdV rdP; rw [if_pos e1, if_pos e2, if_pos e3, if_pos e4, hv]; simp only; rw [if_pos e5]]
              obtain ⟨k, u, q, a, x, y, z, t⟩ := v
              exact pread7 s _ _ _ _ _ _ _ _ _ _ _ _ _ _ _ _ _ _ w hg (fgetE e1 hs (by omega) (by omega)) (fgetE e2 hs (by omega) (by omega)) (fgetE e3 hs (by omega) (by omega)) (fgettE e4 hs (by omega) (by omega)) PE (fgetE e5 hs (by omega) (by omega))
            · rw [hN (by unfold rdP; rw [if_pos e1, if_pos e2, if_pos e3, if_pos e4, hv]; simp only; rw [if_neg e5])]
              obtain ⟨k, u, q, a, x, y, z, t⟩ := v
              exact pread6 s _ _ _ _ _ _ _ _ _ _ _ _ _ _ _ _ _ _ _ w hg (fgetE e1 hs (by omega) (by omega)) (fgetE e2 hs (by omega) (by omega)) (fgetE e3 hs (by omega) (by omega)) (fgettE e4 hs (by omega) (by omega)) PE (fun w hg => fget s _ w hs (by omega) (by omega) hg) e5
        · rw [hN (by unfold rdP; rw [if_pos e1, if_pos e2, if_pos e3, if_neg e4])]
          exact pread4 s _ _ _ _ _ _ _ _ _ w hg (fgetE e1 hs (by omega) (by omega)) (fgetE e2 hs (by omega) (by omega)) (fgetE e3 hs (by omega) (by omega)) (fun w hg => fgett s _ w hs (by omega) (by omega) hg) e4
      · rw [hN (by unfold rdP; rw [if_pos e1, if_pos e2, if_neg e3])]
        exact pread3 s _ _ _ _ _ _ _ w hg (fgetE e1 hs (by omega) (by omega)) (fgetE e2 hs (by omega) (by omega)) (fun w hg => fget s _ w hs (by omega) (by omega) hg) e3
    · rw [hN (by unfold rdP; rw [if_pos e1, if_neg e2])]
      exact pread2 s _ _ _ _ _ w hg (fgetE e1 hs (by omega) (by omega)) (fun w hg => fget s _ w hs (by omega) (by omega) hg) e2
  · rw [hN (by unfold rdP; rw [if_neg e1])]
    exact pread1 s _ _ _ w hg (fun w hg => fget s 0 w hs (by omega) (by omega) hg) e1
open Go Go.RowKit
theorem Becomes.op1 {P : Program} {A A' B : Ass} {f : FuncId} {args : Array Value} {v : Ending} (hd : Does P A f args v A') (hB : B.Good) {F : List Nat} {w w1 : World} (h : Becomes F (B.star A) w w1) : Calls P f args w1 fun e w' => e = v ∧ Becomes F (B.star A') w w' := by
  obtain ⟨F', ⟨F1, F2, rfl, h1, h2, h3⟩, g2, g3⟩ := h
  refine (hd w1 F2 h2).mono ?_
  rintro e w' ⟨he, hk⟩
  obtain ⟨F3, k1, k2, k3⟩ := hk.frameR hB h1 h3
  refine ⟨he, F3, k1, g2.trans k2 g3, fun k hk => ?_⟩
  rcases k3 k hk with c | c
  · exact g3 k c
  · exact .inr (Nat.le_trans g2.size c)
set_option maxRecDepth 100000 in
set_option maxHeartbeats 8000000 in
theorem dpput_no (p : Nat) (most : Int) (ts : List ByteArray) (r : Rc) (hm : r.may = false) : Does Tryz.prog (bookA p most ts) 95 #[.pointer (some ⟨p, 0, none⟩), r.val] (.returned (.tuple #[.string ⟨#[]⟩, .int .i64 0, .int .i64 900])) (bookA p most ts) := by
  intro w F h
  have hj := fun w => pjoin_no r hm w
  have hS := Becomes.refl h
  clear h hm
  obtain ⟨seq, boot, prev, ⟨k, u, s, a, x, y, z, t⟩⟩ := r
  unfold Rc.val at hj ⊢
  simp only at hj ⊢
  have HJ := Lib.hid hj
  replace hS := hS.lay (bookA_good _ _ _) (balloc _ (.cells #[.int .i64 seq, .int .i64 boot, .int .i64 prev, .int .i64 k, .int .i64 u, .int .i64 s, .int .i64 a, .int .i64 x, .int .i64 y, .int .i64 z, .int .i64 t] 74))
  clear hj
  go_enter Tryz.func95, Tryz.ntmps95
  go_wp2_with (go_at_call 105; (with_reducible refine (HJ.out _).mono ?_); rintro e w1 ⟨rfl, hb⟩; replace hS := hS.lay (bookA_good _ _ _) hb; clear hb)
  go_ret3
  exact ⟨rfl, hS⟩
set_option maxRecDepth 100000 in
set_option maxHeartbeats 8000000 in
theorem dpput_yes (p : Nat) (most : Int) (ts T : List ByteArray) (r : Rc) (S : ByteArray) (own : Int) (hm : r.may = true) (hp : Does Tryz.prog (bookA p most ts) 106 #[.pointer (some ⟨p, 0, none⟩), .string ⟨#[114, 101, 99, 111, 114, 100]⟩, .string r.body] (.returned (.tuple #[.string S, .int .i64 own, .bool true])) (bookA p most T)) :
    Does Tryz.prog (bookA p most ts) 95 #[.pointer (some ⟨p, 0, none⟩), r.val] (.returned (.tuple #[.string S, .int .i64 own, .int .i64 0])) (bookA p most T) := by
  intro w F h
  have hj := fun w => pjoin_yes r hm w
  have hS := Becomes.refl h
  clear h hm
  generalize r.body = BO at *
  obtain ⟨seq, boot, prev, ⟨k, u, s, a, x, y, z, t⟩⟩ := r
  unfold Rc.val at hj ⊢
  simp only at hj ⊢
  have HJ := Lib.hid hj
  have HP := Lib.hid hp
  replace hS := hS.lay (bookA_good _ _ _) (balloc _ (.cells #[.int .i64 seq, .int .i64 boot, .int .i64 prev, .int .i64 k, .int .i64 u, .int .i64 s, .int .i64 a, .int .i64 x, .int .i64 y, .int .i64 z, .int .i64 t] 74))
  clear hj hp
  go_enter Tryz.func95, Tryz.ntmps95
  go_wp2_with (first
    | (go_at_call 105; (with_reducible refine (HJ.out _).mono ?_); rintro e w1 ⟨rfl, hb⟩; replace hS := hS.lay (bookA_good _ _ _) hb; clear hb)
    | (go_at_call 106; (with_reducible refine (Becomes.op HP.out hS).mono ?_); rintro e w2 ⟨rfl, hS1⟩; clear hS))
  go_ret3
  exact ⟨rfl, hS1⟩
set_option maxRecDepth 100000 in
set_option maxHeartbeats 8000000 in
theorem dpput_full (p : Nat) (most : Int) (ts T : List ByteArray) (r : Rc) (hm : r.may = true) (hp : Does Tryz.prog (bookA p most ts) 106 #[.pointer (some ⟨p, 0, none⟩), .string ⟨#[114, 101, 99, 111, 114, 100]⟩, .string r.body] (.returned (.tuple #[.string ⟨#[]⟩, .int .i64 0, .bool false])) (bookA p most T)) :
    Does Tryz.prog (bookA p most ts) 95 #[.pointer (some ⟨p, 0, none⟩), r.val] (.returned (.tuple #[.string ⟨#[]⟩, .int .i64 0, .int .i64 900])) (bookA p most T) := by
  intro w F h
  have hj := fun w => pjoin_yes r hm w
  have hS := Becomes.refl h
  clear h hm
  generalize r.body = BO at *
  obtain ⟨seq, boot, prev, ⟨k, u, s, a, x, y, z, t⟩⟩ := r
  unfold Rc.val at hj ⊢
  simp only at hj ⊢
  have HJ := Lib.hid hj
  have HP := Lib.hid hp
  replace hS := hS.lay (bookA_good _ _ _) (balloc _ (.cells #[.int .i64 seq, .int .i64 boot, .int .i64 prev, .int .i64 k, .int .i64 u, .int .i64 s, .int .i64 a, .int .i64 x, .int .i64 y, .int .i64 z, .int .i64 t] 74))
  clear hj hp
  go_enter Tryz.func95, Tryz.ntmps95
  go_wp2_with (first
    | (go_at_call 105; (with_reducible refine (HJ.out _).mono ?_); rintro e w1 ⟨rfl, hb⟩; replace hS := hS.lay (bookA_good _ _ _) hb; clear hb)
    | (go_at_call 106; (with_reducible refine (Becomes.op HP.out hS).mono ?_); rintro e w2 ⟨rfl, hS1⟩; clear hS))
  go_ret3
  exact ⟨rfl, hS1⟩
theorem dpputD (p : Nat) (most : Int) (ts : List ByteArray) (r : Rc) (hl : ts.length ≤ 1000000) : Does Tryz.prog (bookA p most ts) 95 #[.pointer (some ⟨p, 0, none⟩), r.val]
    (.returned (.tuple #[.string (rcS most ts r), .int .i64 (rcN most ts r), .int .i64 (rcE most ts r)])) (bookA p most (rcT most ts r)) := by
  cases hm : r.may with
  | false =>
    have ho : rcOk most ts r = false := by unfold rcOk; rw [hm]; rfl
    rw [show rcT most ts r = ts by unfold rcT; rw [hm]; rfl, show rcS most ts r = ⟨#[]⟩ by unfold rcS; rw [ho]; rfl, show rcN most ts r = 0 by unfold rcN; rw [ho]; rfl, show rcE most ts r = 900 by unfold rcE; rw [ho]; rfl]
    exact dpput_no p most ts r hm
  | true =>
    have hsm := r.body_small
    rw [show rcT most ts r = nmT most ts r.tm by unfold rcT; rw [hm]; rfl]
    by_cases e : nmE most ts r.tm = 0
    · have ho : rcOk most ts r = true := by unfold rcOk; rw [hm, e]; rfl
      rw [show rcS most ts r = r.sec (nmX most ts r.tm) by unfold rcS; rw [ho]; rfl, show rcN most ts r = nmX most ts r.tm by unfold rcN; rw [ho]; rfl, show rcE most ts r = 0 by unfold rcE; rw [ho]; rfl]
      exact dpput_yes p most ts _ r _ _ hm (sput_yes p most ts markR r.body hl (by decide) hsm e)
    · have ho : rcOk most ts r = false := by unfold rcOk; rw [hm]; simp [e]
      rw [show rcS most ts r = ⟨#[]⟩ by unfold rcS; rw [ho]; rfl, show rcN most ts r = 0 by unfold rcN; rw [ho]; rfl, show rcE most ts r = 900 by unfold rcE; rw [ho]; rfl]
      exact dpput_full p most ts _ r hm (sput_no p most ts markR r.body (by decide) hsm e)
open Go Go.RowKit
abbrev Z11 : Array Value := #[.int .i64 0, .int .i64 0, .int .i64 0, .int .i64 0, .int .i64 0, .int .i64 0, .int .i64 0, .int .i64 0, .int .i64 0, .int .i64 0, .int .i64 0]
theorem hold_below {w W : World} {c : Array Value} {t : TypeId} (hb : Below (w.alloc (.cells c t)).heap.size (w.alloc (.cells c t)) W) : Blk W w.heap.size c ∧ Below w.heap.size w W :=
  ⟨(Blk.new w c t).step hb, (balloc w _).trans (hb.mono (by simp))⟩
set_option maxRecDepth 100000 in
set_option maxHeartbeats 8000000 in
theorem pget_none (p : Nat) (most : Int) (ts : List ByteArray) (s : ByteArray) (seq prev : Int)
    (hR : ∀ w, Gd w → Calls Tryz.prog 117 #[.string s] w fun e w' => e = .returned (.tuple #[.agg Z11, .int .i64 0, .bool false]) ∧ Below w.heap.size w w') :
    ReadsG Tryz.prog (bookA p most ts) 109 #[.pointer (some ⟨p, 0, none⟩), .string s, .int .i64 seq, .int .i64 prev] (.returned (.tuple #[.agg Z11, .int .i64 0, .int .i64 900])) := by
  intro w F h hg
  have hr := (Gr.refl hg).alloc (.cells Z11 74)
  have HR := Lib.hid hR
  have HB := Lib.hid (fun W (hb : Below (w.alloc (.cells Z11 74)).heap.size (w.alloc (.cells Z11 74)) W) => hold_below hb)
  clear hR hg h
  go_enter Tryz.func109, Tryz.ntmps109
  go_wp2_with (go_at_call 117; (with_reducible refine (HR.out _ hr.good).mono ?_); rintro e w1 ⟨rfl, hb⟩; obtain ⟨k1, k2⟩ := HB.out _ hb; have e1 := k1.cell; have g1 := k1.froz; have l1 := k1.lt)
  refine bodyPost_ret (v := .tuple #[.agg Z11, .int .i64 0, .int .i64 900]) (by simp [results, Tryz.results109, go_sem, e1, l1]) rfl ⟨rfl, ?_⟩
  refine Below.alloc ?_ (by simp; omega) _
  repeat (with_reducible refine Below.setCell ?_ (by simp) _)
  with_reducible exact k2
set_option maxRecDepth 100000 in
set_option maxHeartbeats 8000000 in
theorem pget_w0 (p : Nat) (most : Int) (ts : List ByteArray) (s : ByteArray) (seq prev x1 x2 x3 k u q a x y z t own : Int)
    (hR : ∀ w, Gd w → Calls Tryz.prog 117 #[.string s] w fun e w' => e = .returned (.tuple #[.agg #[.int .i64 x1, .int .i64 x2, .int .i64 x3, .int .i64 k, .int .i64 u, .int .i64 q, .int .i64 a, .int .i64 x, .int .i64 y, .int .i64 z, .int .i64 t], .int .i64 own, .bool true]) ∧ Below w.heap.size w w')
    (hj : ∀ w, Calls Tryz.prog 105 #[.agg #[.int .i64 x1, .int .i64 x2, .int .i64 x3, .int .i64 k, .int .i64 u, .int .i64 q, .int .i64 a, .int .i64 x, .int .i64 y, .int .i64 z, .int .i64 t]] w fun e w' => e = .returned (.tuple #[.string ⟨#[]⟩, .bool false]) ∧ Below w.heap.size w w') :
    ReadsG Tryz.prog (bookA p most ts) 109 #[.pointer (some ⟨p, 0, none⟩), .string s, .int .i64 seq, .int .i64 prev] (.returned (.tuple #[.agg Z11, .int .i64 0, .int .i64 900])) := by
  intro w F h hg
  have hr := (Gr.refl hg).alloc (.cells Z11 74)
  have HR := Lib.hid hR
  have HJ := Lib.hid hj
  have HB := Lib.hid (fun W (hb : Below (w.alloc (.cells Z11 74)).heap.size (w.alloc (.cells Z11 74)) W) => hold_below hb)
  clear hR hg h hj
  go_enter Tryz.func109, Tryz.ntmps109
  go_wp2_with (first
    | (go_at_call 117; (with_reducible refine (HR.out _ hr.good).mono ?_); rintro e w1 ⟨rfl, hb⟩; obtain ⟨k1, k2⟩ := HB.out _ hb; have l1 := k1.lt; have hw1 : ¬ w.heap.size = w1.heap.size := (by omega); have hw2 : ¬ w1.heap.size = w.heap.size := (by omega); replace k1 := k1.alloc (.cells #[.int .i64 x1, .int .i64 x2, .int .i64 x3, .int .i64 k, .int .i64 u, .int .i64 q, .int .i64 a, .int .i64 x, .int .i64 y, .int .i64 z, .int .i64 t] 74); have k3 := Blk.new w1 #[.int .i64 x1, .int .i64 x2, .int .i64 x3, .int .i64 k, .int .i64 u, .int .i64 q, .int .i64 a, .int .i64 x, .int .i64 y, .int .i64 z, .int .i64 t] 74; replace k2 := k2.alloc k2.size (.cells #[.int .i64 x1, .int .i64 x2, .int .i64 x3, .int .i64 k, .int .i64 u, .int .i64 q, .int .i64 a, .int .i64 x, .int .i64 y, .int .i64 z, .int .i64 t] 74); have e1 := k1.cell; have g1 := k1.froz; have e3 := k3.cell; have g3 := k3.froz)
    | (go_at_call 105; (with_reducible refine (HJ.out _).mono ?_); rintro e w2 ⟨rfl, hb2⟩; replace k1 := k1.step hb2; replace k3 := k3.step hb2; replace k2 := bon k2 hb2; have e1 := k1.cell; have g1 := k1.froz; have l2 := k1.lt; have e3 := k3.cell; have g3 := k3.froz; clear hb2))
  refine bodyPost_ret (v := .tuple #[.agg Z11, .int .i64 0, .int .i64 900]) (by simp [results, Tryz.results109, go_sem, e1]) rfl ⟨rfl, ?_⟩
  repeat (with_reducible refine Below.setCell ?_ (by simp) _)
  with_reducible exact k2
set_option maxRecDepth 100000 in
set_option maxHeartbeats 8000000 in
theorem pget_w1 (p : Nat) (most : Int) (ts : List ByteArray) (s : ByteArray) (seq prev x1 x2 x3 k u q a x y z t own : Int) (BO : ByteArray)
    (hR : ∀ w, Gd w → Calls Tryz.prog 117 #[.string s] w fun e w' => e = .returned (.tuple #[.agg #[.int .i64 x1, .int .i64 x2, .int .i64 x3, .int .i64 k, .int .i64 u, .int .i64 q, .int .i64 a, .int .i64 x, .int .i64 y, .int .i64 z, .int .i64 t], .int .i64 own, .bool true]) ∧ Below w.heap.size w w')
    (hj : ∀ w, Calls Tryz.prog 105 #[.agg #[.int .i64 x1, .int .i64 x2, .int .i64 x3, .int .i64 k, .int .i64 u, .int .i64 q, .int .i64 a, .int .i64 x, .int .i64 y, .int .i64 z, .int .i64 t]] w fun e w' => e = .returned (.tuple #[.string BO, .bool true]) ∧ Below w.heap.size w w')
    (hi : Reads Tryz.prog (bookA p most ts) 118 #[.pointer (some ⟨p, 0, none⟩), .string s, .string ⟨#[114, 101, 99, 111, 114, 100]⟩, .string BO, .int .i64 own] (.returned (.bool false))) :
    ReadsG Tryz.prog (bookA p most ts) 109 #[.pointer (some ⟨p, 0, none⟩), .string s, .int .i64 seq, .int .i64 prev] (.returned (.tuple #[.agg Z11, .int .i64 0, .int .i64 900])) := by
  intro w F h hg
  have hr := (Gr.refl hg).alloc (.cells Z11 74)
  have HR := Lib.hid hR
  have HJ := Lib.hid hj
  have HI := Lib.hid (fun W (hb : Below w.heap.size w W) => hi W F ((bookA_good _ _ _).below h hb))
  have HB := Lib.hid (fun W (hb : Below (w.alloc (.cells Z11 74)).heap.size (w.alloc (.cells Z11 74)) W) => hold_below hb)
  clear hR hg h hj hi
  go_enter Tryz.func109, Tryz.ntmps109
  go_wp2_with (first
    | (go_at_call 117; (with_reducible refine (HR.out _ hr.good).mono ?_); rintro e w1 ⟨rfl, hb⟩; obtain ⟨k1, k2⟩ := HB.out _ hb; have l1 := k1.lt; have hw1 : ¬ w.heap.size = w1.heap.size := (by omega); have hw2 : ¬ w1.heap.size = w.heap.size := (by omega); replace k1 := k1.alloc (.cells #[.int .i64 x1, .int .i64 x2, .int .i64 x3, .int .i64 k, .int .i64 u, .int .i64 q, .int .i64 a, .int .i64 x, .int .i64 y, .int .i64 z, .int .i64 t] 74); have k3 := Blk.new w1 #[.int .i64 x1, .int .i64 x2, .int .i64 x3, .int .i64 k, .int .i64 u, .int .i64 q, .int .i64 a, .int .i64 x, .int .i64 y, .int .i64 z, .int .i64 t] 74; replace k2 := k2.alloc k2.size (.cells #[.int .i64 x1, .int .i64 x2, .int .i64 x3, .int .i64 k, .int .i64 u, .int .i64 q, .int .i64 a, .int .i64 x, .int .i64 y, .int .i64 z, .int .i64 t] 74); have e1 := k1.cell; have g1 := k1.froz; have e3 := k3.cell; have g3 := k3.froz)
    | (go_at_call 105; (with_reducible refine (HJ.out _).mono ?_); rintro e w2 ⟨rfl, hb2⟩; replace k1 := k1.step hb2; replace k3 := k3.step hb2; replace k2 := bon k2 hb2; have e1 := k1.cell; have g1 := k1.froz; have l2 := k1.lt; have e3 := k3.cell; have g3 := k3.froz; clear hb2)
    | (go_at_call 118; (with_reducible refine (HI.out _ k2).mono ?_); rintro e w3 ⟨rfl, hb3⟩; replace k1 := k1.step hb3; replace k3 := k3.step hb3; replace k2 := bon k2 hb3; have e1 := k1.cell; have g1 := k1.froz; have l2 := k1.lt; have e3 := k3.cell; have g3 := k3.froz; clear hb3))
  refine bodyPost_ret (v := .tuple #[.agg Z11, .int .i64 0, .int .i64 900]) (by simp [results, Tryz.results109, go_sem, e1]) rfl ⟨rfl, ?_⟩
  repeat (with_reducible refine Below.setCell ?_ (by simp) _)
  with_reducible exact k2
set_option maxRecDepth 100000 in
set_option maxHeartbeats 8000000 in
theorem pget_w2 (p : Nat) (most : Int) (ts : List ByteArray) (s : ByteArray) (seq prev x1 x2 x3 k u q a x y z t own : Int) (BO : ByteArray) (hne : x1 ≠ seq)
    (hR : ∀ w, Gd w → Calls Tryz.prog 117 #[.string s] w fun e w' => e = .returned (.tuple #[.agg #[.int .i64 x1, .int .i64 x2, .int .i64 x3, .int .i64 k, .int .i64 u, .int .i64 q, .int .i64 a, .int .i64 x, .int .i64 y, .int .i64 z, .int .i64 t], .int .i64 own, .bool true]) ∧ Below w.heap.size w w')
    (hj : ∀ w, Calls Tryz.prog 105 #[.agg #[.int .i64 x1, .int .i64 x2, .int .i64 x3, .int .i64 k, .int .i64 u, .int .i64 q, .int .i64 a, .int .i64 x, .int .i64 y, .int .i64 z, .int .i64 t]] w fun e w' => e = .returned (.tuple #[.string BO, .bool true]) ∧ Below w.heap.size w w')
    (hi : Reads Tryz.prog (bookA p most ts) 118 #[.pointer (some ⟨p, 0, none⟩), .string s, .string ⟨#[114, 101, 99, 111, 114, 100]⟩, .string BO, .int .i64 own] (.returned (.bool true))) :
    ReadsG Tryz.prog (bookA p most ts) 109 #[.pointer (some ⟨p, 0, none⟩), .string s, .int .i64 seq, .int .i64 prev] (.returned (.tuple #[.agg Z11, .int .i64 0, .int .i64 901])) := by
  intro w F h hg
  have c1 : (x1 != seq) = true := by simpa using hne
  have c2 : (x1 == seq) = false := by simpa using hne
  have hr := (Gr.refl hg).alloc (.cells Z11 74)
  have HR := Lib.hid hR
  have HJ := Lib.hid hj
  have HI := Lib.hid (fun W (hb : Below w.heap.size w W) => hi W F ((bookA_good _ _ _).below h hb))
  have HB := Lib.hid (fun W (hb : Below (w.alloc (.cells Z11 74)).heap.size (w.alloc (.cells Z11 74)) W) => hold_below hb)
  clear hR hg h hj hi
  go_enter Tryz.func109, Tryz.ntmps109
  go_wp2_with (first
    | (go_at_call 117; (with_reducible refine (HR.out _ hr.good).mono ?_); rintro e w1 ⟨rfl, hb⟩; obtain ⟨k1, k2⟩ := HB.out _ hb; have l1 := k1.lt; have hw1 : ¬ w.heap.size = w1.heap.size := (by omega); have hw2 : ¬ w1.heap.size = w.heap.size := (by omega); replace k1 := k1.alloc (.cells #[.int .i64 x1, .int .i64 x2, .int .i64 x3, .int .i64 k, .int .i64 u, .int .i64 q, .int .i64 a, .int .i64 x, .int .i64 y, .int .i64 z, .int .i64 t] 74); have k3 := Blk.new w1 #[.int .i64 x1, .int .i64 x2, .int .i64 x3, .int .i64 k, .int .i64 u, .int .i64 q, .int .i64 a, .int .i64 x, .int .i64 y, .int .i64 z, .int .i64 t] 74; replace k2 := k2.alloc k2.size (.cells #[.int .i64 x1, .int .i64 x2, .int .i64 x3, .int .i64 k, .int .i64 u, .int .i64 q, .int .i64 a, .int .i64 x, .int .i64 y, .int .i64 z, .int .i64 t] 74); have e1 := k1.cell; have g1 := k1.froz; have e3 := k3.cell; have g3 := k3.froz)
    | (go_at_call 105; (with_reducible refine (HJ.out _).mono ?_); rintro e w2 ⟨rfl, hb2⟩; replace k1 := k1.step hb2; replace k3 := k3.step hb2; replace k2 := bon k2 hb2; have e1 := k1.cell; have g1 := k1.froz; have l2 := k1.lt; have e3 := k3.cell; have g3 := k3.froz; clear hb2)
    | (go_at_call 118; (with_reducible refine (HI.out _ k2).mono ?_); rintro e w3 ⟨rfl, hb3⟩; replace k1 := k1.step hb3; replace k3 := k3.step hb3; replace k2 := bon k2 hb3; have e1 := k1.cell; have g1 := k1.froz; have l2 := k1.lt; have e3 := k3.cell; have g3 := k3.froz; clear hb3))
  refine bodyPost_ret (v := .tuple #[.agg Z11, .int .i64 0, .int .i64 901]) (by simp [results, Tryz.results109, go_sem, e1]) rfl ⟨rfl, ?_⟩
  repeat (with_reducible refine Below.setCell ?_ (by simp) _)
  with_reducible exact k2
set_option maxRecDepth 100000 in
set_option maxHeartbeats 8000000 in
theorem pget_w3 (p : Nat) (most : Int) (ts : List ByteArray) (s : ByteArray) (seq prev x2 x3 k u q a x y z t own : Int) (BO : ByteArray) (hne : x3 ≠ prev)
    (hR : ∀ w, Gd w → Calls Tryz.prog 117 #[.string s] w fun e w' => e = .returned (.tuple #[.agg #[.int .i64 seq, .int .i64 x2, .int .i64 x3, .int .i64 k, .int .i64 u, .int .i64 q, .int .i64 a, .int .i64 x, .int .i64 y, .int .i64 z, .int .i64 t], .int .i64 own, .bool true]) ∧ Below w.heap.size w w')
    (hj : ∀ w, Calls Tryz.prog 105 #[.agg #[.int .i64 seq, .int .i64 x2, .int .i64 x3, .int .i64 k, .int .i64 u, .int .i64 q, .int .i64 a, .int .i64 x, .int .i64 y, .int .i64 z, .int .i64 t]] w fun e w' => e = .returned (.tuple #[.string BO, .bool true]) ∧ Below w.heap.size w w')
    (hi : Reads Tryz.prog (bookA p most ts) 118 #[.pointer (some ⟨p, 0, none⟩), .string s, .string ⟨#[114, 101, 99, 111, 114, 100]⟩, .string BO, .int .i64 own] (.returned (.bool true))) :
    ReadsG Tryz.prog (bookA p most ts) 109 #[.pointer (some ⟨p, 0, none⟩), .string s, .int .i64 seq, .int .i64 prev] (.returned (.tuple #[.agg Z11, .int .i64 0, .int .i64 901])) := by
  intro w F h hg
  have c1 : (x3 != prev) = true := by simpa using hne
  have c2 : (x3 == prev) = false := by simpa using hne
  have hr := (Gr.refl hg).alloc (.cells Z11 74)
  have HR := Lib.hid hR
  have HJ := Lib.hid hj
  have HI := Lib.hid (fun W (hb : Below w.heap.size w W) => hi W F ((bookA_good _ _ _).below h hb))
  have HB := Lib.hid (fun W (hb : Below (w.alloc (.cells Z11 74)).heap.size (w.alloc (.cells Z11 74)) W) => hold_below hb)
  clear hR hg h hj hi
  go_enter Tryz.func109, Tryz.ntmps109
  go_wp2_with (first
    | (go_at_call 117; (with_reducible refine (HR.out _ hr.good).mono ?_); rintro e w1 ⟨rfl, hb⟩; obtain ⟨k1, k2⟩ := HB.out _ hb; have l1 := k1.lt; have hw1 : ¬ w.heap.size = w1.heap.size := (by omega); have hw2 : ¬ w1.heap.size = w.heap.size := (by omega); replace k1 := k1.alloc (.cells #[.int .i64 seq, .int .i64 x2, .int .i64 x3, .int .i64 k, .int .i64 u, .int .i64 q, .int .i64 a, .int .i64 x, .int .i64 y, .int .i64 z, .int .i64 t] 74); have k3 := Blk.new w1 #[.int .i64 seq, .int .i64 x2, .int .i64 x3, .int .i64 k, .int .i64 u, .int .i64 q, .int .i64 a, .int .i64 x, .int .i64 y, .int .i64 z, .int .i64 t] 74; replace k2 := k2.alloc k2.size (.cells #[.int .i64 seq, .int .i64 x2, .int .i64 x3, .int .i64 k, .int .i64 u, .int .i64 q, .int .i64 a, .int .i64 x, .int .i64 y, .int .i64 z, .int .i64 t] 74); have e1 := k1.cell; have g1 := k1.froz; have e3 := k3.cell; have g3 := k3.froz)
    | (go_at_call 105; (with_reducible refine (HJ.out _).mono ?_); rintro e w2 ⟨rfl, hb2⟩; replace k1 := k1.step hb2; replace k3 := k3.step hb2; replace k2 := bon k2 hb2; have e1 := k1.cell; have g1 := k1.froz; have l2 := k1.lt; have e3 := k3.cell; have g3 := k3.froz; clear hb2)
    | (go_at_call 118; (with_reducible refine (HI.out _ k2).mono ?_); rintro e w3 ⟨rfl, hb3⟩; replace k1 := k1.step hb3; replace k3 := k3.step hb3; replace k2 := bon k2 hb3; have e1 := k1.cell; have g1 := k1.froz; have l2 := k1.lt; have e3 := k3.cell; have g3 := k3.froz; clear hb3))
  refine bodyPost_ret (v := .tuple #[.agg Z11, .int .i64 0, .int .i64 901]) (by simp [results, Tryz.results109, go_sem, e1]) rfl ⟨rfl, ?_⟩
  repeat (with_reducible refine Below.setCell ?_ (by simp) _)
  with_reducible exact k2
set_option maxRecDepth 100000 in
set_option maxHeartbeats 8000000 in
theorem pget_w4 (p : Nat) (most : Int) (ts : List ByteArray) (s : ByteArray) (seq prev x2 k u q a x y z t own : Int) (BO : ByteArray)
    (hR : ∀ w, Gd w → Calls Tryz.prog 117 #[.string s] w fun e w' => e = .returned (.tuple #[.agg #[.int .i64 seq, .int .i64 x2, .int .i64 prev, .int .i64 k, .int .i64 u, .int .i64 q, .int .i64 a, .int .i64 x, .int .i64 y, .int .i64 z, .int .i64 t], .int .i64 own, .bool true]) ∧ Below w.heap.size w w')
    (hj : ∀ w, Calls Tryz.prog 105 #[.agg #[.int .i64 seq, .int .i64 x2, .int .i64 prev, .int .i64 k, .int .i64 u, .int .i64 q, .int .i64 a, .int .i64 x, .int .i64 y, .int .i64 z, .int .i64 t]] w fun e w' => e = .returned (.tuple #[.string BO, .bool true]) ∧ Below w.heap.size w w')
    (hi : Reads Tryz.prog (bookA p most ts) 118 #[.pointer (some ⟨p, 0, none⟩), .string s, .string ⟨#[114, 101, 99, 111, 114, 100]⟩, .string BO, .int .i64 own] (.returned (.bool true))) :
    ReadsG Tryz.prog (bookA p most ts) 109 #[.pointer (some ⟨p, 0, none⟩), .string s, .int .i64 seq, .int .i64 prev] (.returned (.tuple #[.agg #[.int .i64 seq, .int .i64 x2, .int .i64 prev, .int .i64 k, .int .i64 u, .int .i64 q, .int .i64 a, .int .i64 x, .int .i64 y, .int .i64 z, .int .i64 t], .int .i64 own, .int .i64 0])) := by
  intro w F h hg
  have hr := (Gr.refl hg).alloc (.cells Z11 74)
  have HR := Lib.hid hR
  have HJ := Lib.hid hj
  have HI := Lib.hid (fun W (hb : Below w.heap.size w W) => hi W F ((bookA_good _ _ _).below h hb))
  have HB := Lib.hid (fun W (hb : Below (w.alloc (.cells Z11 74)).heap.size (w.alloc (.cells Z11 74)) W) => hold_below hb)
  clear hR hg h hj hi
  go_enter Tryz.func109, Tryz.ntmps109
  go_wp2_with (first
    | (go_at_call 117; (with_reducible refine (HR.out _ hr.good).mono ?_); rintro e w1 ⟨rfl, hb⟩; obtain ⟨k1, k2⟩ := HB.out _ hb; have l1 := k1.lt; have hw1 : ¬ w.heap.size = w1.heap.size := (by omega); have hw2 : ¬ w1.heap.size = w.heap.size := (by omega); replace k1 := k1.alloc (.cells #[.int .i64 seq, .int .i64 x2, .int .i64 prev, .int .i64 k, .int .i64 u, .int .i64 q, .int .i64 a, .int .i64 x, .int .i64 y, .int .i64 z, .int .i64 t] 74); have k3 := Blk.new w1 #[.int .i64 seq, .int .i64 x2, .int .i64 prev, .int .i64 k, .int .i64 u, .int .i64 q, .int .i64 a, .int .i64 x, .int .i64 y, .int .i64 z, .int .i64 t] 74; replace k2 := k2.alloc k2.size (.cells #[.int .i64 seq, .int .i64 x2, .int .i64 prev, .int .i64 k, .int .i64 u, .int .i64 q, .int .i64 a, .int .i64 x, .int .i64 y, .int .i64 z, .int .i64 t] 74); have e1 := k1.cell; have g1 := k1.froz; have e3 := k3.cell; have g3 := k3.froz)
    | (go_at_call 105; (with_reducible refine (HJ.out _).mono ?_); rintro e w2 ⟨rfl, hb2⟩; replace k1 := k1.step hb2; replace k3 := k3.step hb2; replace k2 := bon k2 hb2; have e1 := k1.cell; have g1 := k1.froz; have l2 := k1.lt; have e3 := k3.cell; have g3 := k3.froz; clear hb2)
    | (go_at_call 118; (with_reducible refine (HI.out _ k2).mono ?_); rintro e w3 ⟨rfl, hb3⟩; replace k1 := k1.step hb3; replace k3 := k3.step hb3; replace k2 := bon k2 hb3; have e1 := k1.cell; have g1 := k1.froz; have l2 := k1.lt; have e3 := k3.cell; have g3 := k3.froz; clear hb3))
  refine bodyPost_ret (v := .tuple #[.agg #[.int .i64 seq, .int .i64 x2, .int .i64 prev, .int .i64 k, .int .i64 u, .int .i64 q, .int .i64 a, .int .i64 x, .int .i64 y, .int .i64 z, .int .i64 t], .int .i64 own, .int .i64 0]) (by simp [results, Tryz.results109, go_sem, e1]) rfl ⟨rfl, ?_⟩
  repeat (with_reducible refine Below.setCell ?_ (by simp) _)
  with_reducible exact k2
open Go Go.RowKit
theorem dpgetR (p : Nat) (most : Int) (ts : List ByteArray) (s : ByteArray) (seq prev : Int) (hs : s.size ≤ 9223372036854770000) : ReadsG Tryz.prog (bookA p most ts) 109 #[.pointer (some ⟨p, 0, none⟩), .string s, .int .i64 seq, .int .i64 prev]
    (.returned (.tuple #[(rgR ts s seq prev).val, .int .i64 (rgN ts s seq prev), .int .i64 (rgE ts s seq prev)])) := by
  have hR := fun w hg => pread s w hs hg
  have hf := find_P ts s
  cases hp : rdP s with
  | none =>
    rw [hp] at hf
    obtain ⟨q1, q2, q3⟩ := find_no hf seq prev
    rw [q1, q2, q3]
    rw [show rdV s = .returned (.tuple #[.agg Z11, .int .i64 0, .bool false]) by unfold rdV; rw [hp]; rfl] at hR
    exact pget_none p most ts s seq prev hR
  | some x =>
    obtain ⟨r, own⟩ := x
    have ho := rdP_num hp
    rw [hp] at hf
    replace hf : rcFind ts s = if r.may && ckI ts true r.tm own && decide (r.sec own = s) then some (r, own) else none := hf
    rw [show rdV s = .returned (.tuple #[r.val, .int .i64 own, .bool true]) by unfold rdV; rw [hp]] at hR
    cases hm : r.may with
    | false =>
      rw [hm, Bool.false_and, Bool.false_and] at hf
      obtain ⟨q1, q2, q3⟩ := find_no hf seq prev
      rw [q1, q2, q3]
      have hj := fun w => pjoin_no r hm w
      obtain ⟨x1, x2, x3, ⟨k, u, q, a, x, y, z, t⟩⟩ := r
      exact pget_w0 p most ts s seq prev _ _ _ _ _ _ _ _ _ _ _ own hR hj
    | true =>
      rw [hm, Bool.true_and] at hf
      have hj := fun w => pjoin_yes r hm w
      have hsm := r.body_small
      by_cases hc : r.sec own = s
      · have hi := sis_yes p most ts s markR r.body own ho (by decide) hsm hc
        rw [decide_eq_true hc, Bool.and_true] at hf
        rw [show tmK cH none (markR ++ r.body) = r.tm from rfl] at hi
        cases hk : ckI ts true r.tm own with
        | false =>
          rw [hk] at hf hi
          obtain ⟨q1, q2, q3⟩ := find_no hf seq prev
          rw [q1, q2, q3]
          generalize r.body = BO at *
          obtain ⟨x1, x2, x3, ⟨k, u, q, a, x, y, z, t⟩⟩ := r
          exact pget_w1 p most ts s seq prev _ _ _ _ _ _ _ _ _ _ _ own BO hR hj hi
        | true =>
          rw [hk] at hi
          obtain ⟨_, f1, f2⟩ := find_of hm ho hk seq prev
          rw [hc] at f1 f2
          by_cases h1 : r.seq = seq
          · by_cases h2 : r.prev = prev
            · obtain ⟨q1, q2, q3⟩ := f1 ⟨h1, h2⟩
              rw [q1, q2, q3]
              generalize r.body = BO at *
              obtain ⟨x1, x2, x3, ⟨k, u, q, a, x, y, z, t⟩⟩ := r
              simp only at h1 h2
              subst h1 h2
              exact pget_w4 p most ts s _ _ _ _ _ _ _ _ _ _ _ own BO hR hj hi
            · obtain ⟨q1, q2, q3⟩ := f2 (fun c => h2 c.2)
              rw [q1, q2, q3]
              generalize r.body = BO at *
              obtain ⟨x1, x2, x3, ⟨k, u, q, a, x, y, z, t⟩⟩ := r
              simp only at h1 h2
              subst h1
              exact pget_w3 p most ts s _ prev _ _ _ _ _ _ _ _ _ _ own BO h2 hR hj hi
          · obtain ⟨q1, q2, q3⟩ := f2 (fun c => h1 c.1)
            rw [q1, q2, q3]
            generalize r.body = BO at *
            obtain ⟨x1, x2, x3, ⟨k, u, q, a, x, y, z, t⟩⟩ := r
            exact pget_w2 p most ts s seq prev _ _ _ _ _ _ _ _ _ _ _ own BO h1 hR hj hi
      · have hi := sis_no p most ts s markR r.body own ho hsm hc
        rw [decide_eq_false hc, Bool.and_false] at hf
        obtain ⟨q1, q2, q3⟩ := find_no hf seq prev
        rw [q1, q2, q3]
        generalize r.body = BO at *
        obtain ⟨x1, x2, x3, ⟨k, u, q, a, x, y, z, t⟩⟩ := r
        exact pget_w1 p most ts s seq prev _ _ _ _ _ _ _ _ _ _ _ own BO hR hj hi
end Go.Proofs.YtbfpfmidjdonjaaGreatDoor
