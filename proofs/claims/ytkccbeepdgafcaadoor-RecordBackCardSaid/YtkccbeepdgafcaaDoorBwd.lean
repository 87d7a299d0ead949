/- Put together: Rcp7, Rcp8, Rcp9. Conditions: each theorem's own. -/
import Derived.Test.YtkccbeepdgafcaaDoorBwc
import Derived.Test.YtkccbeepdgafcaaDoorBec
import Derived.Test.YtkccbeepdgafcaaDoorBpb
import Derived.LoopN
import Derived.Test.YtkccbeepdgafcaaDoorFtext
namespace Go.Proofs.YtkccbeepdgafcaaDoor
open Go Go.RowKit

/-- Within read: its result's block, the record's, the row of places. -/
structure RS (w W : World) (c : Array Value) : Prop where
  good : Gd w
  gr : Gr w W
  b0 : Blk W w.heap.size #[.int .i64 0, .int .i64 0, .int .i64 0, .int .i64 0, .int .i64 0, .int .i64 0, .int .i64 0, .int .i64 0, .int .i64 0, .int .i64 0, .int .i64 0]
  b1 : Blk W (w.heap.size + 1) c
  b2 : Blk W (w.heap.size + 1 + 1) #[.pointer (some ⟨w.heap.size + 1, 0, none⟩), .pointer (some ⟨w.heap.size + 1, 1, none⟩), .pointer (some ⟨w.heap.size + 1, 2, none⟩)]
theorem RS.start {w : World} (hg : Gd w) : RS w (((w.alloc (.cells #[.int .i64 0, .int .i64 0, .int .i64 0, .int .i64 0, .int .i64 0, .int .i64 0, .int .i64 0, .int .i64 0, .int .i64 0, .int .i64 0, .int .i64 0] 34)).alloc (.cells #[.int .i64 0, .int .i64 0, .int .i64 0, .int .i64 0, .int .i64 0, .int .i64 0, .int .i64 0, .int .i64 0, .int .i64 0, .int .i64 0, .int .i64 0] 34)).alloc (.cells #[.pointer (some ⟨w.heap.size + 1, 0, none⟩), .pointer (some ⟨w.heap.size + 1, 1, none⟩), .pointer (some ⟨w.heap.size + 1, 2, none⟩)] 98)) #[.int .i64 0, .int .i64 0, .int .i64 0, .int .i64 0, .int .i64 0, .int .i64 0, .int .i64 0, .int .i64 0, .int .i64 0, .int .i64 0, .int .i64 0] :=
  ⟨hg, ((Gr.refl hg).alloc _).alloc _ |>.alloc _, ((Blk.new _ _ _).alloc _).alloc _, (Blk.new' _ _ (by simp) _ _).alloc _, Blk.new' _ _ (by simp) _ _⟩
theorem RS.step {w W W' : World} {c : Array Value} (h : RS w W c) (hb : Below W.heap.size W W') : RS w W' c := ⟨h.good, h.gr.step hb, h.b0.step hb, h.b1.step hb, h.b2.step hb⟩
theorem RS.set {w W : World} {c c' : Array Value} (h : RS w W c) (i : Nat) (v : Value) (hi : i < c.size) (hc : ∀ j, (c'[j]? = if j = i then some v else c[j]?)) : RS w (W.setCell ⟨w.heap.size + 1, i, none⟩ v) c' :=
  ⟨h.good, h.gr.set h.good _ _ (by simp), h.b0.far _ _ (by simp), h.b1.set i v hi hc, h.b2.far _ _ (by simp)⟩
theorem RS.put {w W : World} {c : Array Value} (h : RS w W c) (i : Nat) (v : Value) (hi : i < c.size) : RS w (W.setCell ⟨w.heap.size + 1, i, none⟩ v) (c.setIfInBounds i v) :=
  h.set i v hi (fun j => by
    by_cases e : j = i
    · subst e; rw [if_pos rfl, Array.getElem?_setIfInBounds_self_of_lt hi]
    · rw [if_neg e, Array.getElem?_setIfInBounds_ne (fun c => e c.symm)])
theorem RS.put0 {w W : World} {x1 : Int} (h : RS w W #[.int .i64 0, .int .i64 0, .int .i64 0, .int .i64 0, .int .i64 0, .int .i64 0, .int .i64 0, .int .i64 0, .int .i64 0, .int .i64 0, .int .i64 0]) : RS w (W.setCell ⟨w.heap.size + 1, 0, none⟩ (.int .i64 x1)) #[.int .i64 x1, .int .i64 0, .int .i64 0, .int .i64 0, .int .i64 0, .int .i64 0, .int .i64 0, .int .i64 0, .int .i64 0, .int .i64 0, .int .i64 0] := h.put 0 _ (by simp)
theorem RS.put1 {w W : World} {x1 x2 : Int} (h : RS w W #[.int .i64 x1, .int .i64 0, .int .i64 0, .int .i64 0, .int .i64 0, .int .i64 0, .int .i64 0, .int .i64 0, .int .i64 0, .int .i64 0, .int .i64 0]) : RS w (W.setCell ⟨w.heap.size + 1, 1, none⟩ (.int .i64 x2)) #[.int .i64 x1, .int .i64 x2, .int .i64 0, .int .i64 0, .int .i64 0, .int .i64 0, .int .i64 0, .int .i64 0, .int .i64 0, .int .i64 0, .int .i64 0] := h.put 1 _ (by simp)
theorem RS.put2 {w W : World} {x1 x2 x3 : Int} (h : RS w W #[.int .i64 x1, .int .i64 x2, .int .i64 0, .int .i64 0, .int .i64 0, .int .i64 0, .int .i64 0, .int .i64 0, .int .i64 0, .int .i64 0, .int .i64 0]) : RS w (W.setCell ⟨w.heap.size + 1, 2, none⟩ (.int .i64 x3)) #[.int .i64 x1, .int .i64 x2, .int .i64 x3, .int .i64 0, .int .i64 0, .int .i64 0, .int .i64 0, .int .i64 0, .int .i64 0, .int .i64 0, .int .i64 0] := h.put 2 _ (by simp)
theorem RS.putE {w W : World} {x1 x2 x3 : Int} (k u q a x y z t : Int) (h : RS w W #[.int .i64 x1, .int .i64 x2, .int .i64 x3, .int .i64 0, .int .i64 0, .int .i64 0, .int .i64 0, .int .i64 0, .int .i64 0, .int .i64 0, .int .i64 0]) : RS w ((((((((W.setCell ⟨w.heap.size + 1, 3, none⟩ (.int .i64 k)).setCell ⟨w.heap.size + 1, 4, none⟩ (.int .i64 u)).setCell ⟨w.heap.size + 1, 5, none⟩ (.int .i64 q)).setCell ⟨w.heap.size + 1, 6, none⟩ (.int .i64 a)).setCell ⟨w.heap.size + 1, 7, none⟩ (.int .i64 x)).setCell ⟨w.heap.size + 1, 8, none⟩ (.int .i64 y)).setCell ⟨w.heap.size + 1, 9, none⟩ (.int .i64 z)).setCell ⟨w.heap.size + 1, 10, none⟩ (.int .i64 t)) #[.int .i64 x1, .int .i64 x2, .int .i64 x3, .int .i64 k, .int .i64 u, .int .i64 q, .int .i64 a, .int .i64 x, .int .i64 y, .int .i64 z, .int .i64 t] := by
  have h1 := (((((((h.put 3 (.int .i64 k) (by simp)).put 4 (.int .i64 u) (by simp)).put 5 (.int .i64 q) (by simp)).put 6 (.int .i64 a) (by simp)).put 7 (.int .i64 x) (by simp)).put 8 (.int .i64 y) (by simp)).put 9 (.int .i64 z) (by simp)).put 10 (.int .i64 t) (by simp)
  simpa only [List.setIfInBounds_toArray, List.set_cons_zero, List.set_cons_succ] using h1
set_option maxRecDepth 100000 in
set_option maxHeartbeats 8000000 in
theorem pread1 (s : ByteArray) (er x1 t1 : Int) (w : World) (hg : Gd w)
    (P1 : ∀ w, Gd w → Calls Tryd.prog 46 #[.string s, .int .i64 0] w fun e w' => e = .returned (.tuple #[.int .i64 x1, .int .i64 t1, .int .i64 er]) ∧ Below w.heap.size w w')
    (her : ¬ er = 0) :
    Calls Tryd.prog 30 #[.string s] w fun e w' => e = .returned (.tuple #[.agg #[.int .i64 0, .int .i64 0, .int .i64 0, .int .i64 0, .int .i64 0, .int .i64 0, .int .i64 0, .int .i64 0, .int .i64 0, .int .i64 0, .int .i64 0], .int .i64 0, .bool false]) ∧ Below w.heap.size w w' := by
  have her2 : (er != 0) = true := by simpa using her
  have hR := RS.start hg
  replace P1 := Lib.hid P1
  clear hg
  go_enter Tryd.func30, Tryd.ntmps30
  go_wp2
  refine wp_loop_rounds 4 ?_
  rw [rounds_succ]
  go_wp2_with (go_at_call 46; (with_reducible refine (P1.out _ hR.gr.good).mono ?_); rintro e w1 ⟨rfl, hb⟩; replace hR := hR.step hb; have e0 := hR.b0.cell; have g0 := hR.b0.froz; have e1 := hR.b1.cell; have g1 := hR.b1.froz; have l1 := hR.b1.lt; have e2 := hR.b2.cell; clear hb)
  refine bodyPost_ret (v := .tuple #[.agg #[.int .i64 0, .int .i64 0, .int .i64 0, .int .i64 0, .int .i64 0, .int .i64 0, .int .i64 0, .int .i64 0, .int .i64 0, .int .i64 0, .int .i64 0], .int .i64 0, .bool false]) (by simp [results, Tryd.results30, go_sem, e0]) rfl ⟨rfl, ?_⟩
  repeat (with_reducible refine Below.setCell ?_ (by simp) _)
  with_reducible exact hR.gr.below
set_option maxRecDepth 100000 in
set_option maxHeartbeats 8000000 in
theorem pread2 (s : ByteArray) (er x1 t1 x2 t2 : Int) (w : World) (hg : Gd w)
    (P1 : ∀ w, Gd w → Calls Tryd.prog 46 #[.string s, .int .i64 0] w fun e w' => e = .returned (.tuple #[.int .i64 x1, .int .i64 t1, .int .i64 0]) ∧ Below w.heap.size w w')
    (P2 : ∀ w, Gd w → Calls Tryd.prog 46 #[.string s, .int .i64 t1] w fun e w' => e = .returned (.tuple #[.int .i64 x2, .int .i64 t2, .int .i64 er]) ∧ Below w.heap.size w w')
    (her : ¬ er = 0) :
    Calls Tryd.prog 30 #[.string s] w fun e w' => e = .returned (.tuple #[.agg #[.int .i64 0, .int .i64 0, .int .i64 0, .int .i64 0, .int .i64 0, .int .i64 0, .int .i64 0, .int .i64 0, .int .i64 0, .int .i64 0, .int .i64 0], .int .i64 0, .bool false]) ∧ Below w.heap.size w w' := by
  have her2 : (er != 0) = true := by simpa using her
  have hR := RS.start hg
  replace P1 := Lib.hid P1
  replace P2 := Lib.hid P2
  clear hg
  go_enter Tryd.func30, Tryd.ntmps30
  go_wp2
  refine wp_loop_rounds 4 ?_
  rw [rounds_succ]
  go_wp2_with (go_at_call 46; (with_reducible refine (P1.out _ hR.gr.good).mono ?_); rintro e w1 ⟨rfl, hb⟩; replace hR := hR.step hb; have e0 := hR.b0.cell; have g0 := hR.b0.froz; have e1 := hR.b1.cell; have g1 := hR.b1.froz; have l1 := hR.b1.lt; have e2 := hR.b2.cell; clear hb)
  replace hR := hR.put0 (x1 := x1)
  have e0 := hR.b0.cell; have g0 := hR.b0.froz; have e1 := hR.b1.cell; have g1 := hR.b1.froz; have l1 := hR.b1.lt; have e2 := hR.b2.cell
  rw [rounds_succ]
  go_wp2_with (go_at_call 46; (with_reducible refine (P2.out _ hR.gr.good).mono ?_); rintro e w2 ⟨rfl, hb⟩; replace hR := hR.step hb; have e0 := hR.b0.cell; have g0 := hR.b0.froz; have e1 := hR.b1.cell; have g1 := hR.b1.froz; have l1 := hR.b1.lt; have e2 := hR.b2.cell; clear hb)
  refine bodyPost_ret (v := .tuple #[.agg #[.int .i64 0, .int .i64 0, .int .i64 0, .int .i64 0, .int .i64 0, .int .i64 0, .int .i64 0, .int .i64 0, .int .i64 0, .int .i64 0, .int .i64 0], .int .i64 0, .bool false]) (by simp [results, Tryd.results30, go_sem, e0]) rfl ⟨rfl, ?_⟩
  repeat (with_reducible refine Below.setCell ?_ (by simp) _)
  with_reducible exact hR.gr.below
set_option maxRecDepth 100000 in
set_option maxHeartbeats 8000000 in
theorem pread3 (s : ByteArray) (er x1 t1 x2 t2 x3 t3 : Int) (w : World) (hg : Gd w)
    (P1 : ∀ w, Gd w → Calls Tryd.prog 46 #[.string s, .int .i64 0] w fun e w' => e = .returned (.tuple #[.int .i64 x1, .int .i64 t1, .int .i64 0]) ∧ Below w.heap.size w w')
    (P2 : ∀ w, Gd w → Calls Tryd.prog 46 #[.string s, .int .i64 t1] w fun e w' => e = .returned (.tuple #[.int .i64 x2, .int .i64 t2, .int .i64 0]) ∧ Below w.heap.size w w')
    (P3 : ∀ w, Gd w → Calls Tryd.prog 46 #[.string s, .int .i64 t2] w fun e w' => e = .returned (.tuple #[.int .i64 x3, .int .i64 t3, .int .i64 er]) ∧ Below w.heap.size w w')
    (her : ¬ er = 0) :
    Calls Tryd.prog 30 #[.string s] w fun e w' => e = .returned (.tuple #[.agg #[.int .i64 0, .int .i64 0, .int .i64 0, .int .i64 0, .int .i64 0, .int .i64 0, .int .i64 0, .int .i64 0, .int .i64 0, .int .i64 0, .int .i64 0], .int .i64 0, .bool false]) ∧ Below w.heap.size w w' := by
  have her2 : (er != 0) = true := by simpa using her
  have hR := RS.start hg
  replace P1 := Lib.hid P1
  replace P2 := Lib.hid P2
  replace P3 := Lib.hid P3
  clear hg
  go_enter Tryd.func30, Tryd.ntmps30
  go_wp2
  refine wp_loop_rounds 4 ?_
  rw [rounds_succ]
  go_wp2_with (go_at_call 46; (with_reducible refine (P1.out _ hR.gr.good).mono ?_); rintro e w1 ⟨rfl, hb⟩; replace hR := hR.step hb; have e0 := hR.b0.cell; have g0 := hR.b0.froz; have e1 := hR.b1.cell; have g1 := hR.b1.froz; have l1 := hR.b1.lt; have e2 := hR.b2.cell; clear hb)
  replace hR := hR.put0 (x1 := x1)
  have e0 := hR.b0.cell; have g0 := hR.b0.froz; have e1 := hR.b1.cell; have g1 := hR.b1.froz; have l1 := hR.b1.lt; have e2 := hR.b2.cell
  rw [rounds_succ]
  go_wp2_with (go_at_call 46; (with_reducible refine (P2.out _ hR.gr.good).mono ?_); rintro e w2 ⟨rfl, hb⟩; replace hR := hR.step hb; have e0 := hR.b0.cell; have g0 := hR.b0.froz; have e1 := hR.b1.cell; have g1 := hR.b1.froz; have l1 := hR.b1.lt; have e2 := hR.b2.cell; clear hb)
  replace hR := hR.put1 (x2 := x2)
  have e0 := hR.b0.cell; have g0 := hR.b0.froz; have e1 := hR.b1.cell; have g1 := hR.b1.froz; have l1 := hR.b1.lt; have e2 := hR.b2.cell
  rw [rounds_succ]
  go_wp2_with (go_at_call 46; (with_reducible refine (P3.out _ hR.gr.good).mono ?_); rintro e w3 ⟨rfl, hb⟩; replace hR := hR.step hb; have e0 := hR.b0.cell; have g0 := hR.b0.froz; have e1 := hR.b1.cell; have g1 := hR.b1.froz; have l1 := hR.b1.lt; have e2 := hR.b2.cell; clear hb)
  refine bodyPost_ret (v := .tuple #[.agg #[.int .i64 0, .int .i64 0, .int .i64 0, .int .i64 0, .int .i64 0, .int .i64 0, .int .i64 0, .int .i64 0, .int .i64 0, .int .i64 0, .int .i64 0], .int .i64 0, .bool false]) (by simp [results, Tryd.results30, go_sem, e0]) rfl ⟨rfl, ?_⟩
  repeat (with_reducible refine Below.setCell ?_ (by simp) _)
  with_reducible exact hR.gr.below
set_option maxRecDepth 100000 in
set_option maxHeartbeats 8000000 in
theorem pread4 (s : ByteArray) (er x1 t1 x2 t2 x3 t3 t4 : Int) (tx : ByteArray) (w : World) (hg : Gd w)
    (P1 : ∀ w, Gd w → Calls Tryd.prog 46 #[.string s, .int .i64 0] w fun e w' => e = .returned (.tuple #[.int .i64 x1, .int .i64 t1, .int .i64 0]) ∧ Below w.heap.size w w')
    (P2 : ∀ w, Gd w → Calls Tryd.prog 46 #[.string s, .int .i64 t1] w fun e w' => e = .returned (.tuple #[.int .i64 x2, .int .i64 t2, .int .i64 0]) ∧ Below w.heap.size w w')
    (P3 : ∀ w, Gd w → Calls Tryd.prog 46 #[.string s, .int .i64 t2] w fun e w' => e = .returned (.tuple #[.int .i64 x3, .int .i64 t3, .int .i64 0]) ∧ Below w.heap.size w w')
    (PT : ∀ w, Gd w → Calls Tryd.prog 47 #[.string s, .int .i64 t3] w fun e w' => e = .returned (.tuple #[.string tx, .int .i64 t4, .int .i64 er]) ∧ Below w.heap.size w w')
    (her : ¬ er = 0) :
    Calls Tryd.prog 30 #[.string s] w fun e w' => e = .returned (.tuple #[.agg #[.int .i64 0, .int .i64 0, .int .i64 0, .int .i64 0, .int .i64 0, .int .i64 0, .int .i64 0, .int .i64 0, .int .i64 0, .int .i64 0, .int .i64 0], .int .i64 0, .bool false]) ∧ Below w.heap.size w w' := by
  have her2 : (er != 0) = true := by simpa using her
  have hR := RS.start hg
  replace P1 := Lib.hid P1
  replace P2 := Lib.hid P2
  replace P3 := Lib.hid P3
  replace PT := Lib.hid PT
  clear hg
  go_enter Tryd.func30, Tryd.ntmps30
  go_wp2
  refine wp_loop_rounds 4 ?_
  rw [rounds_succ]
  go_wp2_with (go_at_call 46; (with_reducible refine (P1.out _ hR.gr.good).mono ?_); rintro e w1 ⟨rfl, hb⟩; replace hR := hR.step hb; have e0 := hR.b0.cell; have g0 := hR.b0.froz; have e1 := hR.b1.cell; have g1 := hR.b1.froz; have l1 := hR.b1.lt; have e2 := hR.b2.cell; clear hb)
  replace hR := hR.put0 (x1 := x1)
  have e0 := hR.b0.cell; have g0 := hR.b0.froz; have e1 := hR.b1.cell; have g1 := hR.b1.froz; have l1 := hR.b1.lt; have e2 := hR.b2.cell
  rw [rounds_succ]
  go_wp2_with (go_at_call 46; (with_reducible refine (P2.out _ hR.gr.good).mono ?_); rintro e w2 ⟨rfl, hb⟩; replace hR := hR.step hb; have e0 := hR.b0.cell; have g0 := hR.b0.froz; have e1 := hR.b1.cell; have g1 := hR.b1.froz; have l1 := hR.b1.lt; have e2 := hR.b2.cell; clear hb)
  replace hR := hR.put1 (x2 := x2)
  have e0 := hR.b0.cell; have g0 := hR.b0.froz; have e1 := hR.b1.cell; have g1 := hR.b1.froz; have l1 := hR.b1.lt; have e2 := hR.b2.cell
  rw [rounds_succ]
  go_wp2_with (go_at_call 46; (with_reducible refine (P3.out _ hR.gr.good).mono ?_); rintro e w3 ⟨rfl, hb⟩; replace hR := hR.step hb; have e0 := hR.b0.cell; have g0 := hR.b0.froz; have e1 := hR.b1.cell; have g1 := hR.b1.froz; have l1 := hR.b1.lt; have e2 := hR.b2.cell; clear hb)
  replace hR := hR.put2 (x3 := x3)
  have e0 := hR.b0.cell; have g0 := hR.b0.froz; have e1 := hR.b1.cell; have g1 := hR.b1.froz; have l1 := hR.b1.lt; have e2 := hR.b2.cell
  rw [rounds_succ]
  go_wp2_with (first
    | (go_at_call 47; (with_reducible refine (PT.out _ hR.gr.good).mono ?_); rintro e w4 ⟨rfl, hb⟩; replace hR := hR.step hb; have e0 := hR.b0.cell; have g0 := hR.b0.froz; have e1 := hR.b1.cell; have g1 := hR.b1.froz; have l1 := hR.b1.lt; have e2 := hR.b2.cell; clear hb))
  refine bodyPost_ret (v := .tuple #[.agg #[.int .i64 0, .int .i64 0, .int .i64 0, .int .i64 0, .int .i64 0, .int .i64 0, .int .i64 0, .int .i64 0, .int .i64 0, .int .i64 0, .int .i64 0], .int .i64 0, .bool false]) (by simp [results, Tryd.results30, go_sem, e0]) rfl ⟨rfl, ?_⟩
  repeat (with_reducible refine Below.setCell ?_ (by simp) _)
  with_reducible exact hR.gr.below
set_option maxRecDepth 100000 in
set_option maxHeartbeats 8000000 in
theorem pread5 (s : ByteArray) (x1 t1 x2 t2 x3 t3 t4 k u q a x y z t : Int) (tx : ByteArray) (w : World) (hg : Gd w)
    (P1 : ∀ w, Gd w → Calls Tryd.prog 46 #[.string s, .int .i64 0] w fun e w' => e = .returned (.tuple #[.int .i64 x1, .int .i64 t1, .int .i64 0]) ∧ Below w.heap.size w w')
    (P2 : ∀ w, Gd w → Calls Tryd.prog 46 #[.string s, .int .i64 t1] w fun e w' => e = .returned (.tuple #[.int .i64 x2, .int .i64 t2, .int .i64 0]) ∧ Below w.heap.size w w')
    (P3 : ∀ w, Gd w → Calls Tryd.prog 46 #[.string s, .int .i64 t2] w fun e w' => e = .returned (.tuple #[.int .i64 x3, .int .i64 t3, .int .i64 0]) ∧ Below w.heap.size w w')
    (PT : ∀ w, Gd w → Calls Tryd.prog 47 #[.string s, .int .i64 t3] w fun e w' => e = .returned (.tuple #[.string tx, .int .i64 t4, .int .i64 0]) ∧ Below w.heap.size w w')
    (PE : ∀ w, Gd w → Calls Tryd.prog 48 #[.string tx] w fun e w' => e = .returned (.tuple #[.agg #[.int .i64 k, .int .i64 u, .int .i64 q, .int .i64 a, .int .i64 x, .int .i64 y, .int .i64 z, .int .i64 t], .int .i64 700]) ∧ Below w.heap.size w w') :
    Calls Tryd.prog 30 #[.string s] w fun e w' => e = .returned (.tuple #[.agg #[.int .i64 0, .int .i64 0, .int .i64 0, .int .i64 0, .int .i64 0, .int .i64 0, .int .i64 0, .int .i64 0, .int .i64 0, .int .i64 0, .int .i64 0], .int .i64 0, .bool false]) ∧ Below w.heap.size w w' := by
  have hR := RS.start hg
  replace P1 := Lib.hid P1
  replace P2 := Lib.hid P2
  replace P3 := Lib.hid P3
  replace PT := Lib.hid PT
  replace PE := Lib.hid PE
  clear hg
  go_enter Tryd.func30, Tryd.ntmps30
  go_wp2
  refine wp_loop_rounds 4 ?_
  rw [rounds_succ]
  go_wp2_with (go_at_call 46; (with_reducible refine (P1.out _ hR.gr.good).mono ?_); rintro e w1 ⟨rfl, hb⟩; replace hR := hR.step hb; have e0 := hR.b0.cell; have g0 := hR.b0.froz; have e1 := hR.b1.cell; have g1 := hR.b1.froz; have l1 := hR.b1.lt; have e2 := hR.b2.cell; clear hb)
  replace hR := hR.put0 (x1 := x1)
  have e0 := hR.b0.cell; have g0 := hR.b0.froz; have e1 := hR.b1.cell; have g1 := hR.b1.froz; have l1 := hR.b1.lt; have e2 := hR.b2.cell
  rw [rounds_succ]
  go_wp2_with (go_at_call 46; (with_reducible refine (P2.out _ hR.gr.good).mono ?_); rintro e w2 ⟨rfl, hb⟩; replace hR := hR.step hb; have e0 := hR.b0.cell; have g0 := hR.b0.froz; have e1 := hR.b1.cell; have g1 := hR.b1.froz; have l1 := hR.b1.lt; have e2 := hR.b2.cell; clear hb)
  replace hR := hR.put1 (x2 := x2)
  have e0 := hR.b0.cell; have g0 := hR.b0.froz; have e1 := hR.b1.cell; have g1 := hR.b1.froz; have l1 := hR.b1.lt; have e2 := hR.b2.cell
  rw [rounds_succ]
  go_wp2_with (go_at_call 46; (with_reducible refine (P3.out _ hR.gr.good).mono ?_); rintro e w3 ⟨rfl, hb⟩; replace hR := hR.step hb; have e0 := hR.b0.cell; have g0 := hR.b0.froz; have e1 := hR.b1.cell; have g1 := hR.b1.froz; have l1 := hR.b1.lt; have e2 := hR.b2.cell; clear hb)
  replace hR := hR.put2 (x3 := x3)
  have e0 := hR.b0.cell; have g0 := hR.b0.froz; have e1 := hR.b1.cell; have g1 := hR.b1.froz; have l1 := hR.b1.lt; have e2 := hR.b2.cell
  rw [rounds_succ]
  go_wp2_with (first
    | (go_at_call 47; (with_reducible refine (PT.out _ hR.gr.good).mono ?_); rintro e w4 ⟨rfl, hb⟩; replace hR := hR.step hb; have e0 := hR.b0.cell; have g0 := hR.b0.froz; have e1 := hR.b1.cell; have g1 := hR.b1.froz; have l1 := hR.b1.lt; have e2 := hR.b2.cell; clear hb)
    | (go_at_call 48; (with_reducible refine (PE.out _ hR.gr.good).mono ?_); rintro e w5 ⟨rfl, hb⟩; replace hR := hR.step hb; have e0 := hR.b0.cell; have g0 := hR.b0.froz; have e1 := hR.b1.cell; have g1 := hR.b1.froz; have l1 := hR.b1.lt; have e2 := hR.b2.cell; clear hb))
  refine bodyPost_ret (v := .tuple #[.agg #[.int .i64 0, .int .i64 0, .int .i64 0, .int .i64 0, .int .i64 0, .int .i64 0, .int .i64 0, .int .i64 0, .int .i64 0, .int .i64 0, .int .i64 0], .int .i64 0, .bool false]) (by simp [results, Tryd.results30, go_sem, e0]) rfl ⟨rfl, ?_⟩
  repeat (with_reducible refine Below.setCell ?_ (by simp) _)
  with_reducible exact hR.gr.below
set_option maxRecDepth 100000 in
set_option maxHeartbeats 8000000 in
theorem pread6 (s : ByteArray) (er x1 t1 x2 t2 x3 t3 t4 k u q a x y z t x6 t6 : Int) (tx : ByteArray) (w : World) (hg : Gd w)
    (P1 : ∀ w, Gd w → Calls Tryd.prog 46 #[.string s, .int .i64 0] w fun e w' => e = .returned (.tuple #[.int .i64 x1, .int .i64 t1, .int .i64 0]) ∧ Below w.heap.size w w')
    (P2 : ∀ w, Gd w → Calls Tryd.prog 46 #[.string s, .int .i64 t1] w fun e w' => e = .returned (.tuple #[.int .i64 x2, .int .i64 t2, .int .i64 0]) ∧ Below w.heap.size w w')
    (P3 : ∀ w, Gd w → Calls Tryd.prog 46 #[.string s, .int .i64 t2] w fun e w' => e = .returned (.tuple #[.int .i64 x3, .int .i64 t3, .int .i64 0]) ∧ Below w.heap.size w w')
    (PT : ∀ w, Gd w → Calls Tryd.prog 47 #[.string s, .int .i64 t3] w fun e w' => e = .returned (.tuple #[.string tx, .int .i64 t4, .int .i64 0]) ∧ Below w.heap.size w w')
    (PE : ∀ w, Gd w → Calls Tryd.prog 48 #[.string tx] w fun e w' => e = .returned (.tuple #[.agg #[.int .i64 k, .int .i64 u, .int .i64 q, .int .i64 a, .int .i64 x, .int .i64 y, .int .i64 z, .int .i64 t], .int .i64 0]) ∧ Below w.heap.size w w')
    (P6 : ∀ w, Gd w → Calls Tryd.prog 46 #[.string s, .int .i64 t4] w fun e w' => e = .returned (.tuple #[.int .i64 x6, .int .i64 t6, .int .i64 er]) ∧ Below w.heap.size w w')
    (her : ¬ er = 0) :
    Calls Tryd.prog 30 #[.string s] w fun e w' => e = .returned (.tuple #[.agg #[.int .i64 0, .int .i64 0, .int .i64 0, .int .i64 0, .int .i64 0, .int .i64 0, .int .i64 0, .int .i64 0, .int .i64 0, .int .i64 0, .int .i64 0], .int .i64 0, .bool false]) ∧ Below w.heap.size w w' := by
  have her2 : (er != 0) = true := by simpa using her
  have hR := RS.start hg
  replace P1 := Lib.hid P1
  replace P2 := Lib.hid P2
  replace P3 := Lib.hid P3
  replace PT := Lib.hid PT
  replace PE := Lib.hid PE
  replace P6 := Lib.hid P6
  clear hg
  go_enter Tryd.func30, Tryd.ntmps30
  go_wp2
  refine wp_loop_rounds 4 ?_
  rw [rounds_succ]
  go_wp2_with (go_at_call 46; (with_reducible refine (P1.out _ hR.gr.good).mono ?_); rintro e w1 ⟨rfl, hb⟩; replace hR := hR.step hb; have e0 := hR.b0.cell; have g0 := hR.b0.froz; have e1 := hR.b1.cell; have g1 := hR.b1.froz; have l1 := hR.b1.lt; have e2 := hR.b2.cell; clear hb)
  replace hR := hR.put0 (x1 := x1)
  have e0 := hR.b0.cell; have g0 := hR.b0.froz; have e1 := hR.b1.cell; have g1 := hR.b1.froz; have l1 := hR.b1.lt; have e2 := hR.b2.cell
  rw [rounds_succ]
  go_wp2_with (go_at_call 46; (with_reducible refine (P2.out _ hR.gr.good).mono ?_); rintro e w2 ⟨rfl, hb⟩; replace hR := hR.step hb; have e0 := hR.b0.cell; have g0 := hR.b0.froz; have e1 := hR.b1.cell; have g1 := hR.b1.froz; have l1 := hR.b1.lt; have e2 := hR.b2.cell; clear hb)
  replace hR := hR.put1 (x2 := x2)
  have e0 := hR.b0.cell; have g0 := hR.b0.froz; have e1 := hR.b1.cell; have g1 := hR.b1.froz; have l1 := hR.b1.lt; have e2 := hR.b2.cell
  rw [rounds_succ]
  go_wp2_with (go_at_call 46; (with_reducible refine (P3.out _ hR.gr.good).mono ?_); rintro e w3 ⟨rfl, hb⟩; replace hR := hR.step hb; have e0 := hR.b0.cell; have g0 := hR.b0.froz; have e1 := hR.b1.cell; have g1 := hR.b1.froz; have l1 := hR.b1.lt; have e2 := hR.b2.cell; clear hb)
  replace hR := hR.put2 (x3 := x3)
  have e0 := hR.b0.cell; have g0 := hR.b0.froz; have e1 := hR.b1.cell; have g1 := hR.b1.froz; have l1 := hR.b1.lt; have e2 := hR.b2.cell
  rw [rounds_succ]
  go_wp2_with (first
    | (go_at_call 47; (with_reducible refine (PT.out _ hR.gr.good).mono ?_); rintro e w4 ⟨rfl, hb⟩; replace hR := hR.step hb; have e0 := hR.b0.cell; have g0 := hR.b0.froz; have e1 := hR.b1.cell; have g1 := hR.b1.froz; have l1 := hR.b1.lt; have e2 := hR.b2.cell; clear hb)
    | (go_at_call 48; (with_reducible refine (PE.out _ hR.gr.good).mono ?_); rintro e w5 ⟨rfl, hb⟩; replace hR := hR.step hb; have e0 := hR.b0.cell; have g0 := hR.b0.froz; have e1 := hR.b1.cell; have g1 := hR.b1.froz; have l1 := hR.b1.lt; have e2 := hR.b2.cell; clear hb)
    | (go_at_call 46; (with_reducible refine (P6.out _ (hR.putE k u q a x y z t).gr.good).mono ?_); rintro e w6 ⟨rfl, hb⟩; replace hR := (hR.putE k u q a x y z t).step hb; have e0 := hR.b0.cell; have g0 := hR.b0.froz; have e1 := hR.b1.cell; have g1 := hR.b1.froz; have l1 := hR.b1.lt; have e2 := hR.b2.cell; clear hb))
  refine bodyPost_ret (v := .tuple #[.agg #[.int .i64 0, .int .i64 0, .int .i64 0, .int .i64 0, .int .i64 0, .int .i64 0, .int .i64 0, .int .i64 0, .int .i64 0, .int .i64 0, .int .i64 0], .int .i64 0, .bool false]) (by simp [results, Tryd.results30, go_sem, e0]) rfl ⟨rfl, ?_⟩
  repeat (with_reducible refine Below.setCell ?_ (by simp) _)
  with_reducible exact hR.gr.below
set_option maxRecDepth 100000 in
set_option maxHeartbeats 8000000 in
theorem pread7 (s : ByteArray) (x1 t1 x2 t2 x3 t3 t4 k u q a x y z t x6 t6 : Int) (tx : ByteArray) (w : World) (hg : Gd w)
    (P1 : ∀ w, Gd w → Calls Tryd.prog 46 #[.string s, .int .i64 0] w fun e w' => e = .returned (.tuple #[.int .i64 x1, .int .i64 t1, .int .i64 0]) ∧ Below w.heap.size w w')
    (P2 : ∀ w, Gd w → Calls Tryd.prog 46 #[.string s, .int .i64 t1] w fun e w' => e = .returned (.tuple #[.int .i64 x2, .int .i64 t2, .int .i64 0]) ∧ Below w.heap.size w w')
    (P3 : ∀ w, Gd w → Calls Tryd.prog 46 #[.string s, .int .i64 t2] w fun e w' => e = .returned (.tuple #[.int .i64 x3, .int .i64 t3, .int .i64 0]) ∧ Below w.heap.size w w')
    (PT : ∀ w, Gd w → Calls Tryd.prog 47 #[.string s, .int .i64 t3] w fun e w' => e = .returned (.tuple #[.string tx, .int .i64 t4, .int .i64 0]) ∧ Below w.heap.size w w')
    (PE : ∀ w, Gd w → Calls Tryd.prog 48 #[.string tx] w fun e w' => e = .returned (.tuple #[.agg #[.int .i64 k, .int .i64 u, .int .i64 q, .int .i64 a, .int .i64 x, .int .i64 y, .int .i64 z, .int .i64 t], .int .i64 0]) ∧ Below w.heap.size w w')
    (P6 : ∀ w, Gd w → Calls Tryd.prog 46 #[.string s, .int .i64 t4] w fun e w' => e = .returned (.tuple #[.int .i64 x6, .int .i64 t6, .int .i64 0]) ∧ Below w.heap.size w w') :
    Calls Tryd.prog 30 #[.string s] w fun e w' => e = .returned (.tuple #[.agg #[.int .i64 x1, .int .i64 x2, .int .i64 x3, .int .i64 k, .int .i64 u, .int .i64 q, .int .i64 a, .int .i64 x, .int .i64 y, .int .i64 z, .int .i64 t], .int .i64 x6, .bool true]) ∧ Below w.heap.size w w' := by
  have hR := RS.start hg
  replace P1 := Lib.hid P1
  replace P2 := Lib.hid P2
  replace P3 := Lib.hid P3
  replace PT := Lib.hid PT
  replace PE := Lib.hid PE
  replace P6 := Lib.hid P6
  clear hg
  go_enter Tryd.func30, Tryd.ntmps30
  go_wp2
  refine wp_loop_rounds 4 ?_
  rw [rounds_succ]
  go_wp2_with (go_at_call 46; (with_reducible refine (P1.out _ hR.gr.good).mono ?_); rintro e w1 ⟨rfl, hb⟩; replace hR := hR.step hb; have e0 := hR.b0.cell; have g0 := hR.b0.froz; have e1 := hR.b1.cell; have g1 := hR.b1.froz; have l1 := hR.b1.lt; have e2 := hR.b2.cell; clear hb)
  replace hR := hR.put0 (x1 := x1)
  have e0 := hR.b0.cell; have g0 := hR.b0.froz; have e1 := hR.b1.cell; have g1 := hR.b1.froz; have l1 := hR.b1.lt; have e2 := hR.b2.cell
  rw [rounds_succ]
  go_wp2_with (go_at_call 46; (with_reducible refine (P2.out _ hR.gr.good).mono ?_); rintro e w2 ⟨rfl, hb⟩; replace hR := hR.step hb; have e0 := hR.b0.cell; have g0 := hR.b0.froz; have e1 := hR.b1.cell; have g1 := hR.b1.froz; have l1 := hR.b1.lt; have e2 := hR.b2.cell; clear hb)
  replace hR := hR.put1 (x2 := x2)
  have e0 := hR.b0.cell; have g0 := hR.b0.froz; have e1 := hR.b1.cell; have g1 := hR.b1.froz; have l1 := hR.b1.lt; have e2 := hR.b2.cell
  rw [rounds_succ]
  go_wp2_with (go_at_call 46; (with_reducible refine (P3.out _ hR.gr.good).mono ?_); rintro e w3 ⟨rfl, hb⟩; replace hR := hR.step hb; have e0 := hR.b0.cell; have g0 := hR.b0.froz; have e1 := hR.b1.cell; have g1 := hR.b1.froz; have l1 := hR.b1.lt; have e2 := hR.b2.cell; clear hb)
  replace hR := hR.put2 (x3 := x3)
  have e0 := hR.b0.cell; have g0 := hR.b0.froz; have e1 := hR.b1.cell; have g1 := hR.b1.froz; have l1 := hR.b1.lt; have e2 := hR.b2.cell
  rw [rounds_succ]
  go_wp2_with (first
    | (go_at_call 47; (with_reducible refine (PT.out _ hR.gr.good).mono ?_); rintro e w4 ⟨rfl, hb⟩; replace hR := hR.step hb; have e0 := hR.b0.cell; have g0 := hR.b0.froz; have e1 := hR.b1.cell; have g1 := hR.b1.froz; have l1 := hR.b1.lt; have e2 := hR.b2.cell; clear hb)
    | (go_at_call 48; (with_reducible refine (PE.out _ hR.gr.good).mono ?_); rintro e w5 ⟨rfl, hb⟩; replace hR := hR.step hb; have e0 := hR.b0.cell; have g0 := hR.b0.froz; have e1 := hR.b1.cell; have g1 := hR.b1.froz; have l1 := hR.b1.lt; have e2 := hR.b2.cell; clear hb)
    | (go_at_call 46; (with_reducible refine (P6.out _ (hR.putE k u q a x y z t).gr.good).mono ?_); rintro e w6 ⟨rfl, hb⟩; replace hR := (hR.putE k u q a x y z t).step hb; have e0 := hR.b0.cell; have g0 := hR.b0.froz; have e1 := hR.b1.cell; have g1 := hR.b1.froz; have l1 := hR.b1.lt; have e2 := hR.b2.cell; clear hb))
  refine bodyPost_ret (v := .tuple #[.agg #[.int .i64 x1, .int .i64 x2, .int .i64 x3, .int .i64 k, .int .i64 u, .int .i64 q, .int .i64 a, .int .i64 x, .int .i64 y, .int .i64 z, .int .i64 t], .int .i64 x6, .bool true]) (by simp [results, Tryd.results30, go_sem, e0]) rfl ⟨rfl, ?_⟩
  repeat (with_reducible refine Below.setCell ?_ (by simp) _)
  with_reducible exact hR.gr.below
end Go.Proofs.YtkccbeepdgafcaaDoor

namespace Go.Proofs.YtkccbeepdgafcaaDoor
open Go Go.RowKit

/-- The record and the number that stand in s, whether or not it is such a sector. -/
def rdP (s : ByteArray) : Option (Rc × Int) :=
  if getE s 0 = 0 then
    if getE s (getTo s 0) = 0 then
      if getE s (getTo s (getTo s 0)) = 0 then
        if txtE s (getTo s (getTo s (getTo s 0))) = 0 then
          match Ev.get (txtS s (getTo s (getTo s (getTo s 0)))) with
          | some v => if getE s (txtTo s (getTo s (getTo s (getTo s 0)))) = 0 then some (⟨getX s 0, getX s (getTo s 0), getX s (getTo s (getTo s 0)), v⟩, getX s (txtTo s (getTo s (getTo s (getTo s 0))))) else none
          | none => none
        else none
      else none
    else none
  else none
theorem rdP_of {s : ByteArray} {r : Rc} {own : Int} (h : rcRd s = some (r, own)) : rdP s = some (r, own) := by
  unfold rcRd at h
  unfold rdP
  by_cases e1 : getE s 0 = 0
  · by_cases e2 : getE s (getTo s 0) = 0
    · by_cases e3 : getE s (getTo s (getTo s 0)) = 0
      · by_cases e4 : txtE s (getTo s (getTo s (getTo s 0))) = 0
        · by_cases e5 : getE s (txtTo s (getTo s (getTo s (getTo s 0)))) = 0
          · simp only [rdL, if_pos e1, if_pos e2, if_pos e3, if_pos e4, if_pos e5, Option.map_some, Option.bind_some, rcMk] at h
            rw [if_pos e1, if_pos e2, if_pos e3, if_pos e4]
            cases hv : Ev.get (txtS s (getTo s (getTo s (getTo s 0)))) with
            | none => rw [hv] at h; cases h
            | some v =>
              rw [hv] at h
              simp only at h ⊢
              rw [if_pos e5]
              split at h
              · exact h
              · cases h
          · simp only [rdL, if_pos e1, if_pos e2, if_pos e3, if_pos e4, if_neg e5, Option.map_none, Option.bind_none] at h; cases h
        · simp only [rdL, if_pos e1, if_pos e2, if_pos e3, if_neg e4, Option.map_none, Option.bind_none] at h; cases h
      · simp only [rdL, if_pos e1, if_pos e2, if_neg e3, Option.map_none, Option.bind_none] at h; cases h
    · simp only [rdL, if_pos e1, if_neg e2, Option.map_none, Option.bind_none] at h; cases h
  · simp only [rdL, if_neg e1, Option.bind_none] at h; cases h
theorem rdP_num {s : ByteArray} {r : Rc} {own : Int} (h : rdP s = some (r, own)) : okNum own = true := by
  unfold rdP at h
  split at h
  · split at h
    · split at h
      · split at h
        · split at h
          · split at h
            · rename_i e5
              obtain ⟨b0, b1, _⟩ := get_bd e5
              simp only [Option.some.injEq, Prod.mk.injEq] at h
              rw [← h.2]
              exact (okNum_iff _).2 ⟨b0, b1⟩
            · cases h
          · cases h
        · cases h
      · cases h
    · cases h
  · cases h
/-- What is found, by what is read: it may be, its name is its own hash's, and it is put so. -/
theorem find_P (ts : List ByteArray) (s : ByteArray) : rcFind ts s = (rdP s).bind fun x => if x.1.may && ckI ts true x.1.tm x.2 && decide (x.1.sec x.2 = s) then some x else none := by
  cases hp : rdP s with
  | none =>
    cases hf : rcFind ts s with
    | none => rfl
    | some y =>
      obtain ⟨r, own⟩ := y
      obtain ⟨a, b, c, _⟩ := (rcFind_iff ts s r own).1 hf
      have := rdP_of (c ▸ rcRd_back r own a b)
      rw [hp] at this; cases this
  | some x =>
    obtain ⟨r, own⟩ := x
    show _ = if r.may && ckI ts true r.tm own && decide (r.sec own = s) then some (r, own) else none
    split
    · rename_i hc
      simp only [Bool.and_eq_true, decide_eq_true_eq] at hc
      exact (rcFind_iff ts s r own).2 ⟨hc.1.1, rdP_num hp, hc.2.symm, hc.1.2⟩
    · rename_i hc
      cases hf : rcFind ts s with
      | none => rfl
      | some y =>
        obtain ⟨q, o⟩ := y
        obtain ⟨a, b, c, d⟩ := (rcFind_iff ts s q o).1 hf
        have := rdP_of (c ▸ rcRd_back q o a b)
        rw [hp] at this
        cases this
        refine absurd ?_ hc
        simp only [Bool.and_eq_true, decide_eq_true_eq]
        exact ⟨⟨a, d⟩, c.symm⟩
theorem fgetE {s : ByteArray} {a : Int} (e : getE s a = 0) (hs : s.size ≤ 9223372036854770000) (ha0 : -9223372036854775808 ≤ a) (ha1 : a ≤ 9223372036854775807) (w : World) (hg : Gd w) :
    Calls Tryd.prog 46 #[.string s, .int .i64 a] w fun e w' => e = .returned (.tuple #[.int .i64 (getX s a), .int .i64 (getTo s a), .int .i64 0]) ∧ Below w.heap.size w w' := by
  have := fget s a w hs ha0 ha1 hg
  rw [e] at this
  exact this
theorem fgettE {s : ByteArray} {a : Int} (e : txtE s a = 0) (hs : s.size ≤ 9223372036854770000) (ha0 : -9223372036854775808 ≤ a) (ha1 : a ≤ 9223372036854775807) (w : World) (hg : Gd w) :
    Calls Tryd.prog 47 #[.string s, .int .i64 a] w fun e w' => e = .returned (.tuple #[.string (txtS s a), .int .i64 (txtTo s a), .int .i64 0]) ∧ Below w.heap.size w w' := by
  have := fgett s a w hs ha0 ha1 hg
  rw [e] at this
  exact this
def rdV (s : ByteArray) : Ending := match rdP s with
  | some x => .returned (.tuple #[x.1.val, .int .i64 x.2, .bool true])
  | none => .returned (.tuple #[Rc.zero.val, .int .i64 0, .bool false])
theorem pread (s : ByteArray) (w : World) (hs : s.size ≤ 9223372036854770000) (hg : Gd w) : Calls Tryd.prog 30 #[.string s] w fun e w' => e = rdV s ∧ Below w.heap.size w w' := by
  have hN : rdP s = none → rdV s = .returned (.tuple #[.agg #[.int .i64 0, .int .i64 0, .int .i64 0, .int .i64 0, .int .i64 0, .int .i64 0, .int .i64 0, .int .i64 0, .int .i64 0, .int .i64 0, .int .i64 0], .int .i64 0, .bool false]) := fun h => by unfold rdV; rw [h]; rfl
  by_cases e1 : getE s 0 = 0
  · obtain ⟨_, _, b2, b3, b4⟩ := get_bd e1
    by_cases e2 : getE s (getTo s 0) = 0
    · obtain ⟨_, _, c2, c3, c4⟩ := get_bd e2
      by_cases e3 : getE s (getTo s (getTo s 0)) = 0
      · obtain ⟨_, _, d2, d3, d4⟩ := get_bd e3
        by_cases e4 : txtE s (getTo s (getTo s (getTo s 0))) = 0
        · obtain ⟨m, hm⟩ : ∃ m : Nat, getTo s (getTo s (getTo s 0)) = m := ⟨(getTo s (getTo s (getTo s 0))).toNat, by omega⟩
          have e4' := e4
          rw [hm] at e4'
          obtain ⟨m2, hm2, f1, f2, f3, _⟩ := txt_back e4'
          rw [← hm] at hm2 f3
          have hsz : (txtS s (getTo s (getTo s (getTo s 0)))).size ≤ 9223372036854770000 := by omega
          have PE := fun w hg => epget (txtS s (getTo s (getTo s (getTo s 0)))) w hsz hg
          cases hv : Ev.get (txtS s (getTo s (getTo s (getTo s 0)))) with
          | none =>
            rw [hN (by unfold rdP; rw [if_pos e1, if_pos e2, if_pos e3, if_pos e4, hv])]
            rw [show Ev.getE (txtS s (getTo s (getTo s (getTo s 0)))) = 700 by unfold Ev.getE; rw [hv]; rfl] at PE
            exact pread5 s _ _ _ _ _ _ _ _ _ _ _ _ _ _ _ _ w hg (fgetE e1 hs (by omega) (by omega)) (fgetE e2 hs (by omega) (by omega)) (fgetE e3 hs (by omega) (by omega)) (fgettE e4 hs (by omega) (by omega)) PE
          | some v =>
            rw [show Ev.getE (txtS s (getTo s (getTo s (getTo s 0)))) = 0 by unfold Ev.getE; rw [hv]; rfl, show Ev.getP (txtS s (getTo s (getTo s (getTo s 0)))) = v by unfold Ev.getP; rw [hv]; rfl] at PE
            by_cases e5 : getE s (txtTo s (getTo s (getTo s (getTo s 0)))) = 0
            · rw [show rdV s = .returned (.tuple #[(Rc.mk (getX s 0) (getX s (getTo s 0)) (getX s (getTo s (getTo s 0))) v).val, .int .i64 (getX s (txtTo s (getTo s (getTo s (getTo s 0))))), .bool true]) by unfold rdV rdP; rw [if_pos e1, if_pos e2, if_pos e3, if_pos e4, hv]; simp only; rw [if_pos e5]]
              obtain ⟨k, u, q, a, x, y, z, t⟩ := v
              exact pread7 s _ _ _ _ _ _ _ _ _ _ _ _ _ _ _ _ _ _ w hg (fgetE e1 hs (by omega) (by omega)) (fgetE e2 hs (by omega) (by omega)) (fgetE e3 hs (by omega) (by omega)) (fgettE e4 hs (by omega) (by omega)) PE (fgetE e5 hs (by omega) (by omega))
            · rw [hN (by unfold rdP; rw [if_pos e1, if_pos e2, if_pos e3, if_pos e4, hv]; simp only; rw [if_neg e5])]
              obtain ⟨k, u, q, a, x, y, z, t⟩ := v
              exact pread6 s _ _ _ _ _ _ _ _ _ _ _ _ _ _ _ _ _ _ _ w hg (fgetE e1 hs (by omega) (by omega)) (fgetE e2 hs (by omega) (by omega)) (fgetE e3 hs (by omega) (by omega)) (fgettE e4 hs (by omega) (by omega)) PE (fun w hg => fget s _ w hs (by omega) (by omega) hg) e5
        · rw [hN (by unfold rdP; rw [if_pos e1, if_pos e2, if_pos e3, if_neg e4])]
          exact pread4 s _ _ _ _ _ _ _ _ _ w hg (fgetE e1 hs (by omega) (by omega)) (fgetE e2 hs (by omega) (by omega)) (fgetE e3 hs (by omega) (by omega)) (fun w hg => fgett s _ w hs (by omega) (by omega) hg) e4
      · rw [hN (by unfold rdP; rw [if_pos e1, if_pos e2, if_neg e3])]
        exact pread3 s _ _ _ _ _ _ _ w hg (fgetE e1 hs (by omega) (by omega)) (fgetE e2 hs (by omega) (by omega)) (fun w hg => fget s _ w hs (by omega) (by omega) hg) e3
    · rw [hN (by unfold rdP; rw [if_pos e1, if_neg e2])]
      exact pread2 s _ _ _ _ _ w hg (fgetE e1 hs (by omega) (by omega)) (fun w hg => fget s _ w hs (by omega) (by omega) hg) e2
  · rw [hN (by unfold rdP; rw [if_neg e1])]
    exact pread1 s _ _ _ w hg (fun w hg => fget s 0 w hs (by omega) (by omega) hg) e1
end Go.Proofs.YtkccbeepdgafcaaDoor

namespace Go.Proofs.YtkccbeepdgafcaaDoor
open Go Go.RowKit

theorem Becomes.op2G {P : Program} {A A' B B2 : Ass} {f : FuncId} {args : Array Value} {v : Ending} (hd : DoesG P A f args v A') (hB : B.Good) (hB2 : B2.Good) {F : List Nat} {w w1 : World} (h : Becomes F (B.star (B2.star A)) w w1) (hg : Gd w1) : Calls P f args w1 fun e w' => e = v ∧ Becomes F (B.star (B2.star A')) w w' := by
  obtain ⟨F', ⟨F1, _, rfl, h1, ⟨F2, F3, rfl, h2, h3, h5⟩, h4⟩, g2, g3⟩ := h
  refine (hd w1 F3 h3 hg).mono ?_
  rintro e w' ⟨he, hk⟩
  obtain ⟨F4, k1, k2, k3⟩ := (hk.frameR hB2 h2 h5).frameR hB h1 h4
  refine ⟨he, F4, k1, g2.trans k2 g3, fun k hk => ?_⟩
  rcases k3 k hk with c | c
  · exact g3 k c
  · exact .inr (Nat.le_trans g2.size c)
theorem putA_good (p q : Nat) (most : Int) (ts : List ByteArray) : (putA p q most ts).Good := (ownA_good _ _ _).star (bookA_good _ _ _)
/-- write in Put: what it answers and leaves. -/
theorem pwrite_put (p q : Nat) (most : Int) (ts : List ByteArray) (r : Rc) (hl : ts.length ≤ 1000000) :
    DoesG Tryd.prog (putA p q most ts) 21 #[r.val, .func (.func 22) #[] #[.pointer (some ⟨q, 0, none⟩)]] (.returned (.tuple #[.string (rcS most ts r), .int .i64 (rcN most ts r), .bool (rcOk most ts r)])) (putA p q most (rcT most ts r)) := by
  cases hm : r.may with
  | false =>
    have ho : rcOk most ts r = false := by unfold rcOk; rw [hm]; rfl
    intro w F h hg
    have hT : rcT most ts r = ts := by unfold rcT; rw [hm]; rfl
    rw [hT, ho, show rcS most ts r = ⟨#[]⟩ by unfold rcS; rw [ho]; rfl, show rcN most ts r = 0 by unfold rcN; rw [ho]; rfl]
    exact (pwrite_no_put q r hm w).mono fun e w' ⟨a, b⟩ => ⟨a, Becomes.same (putA_good _ _ _ _) h b⟩
  | true =>
    have hd := (pput1 p q most ts (markR ++ r.body) (Nat.le_trans r.mark_size (by decide))).g
    have hT : rcT most ts r = nmT most ts r.tm := by unfold rcT; rw [hm]; rfl
    obtain ⟨n0, n1⟩ := nmX_bd most ts r.tm
    rw [show okK none = true from rfl, show tmK cH none (markR ++ r.body) = r.tm from rfl, show ckT most ts true r.tm = nmT most ts r.tm from rfl] at hd
    rw [hT]
    by_cases e : nmE most ts r.tm = 0
    · have ho : rcOk most ts r = true := by unfold rcOk; rw [hm, e]; rfl
      rw [show ckX most ts true r.tm = nmX most ts r.tm by unfold ckX; simp [e], show ckE most ts true r.tm = 0 by unfold ckE; simp [e]] at hd
      rw [ho, show rcS most ts r = r.sec (nmX most ts r.tm) by unfold rcS; rw [ho]; rfl, show rcN most ts r = nmX most ts r.tm by unfold rcN; rw [ho]; rfl]
      exact pwrite_true_put q r _ ((okNum_iff _).2 ⟨by omega, by omega⟩) _ _ (putA_good _ _ _ _) (putA_good _ _ _ _) hm hd
    · have ho : rcOk most ts r = false := by unfold rcOk; rw [hm]; simp [e]
      rw [show ckX most ts true r.tm = 0 by unfold ckX; simp [e], show ckE most ts true r.tm = 300 by unfold ckE; simp [e]] at hd
      rw [ho, show rcS most ts r = ⟨#[]⟩ by unfold rcS; rw [ho]; rfl, show rcN most ts r = 0 by unfold rcN; rw [ho]; rfl]
      exact pwrite_false_put q r 0 (by decide) _ _ (putA_good _ _ _ _) (putA_good _ _ _ _) hm hd
set_option maxRecDepth 100000 in
set_option maxHeartbeats 8000000 in
theorem dpput (p : Nat) (most : Int) (ts : List ByteArray) (r : Rc) (hl : ts.length ≤ 1000000) : DoesG Tryd.prog (bookA p most ts) 10 #[.pointer (some ⟨p, 0, none⟩), r.val]
    (.returned (.tuple #[.string (rcS most ts r), .int .i64 (rcN most ts r), .int .i64 (rcE most ts r)])) (bookA p most (rcT most ts r)) := by
  intro w F h hg
  have hW := fun q => pwrite_put p q most ts r hl
  have hok : rcE most ts r = if rcOk most ts r then 0 else 900 := rfl
  have hno : rcOk most ts r = false → rcS most ts r = ⟨#[]⟩ ∧ rcN most ts r = 0 := fun h => by unfold rcS rcN; rw [h]; exact ⟨rfl, rfl⟩
  rw [hok]
  clear hok hl
  have hS := (Becomes.refl h).hold (bookA_good _ _ _) #[.pointer (some ⟨p, 0, none⟩)] 23
  have hr := (Gr.refl hg).alloc (.cells #[.pointer (some ⟨p, 0, none⟩)] 23)
  clear h hg
  generalize rcS most ts r = SE at *
  generalize rcN most ts r = NN at *
  generalize rcT most ts r = TT at *
  generalize rcOk most ts r = OK at *
  obtain ⟨seq, boot, prev, ⟨k, u, s, a, x, y, z, t⟩⟩ := r
  unfold Rc.val at hW ⊢
  simp only at hW ⊢
  replace hS := hS.lay (putA_good _ _ _ _) (balloc _ (.cells #[.int .i64 seq, .int .i64 boot, .int .i64 prev, .int .i64 k, .int .i64 u, .int .i64 s, .int .i64 a, .int .i64 x, .int .i64 y, .int .i64 z, .int .i64 t] 34))
  replace hr := hr.alloc (.cells #[.int .i64 seq, .int .i64 boot, .int .i64 prev, .int .i64 k, .int .i64 u, .int .i64 s, .int .i64 a, .int .i64 x, .int .i64 y, .int .i64 z, .int .i64 t] 34)
  obtain ⟨e1, g1, l1⟩ := hS.own
  cases OK with
  | true =>
    have HW := Lib.hid hW
    clear hW hno
    go_enter Tryd.func10, Tryd.ntmps10
    go_wp2_with (go_at_call 21; (with_reducible refine (Becomes.opG (HW.out _) hS hr.good).mono ?_); rintro e w1 ⟨rfl, hS1⟩; clear hS)
    go_ret3
    exact ⟨rfl, hS1.drop⟩
  | false =>
    obtain ⟨rfl, rfl⟩ := hno rfl
    have HW := Lib.hid hW
    clear hW hno
    go_enter Tryd.func10, Tryd.ntmps10
    go_wp2_with (go_at_call 21; (with_reducible refine (Becomes.opG (HW.out _) hS hr.good).mono ?_); rintro e w1 ⟨rfl, hS1⟩; clear hS)
    go_ret3
    exact ⟨rfl, hS1.drop⟩
theorem dpput_nil (r : Rc) (w : World) : Calls Tryd.prog 10 #[.pointer none, r.val] w fun e w' => e = .returned (.tuple #[.string ⟨#[]⟩, .int .i64 0, .int .i64 1]) ∧ Below w.heap.size w w' := by
  obtain ⟨seq, boot, prev, ⟨k, u, s, a, x, y, z, t⟩⟩ := r
  unfold Rc.val
  go_enter Tryd.func10, Tryd.ntmps10
  go_wp2
  go_ret3
  exact ⟨rfl, (balloc w _).alloc (by simp) _⟩
end Go.Proofs.YtkccbeepdgafcaaDoor

