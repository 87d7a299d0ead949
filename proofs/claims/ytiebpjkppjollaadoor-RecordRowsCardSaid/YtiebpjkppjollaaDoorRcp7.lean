/- Package record's read: what it answers. Conditions: the text's size, and the handle of the type error. -/
import Derived.Test.YtiebpjkppjollaaDoorSct
import Derived.Test.YtiebpjkppjollaaDoorBwb
import Derived.Test.YtiebpjkppjollaaDoorBec
import Derived.Test.YtiebpjkppjollaaDoorBpb
import Derived.LoopN
namespace Go.Proofs.YtiebpjkppjollaaDoor
open Go Go.RowKit

/-- Within read: its result's block, the record's, the row of places. -/
structure RS (w W : World) (c : Array Value) : Prop where
  good : Gd w
  gr : Gr w W
  b0 : Blk W w.heap.size #[.int .i64 0, .int .i64 0, .int .i64 0, .int .i64 0, .int .i64 0, .int .i64 0, .int .i64 0, .int .i64 0, .int .i64 0, .int .i64 0, .int .i64 0]
  b1 : Blk W (w.heap.size + 1) c
  b2 : Blk W (w.heap.size + 1 + 1) #[.pointer (some ⟨w.heap.size + 1, 0, none⟩), .pointer (some ⟨w.heap.size + 1, 1, none⟩), .pointer (some ⟨w.heap.size + 1, 2, none⟩)]
theorem RS.start {w : World} (hg : Gd w) : RS w (((w.alloc (.cells #[.int .i64 0, .int .i64 0, .int .i64 0, .int .i64 0, .int .i64 0, .int .i64 0, .int .i64 0, .int .i64 0, .int .i64 0, .int .i64 0, .int .i64 0] 34)).alloc (.cells #[.int .i64 0, .int .i64 0, .int .i64 0, .int .i64 0, .int .i64 0, .int .i64 0, .int .i64 0, .int .i64 0, .int .i64 0, .int .i64 0, .int .i64 0] 34)).alloc (.cells #[.pointer (some ⟨w.heap.size + 1, 0, none⟩), .pointer (some ⟨w.heap.size + 1, 1, none⟩), .pointer (some ⟨w.heap.size + 1, 2, none⟩)] 111)) #[.int .i64 0, .int .i64 0, .int .i64 0, .int .i64 0, .int .i64 0, .int .i64 0, .int .i64 0, .int .i64 0, .int .i64 0, .int .i64 0, .int .i64 0] :=
  ⟨hg, ((Gr.refl hg).alloc _).alloc _ |>.alloc _, ((Blk.new _ _ _).alloc _).alloc _, (Blk.new' _ _ (by simp) _ _).alloc _, Blk.new' _ _ (by simp) _ _⟩
theorem RS.step {w W W' : World} {c : Array Value} (h : RS w W c) (hb : Below W.heap.size W W') : RS w W' c := ⟨h.good, h.gr.step hb, h.b0.step hb, h.b1.step hb, h.b2.step hb⟩
theorem RS.set {w W : World} {c c' : Array Value} (h : RS w W c) (i : Nat) (v : Value) (hi : i < c.size) (hc : ∀ j, (c'[j]? = if j = i then some v else c[j]?)) : RS w (W.setCell ⟨w.heap.size + 1, i, none⟩ v) c' :=
  ⟨h.good, h.gr.set h.good _ _ (by simp), h.b0.far _ _ (by simp), h.b1.set i v hi hc, h.b2.far _ _ (by simp)⟩
theorem RS.put {w W : World} {c : Array Value} (h : RS w W c) (i : Nat) (v : Value) (hi : i < c.size) : RS w (W.setCell ⟨w.heap.size + 1, i, none⟩ v) (c.setIfInBounds i v) :=
  h.set i v hi (fun j => by
    by_cases e : j = i
    · subst e; rw [if_pos rfl, Array.getElem?_setIfInBounds_self_of_lt hi]
    · rw [if_neg e, Array.getElem?_setIfInBounds_ne (fun c => e c.symm)])
theorem RS.put0 {w W : World} {x1 : Int} (h : RS w W #[.int .i64 0, .int .i64 0, .int .i64 0, .int .i64 0, .int .i64 0, .int .i64 0, .int .i64 0, .int .i64 0, .int .i64 0, .int .i64 0, .int .i64 0]) : RS w (W.setCell ⟨w.heap.size + 1, 0, none⟩ (.int .i64 x1)) #[.int .i64 x1, .int .i64 0, .int .i64 0, .int .i64 0, .int .i64 0, .int .i64 0, .int .i64 0, .int .i64 0, .int .i64 0, .int .i64 0, .int .i64 0] := h.put 0 _ (by simp)
theorem RS.put1 {w W : World} {x1 x2 : Int} (h : RS w W #[.int .i64 x1, .int .i64 0, .int .i64 0, .int .i64 0, .int .i64 0, .int .i64 0, .int .i64 0, .int .i64 0, .int .i64 0, .int .i64 0, .int .i64 0]) : RS w (W.setCell ⟨w.heap.size + 1, 1, none⟩ (.int .i64 x2)) #[.int .i64 x1, .int .i64 x2, .int .i64 0, .int .i64 0, .int .i64 0, .int .i64 0, .int .i64 0, .int .i64 0, .int .i64 0, .int .i64 0, .int .i64 0] := h.put 1 _ (by simp)
theorem RS.put2 {w W : World} {x1 x2 x3 : Int} (h : RS w W #[.int .i64 x1, .int .i64 x2, .int .i64 0, .int .i64 0, .int .i64 0, .int .i64 0, .int .i64 0, .int .i64 0, .int .i64 0, .int .i64 0, .int .i64 0]) : RS w (W.setCell ⟨w.heap.size + 1, 2, none⟩ (.int .i64 x3)) #[.int .i64 x1, .int .i64 x2, .int .i64 x3, .int .i64 0, .int .i64 0, .int .i64 0, .int .i64 0, .int .i64 0, .int .i64 0, .int .i64 0, .int .i64 0] := h.put 2 _ (by simp)
theorem RS.putE {w W : World} {x1 x2 x3 : Int} (k u q a x y z t : Int) (h : RS w W #[.int .i64 x1, .int .i64 x2, .int .i64 x3, .int .i64 0, .int .i64 0, .int .i64 0, .int .i64 0, .int .i64 0, .int .i64 0, .int .i64 0, .int .i64 0]) : RS w ((((((((W.setCell ⟨w.heap.size + 1, 3, none⟩ (.int .i64 k)).setCell ⟨w.heap.size + 1, 4, none⟩ (.int .i64 u)).setCell ⟨w.heap.size + 1, 5, none⟩ (.int .i64 q)).setCell ⟨w.heap.size + 1, 6, none⟩ (.int .i64 a)).setCell ⟨w.heap.size + 1, 7, none⟩ (.int .i64 x)).setCell ⟨w.heap.size + 1, 8, none⟩ (.int .i64 y)).setCell ⟨w.heap.size + 1, 9, none⟩ (.int .i64 z)).setCell ⟨w.heap.size + 1, 10, none⟩ (.int .i64 t)) #[.int .i64 x1, .int .i64 x2, .int .i64 x3, .int .i64 k, .int .i64 u, .int .i64 q, .int .i64 a, .int .i64 x, .int .i64 y, .int .i64 z, .int .i64 t] := by
  have h1 := (((((((h.put 3 (.int .i64 k) (by simp)).put 4 (.int .i64 u) (by simp)).put 5 (.int .i64 q) (by simp)).put 6 (.int .i64 a) (by simp)).put 7 (.int .i64 x) (by simp)).put 8 (.int .i64 y) (by simp)).put 9 (.int .i64 z) (by simp)).put 10 (.int .i64 t) (by simp)
  simpa only [List.setIfInBounds_toArray, List.set_cons_zero, List.set_cons_succ] using h1
set_option maxRecDepth 100000 in
set_option maxHeartbeats 8000000 in
theorem pread1 (s : ByteArray) (er x1 t1 : Int) (w : World) (hg : Gd w)
    (P1 : ∀ w, Gd w → Calls Tryd.prog 61 #[.string s, .int .i64 0] w fun e w' => e = .returned (.tuple #[.int .i64 x1, .int .i64 t1, .int .i64 er]) ∧ Below w.heap.size w w')
    (her : ¬ er = 0) :
    Calls Tryd.prog 42 #[.string s] w fun e w' => e = .returned (.tuple #[.agg #[.int .i64 0, .int .i64 0, .int .i64 0, .int .i64 0, .int .i64 0, .int .i64 0, .int .i64 0, .int .i64 0, .int .i64 0, .int .i64 0, .int .i64 0], .int .i64 0, .bool false]) ∧ Below w.heap.size w w' := by
  have her2 : (er != 0) = true := by simpa using her
  have hR := RS.start hg
  replace P1 := Lib.hid P1
  clear hg
  go_enter Tryd.func42, Tryd.ntmps42
  go_wp2
  refine wp_loop_rounds 4 ?_
  rw [rounds_succ]
  go_wp2_with (go_at_call 61; (with_reducible refine (P1.out _ hR.gr.good).mono ?_); rintro e w1 ⟨rfl, hb⟩; replace hR := hR.step hb; have e0 := hR.b0.cell; have g0 := hR.b0.froz; have e1 := hR.b1.cell; have g1 := hR.b1.froz; have l1 := hR.b1.lt; have e2 := hR.b2.cell; clear hb)
  refine bodyPost_ret (v := .tuple #[.agg #[.int .i64 0, .int .i64 0, .int .i64 0, .int .i64 0, .int .i64 0, .int .i64 0, .int .i64 0, .int .i64 0, .int .i64 0, .int .i64 0, .int .i64 0], .int .i64 0, .bool false]) (by simp [results, Tryd.results42, go_sem, e0]) rfl ⟨rfl, ?_⟩
  repeat (with_reducible refine Below.setCell ?_ (by simp) _)
  with_reducible exact hR.gr.below
set_option maxRecDepth 100000 in
set_option maxHeartbeats 8000000 in
theorem pread2 (s : ByteArray) (er x1 t1 x2 t2 : Int) (w : World) (hg : Gd w)
    (P1 : ∀ w, Gd w → Calls Tryd.prog 61 #[.string s, .int .i64 0] w fun e w' => e = .returned (.tuple #[.int .i64 x1, .int .i64 t1, .int .i64 0]) ∧ Below w.heap.size w w')
    (P2 : ∀ w, Gd w → Calls Tryd.prog 61 #[.string s, .int .i64 t1] w fun e w' => e = .returned (.tuple #[.int .i64 x2, .int .i64 t2, .int .i64 er]) ∧ Below w.heap.size w w')
    (her : ¬ er = 0) :
    Calls Tryd.prog 42 #[.string s] w fun e w' => e = .returned (.tuple #[.agg #[.int .i64 0, .int .i64 0, .int .i64 0, .int .i64 0, .int .i64 0, .int .i64 0, .int .i64 0, .int .i64 0, .int .i64 0, .int .i64 0, .int .i64 0], .int .i64 0, .bool false]) ∧ Below w.heap.size w w' := by
  have her2 : (er != 0) = true := by simpa using her
  have hR := RS.start hg
  replace P1 := Lib.hid P1
  replace P2 := Lib.hid P2
  clear hg
  go_enter Tryd.func42, Tryd.ntmps42
  go_wp2
  refine wp_loop_rounds 4 ?_
  rw [rounds_succ]
  go_wp2_with (go_at_call 61; (with_reducible refine (P1.out _ hR.gr.good).mono ?_); rintro e w1 ⟨rfl, hb⟩; replace hR := hR.step hb; have e0 := hR.b0.cell; have g0 := hR.b0.froz; have e1 := hR.b1.cell; have g1 := hR.b1.froz; have l1 := hR.b1.lt; have e2 := hR.b2.cell; clear hb)
  replace hR := hR.put0 (x1 := x1)
  have e0 := hR.b0.cell; have g0 := hR.b0.froz; have e1 := hR.b1.cell; have g1 := hR.b1.froz; have l1 := hR.b1.lt; have e2 := hR.b2.cell
  rw [rounds_succ]
  go_wp2_with (go_at_call 61; (with_reducible refine (P2.out _ hR.gr.good).mono ?_); rintro e w2 ⟨rfl, hb⟩; replace hR := hR.step hb; have e0 := hR.b0.cell; have g0 := hR.b0.froz; have e1 := hR.b1.cell; have g1 := hR.b1.froz; have l1 := hR.b1.lt; have e2 := hR.b2.cell; clear hb)
  refine bodyPost_ret (v := .tuple #[.agg #[.int .i64 0, .int .i64 0, .int .i64 0, .int .i64 0, .int .i64 0, .int .i64 0, .int .i64 0, .int .i64 0, .int .i64 0, .int .i64 0, .int .i64 0], .int .i64 0, .bool false]) (by simp [results, Tryd.results42, go_sem, e0]) rfl ⟨rfl, ?_⟩
  repeat (with_reducible refine Below.setCell ?_ (by simp) _)
  with_reducible exact hR.gr.below
set_option maxRecDepth 100000 in
set_option maxHeartbeats 8000000 in
theorem pread3 (s : ByteArray) (er x1 t1 x2 t2 x3 t3 : Int) (w : World) (hg : Gd w)
    (P1 : ∀ w, Gd w → Calls Tryd.prog 61 #[.string s, .int .i64 0] w fun e w' => e = .returned (.tuple #[.int .i64 x1, .int .i64 t1, .int .i64 0]) ∧ Below w.heap.size w w')
    (P2 : ∀ w, Gd w → Calls Tryd.prog 61 #[.string s, .int .i64 t1] w fun e w' => e = .returned (.tuple #[.int .i64 x2, .int .i64 t2, .int .i64 0]) ∧ Below w.heap.size w w')
    (P3 : ∀ w, Gd w → Calls Tryd.prog 61 #[.string s, .int .i64 t2] w fun e w' => e = .returned (.tuple #[.int .i64 x3, .int .i64 t3, .int .i64 er]) ∧ Below w.heap.size w w')
    (her : ¬ er = 0) :
    Calls Tryd.prog 42 #[.string s] w fun e w' => e = .returned (.tuple #[.agg #[.int .i64 0, .int .i64 0, .int .i64 0, .int .i64 0, .int .i64 0, .int .i64 0, .int .i64 0, .int .i64 0, .int .i64 0, .int .i64 0, .int .i64 0], .int .i64 0, .bool false]) ∧ Below w.heap.size w w' := by
  have her2 : (er != 0) = true := by simpa using her
  have hR := RS.start hg
  replace P1 := Lib.hid P1
  replace P2 := Lib.hid P2
  replace P3 := Lib.hid P3
  clear hg
  go_enter Tryd.func42, Tryd.ntmps42
  go_wp2
  refine wp_loop_rounds 4 ?_
  rw [rounds_succ]
  go_wp2_with (go_at_call 61; (with_reducible refine (P1.out _ hR.gr.good).mono ?_); rintro e w1 ⟨rfl, hb⟩; replace hR := hR.step hb; have e0 := hR.b0.cell; have g0 := hR.b0.froz; have e1 := hR.b1.cell; have g1 := hR.b1.froz; have l1 := hR.b1.lt; have e2 := hR.b2.cell; clear hb)
  replace hR := hR.put0 (x1 := x1)
  have e0 := hR.b0.cell; have g0 := hR.b0.froz; have e1 := hR.b1.cell; have g1 := hR.b1.froz; have l1 := hR.b1.lt; have e2 := hR.b2.cell
  rw [rounds_succ]
  go_wp2_with (go_at_call 61; (with_reducible refine (P2.out _ hR.gr.good).mono ?_); rintro e w2 ⟨rfl, hb⟩; replace hR := hR.step hb; have e0 := hR.b0.cell; have g0 := hR.b0.froz; have e1 := hR.b1.cell; have g1 := hR.b1.froz; have l1 := hR.b1.lt; have e2 := hR.b2.cell; clear hb)
  replace hR := hR.put1 (x2 := x2)
  have e0 := hR.b0.cell; have g0 := hR.b0.froz; have e1 := hR.b1.cell; have g1 := hR.b1.froz; have l1 := hR.b1.lt; have e2 := hR.b2.cell
  rw [rounds_succ]
  go_wp2_with (go_at_call 61; (with_reducible refine (P3.out _ hR.gr.good).mono ?_); rintro e w3 ⟨rfl, hb⟩; replace hR := hR.step hb; have e0 := hR.b0.cell; have g0 := hR.b0.froz; have e1 := hR.b1.cell; have g1 := hR.b1.froz; have l1 := hR.b1.lt; have e2 := hR.b2.cell; clear hb)
  refine bodyPost_ret (v := .tuple #[.agg #[.int .i64 0, .int .i64 0, .int .i64 0, .int .i64 0, .int .i64 0, .int .i64 0, .int .i64 0, .int .i64 0, .int .i64 0, .int .i64 0, .int .i64 0], .int .i64 0, .bool false]) (by simp [results, Tryd.results42, go_sem, e0]) rfl ⟨rfl, ?_⟩
  repeat (with_reducible refine Below.setCell ?_ (by simp) _)
  with_reducible exact hR.gr.below
set_option maxRecDepth 100000 in
set_option maxHeartbeats 8000000 in
theorem pread4 (s : ByteArray) (er x1 t1 x2 t2 x3 t3 t4 : Int) (tx : ByteArray) (w : World) (hg : Gd w)
    (P1 : ∀ w, Gd w → Calls Tryd.prog 61 #[.string s, .int .i64 0] w fun e w' => e = .returned (.tuple #[.int .i64 x1, .int .i64 t1, .int .i64 0]) ∧ Below w.heap.size w w')
    (P2 : ∀ w, Gd w → Calls Tryd.prog 61 #[.string s, .int .i64 t1] w fun e w' => e = .returned (.tuple #[.int .i64 x2, .int .i64 t2, .int .i64 0]) ∧ Below w.heap.size w w')
    (P3 : ∀ w, Gd w → Calls Tryd.prog 61 #[.string s, .int .i64 t2] w fun e w' => e = .returned (.tuple #[.int .i64 x3, .int .i64 t3, .int .i64 0]) ∧ Below w.heap.size w w')
    (PT : ∀ w, Gd w → Calls Tryd.prog 62 #[.string s, .int .i64 t3] w fun e w' => e = .returned (.tuple #[.string tx, .int .i64 t4, .int .i64 er]) ∧ Below w.heap.size w w')
    (her : ¬ er = 0) :
    Calls Tryd.prog 42 #[.string s] w fun e w' => e = .returned (.tuple #[.agg #[.int .i64 0, .int .i64 0, .int .i64 0, .int .i64 0, .int .i64 0, .int .i64 0, .int .i64 0, .int .i64 0, .int .i64 0, .int .i64 0, .int .i64 0], .int .i64 0, .bool false]) ∧ Below w.heap.size w w' := by
  have her2 : (er != 0) = true := by simpa using her
  have hR := RS.start hg
  replace P1 := Lib.hid P1
  replace P2 := Lib.hid P2
  replace P3 := Lib.hid P3
  replace PT := Lib.hid PT
  clear hg
  go_enter Tryd.func42, Tryd.ntmps42
  go_wp2
  refine wp_loop_rounds 4 ?_
  rw [rounds_succ]
  go_wp2_with (go_at_call 61; (with_reducible refine (P1.out _ hR.gr.good).mono ?_); rintro e w1 ⟨rfl, hb⟩; replace hR := hR.step hb; have e0 := hR.b0.cell; have g0 := hR.b0.froz; have e1 := hR.b1.cell; have g1 := hR.b1.froz; have l1 := hR.b1.lt; have e2 := hR.b2.cell; clear hb)
  replace hR := hR.put0 (x1 := x1)
  have e0 := hR.b0.cell; have g0 := hR.b0.froz; have e1 := hR.b1.cell; have g1 := hR.b1.froz; have l1 := hR.b1.lt; have e2 := hR.b2.cell
  rw [rounds_succ]
  go_wp2_with (go_at_call 61; (with_reducible refine (P2.out _ hR.gr.good).mono ?_); rintro e w2 ⟨rfl, hb⟩; replace hR := hR.step hb; have e0 := hR.b0.cell; have g0 := hR.b0.froz; have e1 := hR.b1.cell; have g1 := hR.b1.froz; have l1 := hR.b1.lt; have e2 := hR.b2.cell; clear hb)
  replace hR := hR.put1 (x2 := x2)
  have e0 := hR.b0.cell; have g0 := hR.b0.froz; have e1 := hR.b1.cell; have g1 := hR.b1.froz; have l1 := hR.b1.lt; have e2 := hR.b2.cell
  rw [rounds_succ]
  go_wp2_with (go_at_call 61; (with_reducible refine (P3.out _ hR.gr.good).mono ?_); rintro e w3 ⟨rfl, hb⟩; replace hR := hR.step hb; have e0 := hR.b0.cell; have g0 := hR.b0.froz; have e1 := hR.b1.cell; have g1 := hR.b1.froz; have l1 := hR.b1.lt; have e2 := hR.b2.cell; clear hb)
  replace hR := hR.put2 (x3 := x3)
  have e0 := hR.b0.cell; have g0 := hR.b0.froz; have e1 := hR.b1.cell; have g1 := hR.b1.froz; have l1 := hR.b1.lt; have e2 := hR.b2.cell
  rw [rounds_succ]
  go_wp2_with (first
    | (go_at_call 62; (with_reducible refine (PT.out _ hR.gr.good).mono ?_); rintro e w4 ⟨rfl, hb⟩; replace hR := hR.step hb; have e0 := hR.b0.cell; have g0 := hR.b0.froz; have e1 := hR.b1.cell; have g1 := hR.b1.froz; have l1 := hR.b1.lt; have e2 := hR.b2.cell; clear hb))
  refine bodyPost_ret (v := .tuple #[.agg #[.int .i64 0, .int .i64 0, .int .i64 0, .int .i64 0, .int .i64 0, .int .i64 0, .int .i64 0, .int .i64 0, .int .i64 0, .int .i64 0, .int .i64 0], .int .i64 0, .bool false]) (by simp [results, Tryd.results42, go_sem, e0]) rfl ⟨rfl, ?_⟩
  repeat (with_reducible refine Below.setCell ?_ (by simp) _)
  with_reducible exact hR.gr.below
set_option maxRecDepth 100000 in
set_option maxHeartbeats 8000000 in
theorem pread5 (s : ByteArray) (x1 t1 x2 t2 x3 t3 t4 k u q a x y z t : Int) (tx : ByteArray) (w : World) (hg : Gd w)
    (P1 : ∀ w, Gd w → Calls Tryd.prog 61 #[.string s, .int .i64 0] w fun e w' => e = .returned (.tuple #[.int .i64 x1, .int .i64 t1, .int .i64 0]) ∧ Below w.heap.size w w')
    (P2 : ∀ w, Gd w → Calls Tryd.prog 61 #[.string s, .int .i64 t1] w fun e w' => e = .returned (.tuple #[.int .i64 x2, .int .i64 t2, .int .i64 0]) ∧ Below w.heap.size w w')
    (P3 : ∀ w, Gd w → Calls Tryd.prog 61 #[.string s, .int .i64 t2] w fun e w' => e = .returned (.tuple #[.int .i64 x3, .int .i64 t3, .int .i64 0]) ∧ Below w.heap.size w w')
    (PT : ∀ w, Gd w → Calls Tryd.prog 62 #[.string s, .int .i64 t3] w fun e w' => e = .returned (.tuple #[.string tx, .int .i64 t4, .int .i64 0]) ∧ Below w.heap.size w w')
    (PE : ∀ w, Gd w → Calls Tryd.prog 63 #[.string tx] w fun e w' => e = .returned (.tuple #[.agg #[.int .i64 k, .int .i64 u, .int .i64 q, .int .i64 a, .int .i64 x, .int .i64 y, .int .i64 z, .int .i64 t], .int .i64 700]) ∧ Below w.heap.size w w') :
    Calls Tryd.prog 42 #[.string s] w fun e w' => e = .returned (.tuple #[.agg #[.int .i64 0, .int .i64 0, .int .i64 0, .int .i64 0, .int .i64 0, .int .i64 0, .int .i64 0, .int .i64 0, .int .i64 0, .int .i64 0, .int .i64 0], .int .i64 0, .bool false]) ∧ Below w.heap.size w w' := by
  have hR := RS.start hg
  replace P1 := Lib.hid P1
  replace P2 := Lib.hid P2
  replace P3 := Lib.hid P3
  replace PT := Lib.hid PT
  replace PE := Lib.hid PE
  clear hg
  go_enter Tryd.func42, Tryd.ntmps42
  go_wp2
  refine wp_loop_rounds 4 ?_
  rw [rounds_succ]
  go_wp2_with (go_at_call 61; (with_reducible refine (P1.out _ hR.gr.good).mono ?_); rintro e w1 ⟨rfl, hb⟩; replace hR := hR.step hb; have e0 := hR.b0.cell; have g0 := hR.b0.froz; have e1 := hR.b1.cell; have g1 := hR.b1.froz; have l1 := hR.b1.lt; have e2 := hR.b2.cell; clear hb)
  replace hR := hR.put0 (x1 := x1)
  have e0 := hR.b0.cell; have g0 := hR.b0.froz; have e1 := hR.b1.cell; have g1 := hR.b1.froz; have l1 := hR.b1.lt; have e2 := hR.b2.cell
  rw [rounds_succ]
  go_wp2_with (go_at_call 61; (with_reducible refine (P2.out _ hR.gr.good).mono ?_); rintro e w2 ⟨rfl, hb⟩; replace hR := hR.step hb; have e0 := hR.b0.cell; have g0 := hR.b0.froz; have e1 := hR.b1.cell; have g1 := hR.b1.froz; have l1 := hR.b1.lt; have e2 := hR.b2.cell; clear hb)
  replace hR := hR.put1 (x2 := x2)
  have e0 := hR.b0.cell; have g0 := hR.b0.froz; have e1 := hR.b1.cell; have g1 := hR.b1.froz; have l1 := hR.b1.lt; have e2 := hR.b2.cell
  rw [rounds_succ]
  go_wp2_with (go_at_call 61; (with_reducible refine (P3.out _ hR.gr.good).mono ?_); rintro e w3 ⟨rfl, hb⟩; replace hR := hR.step hb; have e0 := hR.b0.cell; have g0 := hR.b0.froz; have e1 := hR.b1.cell; have g1 := hR.b1.froz; have l1 := hR.b1.lt; have e2 := hR.b2.cell; clear hb)
  replace hR := hR.put2 (x3 := x3)
  have e0 := hR.b0.cell; have g0 := hR.b0.froz; have e1 := hR.b1.cell; have g1 := hR.b1.froz; have l1 := hR.b1.lt; have e2 := hR.b2.cell
  rw [rounds_succ]
  go_wp2_with (first
    | (go_at_call 62; (with_reducible refine (PT.out _ hR.gr.good).mono ?_); rintro e w4 ⟨rfl, hb⟩; replace hR := hR.step hb; have e0 := hR.b0.cell; have g0 := hR.b0.froz; have e1 := hR.b1.cell; have g1 := hR.b1.froz; have l1 := hR.b1.lt; have e2 := hR.b2.cell; clear hb)
    | (go_at_call 63; (with_reducible refine (PE.out _ hR.gr.good).mono ?_); rintro e w5 ⟨rfl, hb⟩; replace hR := hR.step hb; have e0 := hR.b0.cell; have g0 := hR.b0.froz; have e1 := hR.b1.cell; have g1 := hR.b1.froz; have l1 := hR.b1.lt; have e2 := hR.b2.cell; clear hb))
  refine bodyPost_ret (v := .tuple #[.agg #[.int .i64 0, .int .i64 0, .int .i64 0, .int .i64 0, .int .i64 0, .int .i64 0, .int .i64 0, .int .i64 0, .int .i64 0, .int .i64 0, .int .i64 0], .int .i64 0, .bool false]) (by simp [results, Tryd.results42, go_sem, e0]) rfl ⟨rfl, ?_⟩
  repeat (with_reducible refine Below.setCell ?_ (by simp) _)
  with_reducible exact hR.gr.below
set_option maxRecDepth 100000 in
set_option maxHeartbeats 8000000 in
theorem pread6 (s : ByteArray) (er x1 t1 x2 t2 x3 t3 t4 k u q a x y z t x6 t6 : Int) (tx : ByteArray) (w : World) (hg : Gd w)
    (P1 : ∀ w, Gd w → Calls Tryd.prog 61 #[.string s, .int .i64 0] w fun e w' => e = .returned (.tuple #[.int .i64 x1, .int .i64 t1, .int .i64 0]) ∧ Below w.heap.size w w')
    (P2 : ∀ w, Gd w → Calls Tryd.prog 61 #[.string s, .int .i64 t1] w fun e w' => e = .returned (.tuple #[.int .i64 x2, .int .i64 t2, .int .i64 0]) ∧ Below w.heap.size w w')
    (P3 : ∀ w, Gd w → Calls Tryd.prog 61 #[.string s, .int .i64 t2] w fun e w' => e = .returned (.tuple #[.int .i64 x3, .int .i64 t3, .int .i64 0]) ∧ Below w.heap.size w w')
    (PT : ∀ w, Gd w → Calls Tryd.prog 62 #[.string s, .int .i64 t3] w fun e w' => e = .returned (.tuple #[.string tx, .int .i64 t4, .int .i64 0]) ∧ Below w.heap.size w w')
    (PE : ∀ w, Gd w → Calls Tryd.prog 63 #[.string tx] w fun e w' => e = .returned (.tuple #[.agg #[.int .i64 k, .int .i64 u, .int .i64 q, .int .i64 a, .int .i64 x, .int .i64 y, .int .i64 z, .int .i64 t], .int .i64 0]) ∧ Below w.heap.size w w')
    (P6 : ∀ w, Gd w → Calls Tryd.prog 61 #[.string s, .int .i64 t4] w fun e w' => e = .returned (.tuple #[.int .i64 x6, .int .i64 t6, .int .i64 er]) ∧ Below w.heap.size w w')
    (her : ¬ er = 0) :
    Calls Tryd.prog 42 #[.string s] w fun e w' => e = .returned (.tuple #[.agg #[.int .i64 0, .int .i64 0, .int .i64 0, .int .i64 0, .int .i64 0, .int .i64 0, .int .i64 0, .int .i64 0, .int .i64 0, .int .i64 0, .int .i64 0], .int .i64 0, .bool false]) ∧ Below w.heap.size w w' := by
  have her2 : (er != 0) = true := by simpa using her
  have hR := RS.start hg
  replace P1 := Lib.hid P1
  replace P2 := Lib.hid P2
  replace P3 := Lib.hid P3
  replace PT := Lib.hid PT
  replace PE := Lib.hid PE
  replace P6 := Lib.hid P6
  clear hg
  go_enter Tryd.func42, Tryd.ntmps42
  go_wp2
  refine wp_loop_rounds 4 ?_
  rw [rounds_succ]
  go_wp2_with (go_at_call 61; (with_reducible refine (P1.out _ hR.gr.good).mono ?_); rintro e w1 ⟨rfl, hb⟩; replace hR := hR.step hb; have e0 := hR.b0.cell; have g0 := hR.b0.froz; have e1 := hR.b1.cell; have g1 := hR.b1.froz; have l1 := hR.b1.lt; have e2 := hR.b2.cell; clear hb)
  replace hR := hR.put0 (x1 := x1)
  have e0 := hR.b0.cell; have g0 := hR.b0.froz; have e1 := hR.b1.cell; have g1 := hR.b1.froz; have l1 := hR.b1.lt; have e2 := hR.b2.cell
  rw [rounds_succ]
  go_wp2_with (go_at_call 61; (with_reducible refine (P2.out _ hR.gr.good).mono ?_); rintro e w2 ⟨rfl, hb⟩; replace hR := hR.step hb; have e0 := hR.b0.cell; have g0 := hR.b0.froz; have e1 := hR.b1.cell; have g1 := hR.b1.froz; have l1 := hR.b1.lt; have e2 := hR.b2.cell; clear hb)
  replace hR := hR.put1 (x2 := x2)
  have e0 := hR.b0.cell; have g0 := hR.b0.froz; have e1 := hR.b1.cell; have g1 := hR.b1.froz; have l1 := hR.b1.lt; have e2 := hR.b2.cell
  rw [rounds_succ]
  go_wp2_with (go_at_call 61; (with_reducible refine (P3.out _ hR.gr.good).mono ?_); rintro e w3 ⟨rfl, hb⟩; replace hR := hR.step hb; have e0 := hR.b0.cell; have g0 := hR.b0.froz; have e1 := hR.b1.cell; have g1 := hR.b1.froz; have l1 := hR.b1.lt; have e2 := hR.b2.cell; clear hb)
  replace hR := hR.put2 (x3 := x3)
  have e0 := hR.b0.cell; have g0 := hR.b0.froz; have e1 := hR.b1.cell; have g1 := hR.b1.froz; have l1 := hR.b1.lt; have e2 := hR.b2.cell
  rw [rounds_succ]
  go_wp2_with (first
    | (go_at_call 62; (with_reducible refine (PT.out _ hR.gr.good).mono ?_); rintro e w4 ⟨rfl, hb⟩; replace hR := hR.step hb; have e0 := hR.b0.cell; have g0 := hR.b0.froz; have e1 := hR.b1.cell; have g1 := hR.b1.froz; have l1 := hR.b1.lt; have e2 := hR.b2.cell; clear hb)
    | (go_at_call 63; (with_reducible refine (PE.out _ hR.gr.good).mono ?_); rintro e w5 ⟨rfl, hb⟩; replace hR := hR.step hb; have e0 := hR.b0.cell; have g0 := hR.b0.froz; have e1 := hR.b1.cell; have g1 := hR.b1.froz; have l1 := hR.b1.lt; have e2 := hR.b2.cell; clear hb)
    | (go_at_call 61; (with_reducible refine (P6.out _ (hR.putE k u q a x y z t).gr.good).mono ?_); rintro e w6 ⟨rfl, hb⟩; replace hR := (hR.putE k u q a x y z t).step hb; have e0 := hR.b0.cell; have g0 := hR.b0.froz; have e1 := hR.b1.cell; have g1 := hR.b1.froz; have l1 := hR.b1.lt; have e2 := hR.b2.cell; clear hb))
  refine bodyPost_ret (v := .tuple #[.agg #[.int .i64 0, .int .i64 0, .int .i64 0, .int .i64 0, .int .i64 0, .int .i64 0, .int .i64 0, .int .i64 0, .int .i64 0, .int .i64 0, .int .i64 0], .int .i64 0, .bool false]) (by simp [results, Tryd.results42, go_sem, e0]) rfl ⟨rfl, ?_⟩
  repeat (with_reducible refine Below.setCell ?_ (by simp) _)
  with_reducible exact hR.gr.below
set_option maxRecDepth 100000 in
set_option maxHeartbeats 8000000 in
theorem pread7 (s : ByteArray) (x1 t1 x2 t2 x3 t3 t4 k u q a x y z t x6 t6 : Int) (tx : ByteArray) (w : World) (hg : Gd w)
    (P1 : ∀ w, Gd w → Calls Tryd.prog 61 #[.string s, .int .i64 0] w fun e w' => e = .returned (.tuple #[.int .i64 x1, .int .i64 t1, .int .i64 0]) ∧ Below w.heap.size w w')
    (P2 : ∀ w, Gd w → Calls Tryd.prog 61 #[.string s, .int .i64 t1] w fun e w' => e = .returned (.tuple #[.int .i64 x2, .int .i64 t2, .int .i64 0]) ∧ Below w.heap.size w w')
    (P3 : ∀ w, Gd w → Calls Tryd.prog 61 #[.string s, .int .i64 t2] w fun e w' => e = .returned (.tuple #[.int .i64 x3, .int .i64 t3, .int .i64 0]) ∧ Below w.heap.size w w')
    (PT : ∀ w, Gd w → Calls Tryd.prog 62 #[.string s, .int .i64 t3] w fun e w' => e = .returned (.tuple #[.string tx, .int .i64 t4, .int .i64 0]) ∧ Below w.heap.size w w')
    (PE : ∀ w, Gd w → Calls Tryd.prog 63 #[.string tx] w fun e w' => e = .returned (.tuple #[.agg #[.int .i64 k, .int .i64 u, .int .i64 q, .int .i64 a, .int .i64 x, .int .i64 y, .int .i64 z, .int .i64 t], .int .i64 0]) ∧ Below w.heap.size w w')
    (P6 : ∀ w, Gd w → Calls Tryd.prog 61 #[.string s, .int .i64 t4] w fun e w' => e = .returned (.tuple #[.int .i64 x6, .int .i64 t6, .int .i64 0]) ∧ Below w.heap.size w w') :
    Calls Tryd.prog 42 #[.string s] w fun e w' => e = .returned (.tuple #[.agg #[.int .i64 x1, .int .i64 x2, .int .i64 x3, .int .i64 k, .int .i64 u, .int .i64 q, .int .i64 a, .int .i64 x, .int .i64 y, .int .i64 z, .int .i64 t], .int .i64 x6, .bool true]) ∧ Below w.heap.size w w' := by
  have hR := RS.start hg
  replace P1 := Lib.hid P1
  replace P2 := Lib.hid P2
  replace P3 := Lib.hid P3
  replace PT := Lib.hid PT
  replace PE := Lib.hid PE
  replace P6 := Lib.hid P6
  clear hg
  go_enter Tryd.func42, Tryd.ntmps42
  go_wp2
  refine wp_loop_rounds 4 ?_
  rw [rounds_succ]
  go_wp2_with (go_at_call 61; (with_reducible refine (P1.out _ hR.gr.good).mono ?_); rintro e w1 ⟨rfl, hb⟩; replace hR := hR.step hb; have e0 := hR.b0.cell; have g0 := hR.b0.froz; have e1 := hR.b1.cell; have g1 := hR.b1.froz; have l1 := hR.b1.lt; have e2 := hR.b2.cell; clear hb)
  replace hR := hR.put0 (x1 := x1)
  have e0 := hR.b0.cell; have g0 := hR.b0.froz; have e1 := hR.b1.cell; have g1 := hR.b1.froz; have l1 := hR.b1.lt; have e2 := hR.b2.cell
  rw [rounds_succ]
  go_wp2_with (go_at_call 61; (with_reducible refine (P2.out _ hR.gr.good).mono ?_); rintro e w2 ⟨rfl, hb⟩; replace hR := hR.step hb; have e0 := hR.b0.cell; have g0 := hR.b0.froz; have e1 := hR.b1.cell; have g1 := hR.b1.froz; have l1 := hR.b1.lt; have e2 := hR.b2.cell; clear hb)
  replace hR := hR.put1 (x2 := x2)
  have e0 := hR.b0.cell; have g0 := hR.b0.froz; have e1 := hR.b1.cell; have g1 := hR.b1.froz; have l1 := hR.b1.lt; have e2 := hR.b2.cell
  rw [rounds_succ]
  go_wp2_with (go_at_call 61; (with_reducible refine (P3.out _ hR.gr.good).mono ?_); rintro e w3 ⟨rfl, hb⟩; replace hR := hR.step hb; have e0 := hR.b0.cell; have g0 := hR.b0.froz; have e1 := hR.b1.cell; have g1 := hR.b1.froz; have l1 := hR.b1.lt; have e2 := hR.b2.cell; clear hb)
  replace hR := hR.put2 (x3 := x3)
  have e0 := hR.b0.cell; have g0 := hR.b0.froz; have e1 := hR.b1.cell; have g1 := hR.b1.froz; have l1 := hR.b1.lt; have e2 := hR.b2.cell
  rw [rounds_succ]
  go_wp2_with (first
    | (go_at_call 62; (with_reducible refine (PT.out _ hR.gr.good).mono ?_); rintro e w4 ⟨rfl, hb⟩; replace hR := hR.step hb; have e0 := hR.b0.cell; have g0 := hR.b0.froz; have e1 := hR.b1.cell; have g1 := hR.b1.froz; have l1 := hR.b1.lt; have e2 := hR.b2.cell; clear hb)
    | (go_at_call 63; (with_reducible refine (PE.out _ hR.gr.good).mono ?_); rintro e w5 ⟨rfl, hb⟩; replace hR := hR.step hb; have e0 := hR.b0.cell; have g0 := hR.b0.froz; have e1 := hR.b1.cell; have g1 := hR.b1.froz; have l1 := hR.b1.lt; have e2 := hR.b2.cell; clear hb)
    | (go_at_call 61; (with_reducible refine (P6.out _ (hR.putE k u q a x y z t).gr.good).mono ?_); rintro e w6 ⟨rfl, hb⟩; replace hR := (hR.putE k u q a x y z t).step hb; have e0 := hR.b0.cell; have g0 := hR.b0.froz; have e1 := hR.b1.cell; have g1 := hR.b1.froz; have l1 := hR.b1.lt; have e2 := hR.b2.cell; clear hb))
  refine bodyPost_ret (v := .tuple #[.agg #[.int .i64 x1, .int .i64 x2, .int .i64 x3, .int .i64 k, .int .i64 u, .int .i64 q, .int .i64 a, .int .i64 x, .int .i64 y, .int .i64 z, .int .i64 t], .int .i64 x6, .bool true]) (by simp [results, Tryd.results42, go_sem, e0]) rfl ⟨rfl, ?_⟩
  repeat (with_reducible refine Below.setCell ?_ (by simp) _)
  with_reducible exact hR.gr.below
end Go.Proofs.YtiebpjkppjollaaDoor
