/- Put together: Kdp5, Kdp6, Kdsk. Conditions: each theorem's own. -/
import Derived.Test.YtbfpfmidjdonjaaGreatDoorBkp
import Derived.Deep.RegionHeldLaw
namespace Go.Proofs.YtbfpfmidjdonjaaGreatDoor
open Go Go.RowKit
theorem built_W (m : Nat) : Tryz.prog.built TW [(0, .int .i64 (m : Int))] = some (wV (m, zer64)).toArray := by kernel_rfl
theorem wpList_build_W {ops : Array Oper} {rest : List Oper} {op : Oper} {a : Act} {w : World} {Q : Exit → Act → World → Prop} (hgd : op.guard = none) (y : Operand) (ho : op.op = .build TW #[(0, y)]) (m : Nat) (hy : a.eval y = .int .i64 (m : Int))
    (hK : wpList Tryz.prog ops Q rest (a.put op.dst (.agg (wV (m, zer64)).toArray)) w) : wpList Tryz.prog ops Q (op :: rest) a w := by
  have hb : Tryz.prog.built TW ((#[(0, y)] : Array (Nat × Operand)).map fun (i, x) => (i, a.eval x)).toList = some (wV (m, zer64)).toArray := by
    simp only [List.map_toArray, List.map_cons, List.map_nil, hy]
    exact built_W m
  refine wpList_build hgd TW _ ho (by rw [hb]; rfl) ?_
  rw [hb]
  exact hK
theorem wV_lay {x : Wt} (hx : x.2.size = 64) (s : ByteArray) (hs : s.size = 64) : ((wV x).toArray.toList.take 1 ++ (bV s ++ (wV x).toArray.toList.drop (1 + s.size))).toArray = (wV (x.1, s)).toArray := by
  have h := wV_len hx
  rw [show (wV x).toArray.toList = wV x from rfl, List.drop_of_length_le (by omega), List.append_nil]
  rfl
theorem wpList_copy_W {ops : Array Oper} {rest : List Oper} {op : Oper} {a : Act} {w : World} {Q : Exit → Act → World → Prop} (hgd : op.guard = none) (y z : Operand)
    (ho : op.op = .call { callee := .builtin .copy, args := #[y, z], argTypes := #[77, 9] }) (hy : a.eval y = .slice (some ⟨w.heap.size, 1, none⟩) 64 64) {x : Wt} (hx : x.2.size = 64) {s : ByteArray} (hz : a.eval z = .string s) (hs : s.size = 64)
    (hK : wpList Tryz.prog ops Q rest (a.put op.dst (goInt 64)) (w.alloc (.cells (wV (x.1, s)).toArray TW))) : wpList Tryz.prog ops Q (op :: rest) a (w.alloc (.cells (wV x).toArray TW)) := by
  refine wpList_copy_string hgd y z 77 9 ho 5 Tryz.underlying77 (by kernel_rfl) w.heap.size 1 64 64 s hy hz (wV x).toArray TW (heap_alloc_new w _) hs (by rw [hs, List.size_toArray, wV_len hx]; exact Nat.le_refl _) ?_
  rw [wV_lay hx s hs, World.setRow_alloc_new, hs]
  exact hK
section
variable {P : Program} {ops : Array Oper} {Q : Exit → Act → World → Prop} {fuel : Nat} {listed : Array Bool} {a : Act} {w : World}
theorem opAt_value {i : Nat} {o : Oper} {v : Value} {w' : World} (ho : ops[i]? = some o) (hg : o.guard = none) (hrun : (execOp a.eval o).run P w = .ok (.value v) w')
    (h : wpAny P .any ops Q fuel (listed.setIfInBounds i true) (a.put o.dst v) w') : wpOp P ops Q i (wpAny P .any ops Q fuel (listed.setIfInBounds i true)) a w :=
  wpOp_step ho (fun K hK => by
    rw [if_pos (by simp [Region.wanted, hg])]
    unfold Oper.wp
    rw [hrun, Oper.upon_value]
    exact hK _ _ h)
theorem any_one {i : Nat} {o : Oper} (dst : Option Tmp) {v : Value} {w' : World} (hr : Region.ready .any ops listed = [i]) (ho : ops[i]? = some o) (hg : o.guard = none) (hrun : (execOp a.eval o).run P w = .ok (.value v) w')
    (hd : o.dst = dst) (h : wpAny P .any ops Q fuel (listed.setIfInBounds i true) (a.put dst v) w') : wpAny P .any ops Q (fuel + 1) listed a w :=
  wpAny_all hr (by simp) (fun j hj => by
    subst hd
    obtain rfl : j = i := by simpa using hj
    exact opAt_value ho hg hrun h)
theorem any_three (i j k : Nat) {oi oj ok : Oper} (di dj dk : Option Tmp) (hi : ops[i]? = some oi) (hj : ops[j]? = some oj) (hk : ops[k]? = some ok) (gi : oi.guard = none) (gj : oj.guard = none) (gk : ok.guard = none) (ei : oi.dst = di) (ej : oj.dst = dj) (ek : ok.dst = dk) (vi vj vk : Value) (w' : World)
    (r0 : Region.ready .any ops listed = [i, j]) (r1 : Region.ready .any ops (listed.setIfInBounds i true) = [j]) (r2 : Region.ready .any ops ((listed.setIfInBounds i true).setIfInBounds j true) = [k])
    (r3 : Region.ready .any ops (listed.setIfInBounds j true) = [i, k]) (r4 : Region.ready .any ops ((listed.setIfInBounds j true).setIfInBounds i true) = [k]) (r5 : Region.ready .any ops ((listed.setIfInBounds j true).setIfInBounds k true) = [i])
    (x0 : (execOp a.eval oi).run P w = .ok (.value vi) w) (x1 : (execOp (a.put di vi).eval oj).run P w = .ok (.value vj) w) (x2 : (execOp ((a.put di vi).put dj vj).eval ok).run P w = .ok (.value vk) w')
    (x3 : (execOp a.eval oj).run P w = .ok (.value vj) w) (x4 : (execOp (a.put dj vj).eval oi).run P w = .ok (.value vi) w) (x5 : (execOp ((a.put dj vj).put di vi).eval ok).run P w = .ok (.value vk) w')
    (x6 : (execOp (a.put dj vj).eval ok).run P w = .ok (.value vk) w') (x7 : (execOp ((a.put dj vj).put dk vk).eval oi).run P w' = .ok (.value vi) w')
    (e1 : ((listed.setIfInBounds j true).setIfInBounds i true).setIfInBounds k true = ((listed.setIfInBounds i true).setIfInBounds j true).setIfInBounds k true)
    (e2 : ((listed.setIfInBounds j true).setIfInBounds k true).setIfInBounds i true = ((listed.setIfInBounds i true).setIfInBounds j true).setIfInBounds k true)
    (a1 : ((a.put dj vj).put di vi).put dk vk = ((a.put di vi).put dj vj).put dk vk)
    (a2 : ((a.put dj vj).put dk vk).put di vi = ((a.put di vi).put dj vj).put dk vk)
    (h : wpAny P .any ops Q fuel (((listed.setIfInBounds i true).setIfInBounds j true).setIfInBounds k true) (((a.put di vi).put dj vj).put dk vk) w') : wpAny P .any ops Q (fuel + 3) listed a w := by
  subst ei ej ek
  refine wpAny_all r0 (by simp) (fun n hn => ?_)
  have hn : n = i ∨ n = j := by simpa using hn
  rcases hn with rfl | rfl
  · exact opAt_value hi gi x0 (any_one _ r1 hj gj x1 rfl (any_one _ r2 hk gk x2 rfl h))
  · refine opAt_value hj gj x3 (wpAny_all r3 (by simp) (fun m hm => ?_))
    have hm : m = i ∨ m = k := by simpa using hm
    rcases hm with rfl | rfl
    · exact opAt_value hi gi x4 (any_one _ r4 hk gk x5 rfl (by rw [e1, a1]; exact h))
    · exact opAt_value hk gk x6 (any_one _ r5 hi gi x7 rfl (by rw [e2, a2]; exact h))
end
theorem region_any {P : Program} {id : Nat} {Q : Exit → Act → World → Prop} {a : Act} {w : World} {l : List Oper} (n : Nat) (L : List Bool) (hn : l.length = n) (hL : List.replicate n false = L) (hm : P.follows .mixedOrders = true)
    (h : ∀ W, W = w.drew → wpAny P .any l.toArray Q n L.toArray a W) : (Code.region id l.toArray true).wp P Q a w := wp_region_any hm (by
  subst hn hL
  have := h _ rfl
  simpa using this)
theorem any_take {P : Program} {ops : Array Oper} {Q : Exit → Act → World → Prop} {i : Nat} {oi : Oper} (dst : Option Tmp) (v : Value) {fuel : Nat} {listed : Array Bool} {a : Act} {w : World} (hi : ops[i]? = some oi) (hd : oi.dst = dst)
    (hs : Region.noSelect ops = true) (hf : Region.free .any ops listed i = true) (hr : (Region.ready .any ops listed).contains i = true)
    (hQ : ∀ c a w, Q (.panic c) (a.put dst v) w → Q (.panic c) a w) (hy : Yields P ops oi v a)
    (h : wpAny P .any ops Q fuel (listed.setIfInBounds i true) (a.put dst v) w) : wpAny P .any ops Q (fuel + 1) listed a w := by
  subst hd
  exact wpAny_take hi hs hf hr hQ hy h
theorem still_value {P : Program} {ops : Array Oper} {w : World} {Q : Act → Prop} {a : Act} {o : Oper} {rest : List Oper} {v : Value} (hg : o.guard = none) (hrun : (execOp a.eval o).run P w = .ok (.value v) w)
    (h : wpStill P ops w Q rest (a.put o.dst v)) : wpStill P ops w Q (o :: rest) a := wpStill_step (fun K hK => by
  rw [if_pos (by simp [Region.wanted, hg])]
  unfold Oper.still
  rw [hrun, Oper.stillUpon_value]
  exact hK _ h)
theorem any_skip {P : Program} {ops : Array Oper} {Q : Exit → Act → World → Prop} {fuel : Nat} {listed : Array Bool} {a : Act} {w : World} {i : Nat} {o : Oper} {w' : World} (hr : Region.ready .any ops listed = [i]) (ho : ops[i]? = some o) (hg : o.guard = none) (hrun : (execOp a.eval o).run P w = .ok .skip w')
    (h : wpAny P .any ops Q fuel (listed.setIfInBounds i true) (a.put o.dst undef) w') : wpAny P .any ops Q (fuel + 1) listed a w :=
  wpAny_all hr (by simp) (fun j hj => by
    obtain rfl : j = i := by simpa using hj
    exact wpOp_step ho (fun K hK => by
      rw [if_pos (by simp [Region.wanted, hg])]
      unfold Oper.wp
      rw [hrun, Oper.upon_skip]
      exact hK _ _ h))
theorem exec_append {P : Program} {a : Act} {w w' : World} {op : Oper} (x y : Operand) (t : TypeId) (ho : op.op = .call { callee := .builtin .append, args := #[x, y], argTypes := #[t, t] }) {v u v' : Value} (hx : a.eval x = v) (hy : a.eval y = u) (hr : (Builtin.append_ #[t, t] op.type #[v, u]).run P w = .ok v' w') :
    (execOp a.eval op).run P w = .ok (.value v') w' := by
  unfold execOp
  simp only [ho, resolve, invoke, builtin, Sem.run_bind, Sem.run_pure, Result.andThen_ok, List.map_toArray, List.map_cons, List.map_nil, hx, hy, hr]
theorem range_bV {w : World} {g : Nat} {x : Wt} (h : w.rangeAt g 0 (wV x)) : w.rangeAt g 1 (bV x.2) := fun j v hv => by
  have := h (j + 1) v (by simpa [wV] using hv)
  rw [show (0 : Nat) + (j + 1) = 1 + j by omega] at this
  exact this
theorem under_C : ∃ d, Tryz.prog.underlying TC = some d ∧ d.isRow = true := ⟨_, Tryz.underlying103, rfl⟩
theorem info_C : (Tryz.prog.info? TC).map (·.size) = some 64 := by kernel_rfl
theorem exec_load_C {a : Act} {w : World} {op : Oper} (y : Operand) (ho : op.op = .load TC y) (g o : Nat) (hy : a.eval y = .pointer (some ⟨g, o, none⟩)) {x : ByteArray} (hx : x.size = 64) (h : w.rangeAt g o (bV x)) : (execOp a.eval op).run Tryz.prog w = .ok (.value (.agg (bV x).toArray)) w := by
  obtain ⟨d, h1, h2⟩ := under_C
  unfold execOp
  simp only [ho, hy, Sem.run_bind, run_loadAt_mid w g o TC (bV x) d h h1 h2 (by rw [info_C, bV_len, hx]), Result.andThen_ok, Sem.run_pure]
theorem exec_load_W {a : Act} {w : World} {op : Oper} (y : Operand) (ho : op.op = .load TW y) (g o : Nat) (hy : a.eval y = .pointer (some ⟨g, o, none⟩)) {x : Wt} (hx : x.2.size = 64) (h : w.rangeAt g o (wV x)) : (execOp a.eval op).run Tryz.prog w = .ok (.value (.agg (wV x).toArray)) w := by
  unfold execOp
  simp only [ho, hy, Sem.run_bind, run_load_W hx h, Result.andThen_ok, Sem.run_pure]
theorem exec_load_1 {P : Program} {a : Act} {w : World} {op : Oper} (t : TypeId) (y : Operand) (ho : op.op = .load t y) (ad : Addr) (hy : a.eval y = .pointer (some ad)) {v : Value} (hl : ∀ w', w'.cell? ad = some v → (Instr.loadAt t (.pointer (some ad))).run P w' = .ok v w') (h : w.cell? ad = some v) : (execOp a.eval op).run P w = .ok (.value v) w := by
  unfold execOp
  simp only [ho, hy, Sem.run_bind, hl w h, Result.andThen_ok, Sem.run_pure]
theorem fill_W {x : Wt} (hx : x.2.size = 64) (cs : Array Value) (hc : cs.size = 65) : Instr.fill (fun i => some (i * 65, 65)) cs [(0, .agg (wV x).toArray)] = some (wV x).toArray := by
  have hl := wV_len hx
  obtain ⟨r, hr, hsz, hk⟩ := Great.fill_dense (s := 65) (by decide) [.agg (wV x).toArray] 0 cs (fun v hv => by
    obtain rfl : v = .agg (wV x).toArray := by simpa using hv
    simpa [Value.cells] using hl) (by simp only [List.length_cons, List.length_nil]; omega)
  refine Eq.trans hr ?_
  congr 1
  apply Array.ext_getElem?
  intro k
  rw [hk k]
  by_cases h : k < 65
  · rw [if_pos (by simp only [List.length_cons, List.length_nil]; omega), Nat.div_eq_of_lt h, Nat.mod_eq_of_lt h]
    rfl
  · rw [if_neg (by simp only [List.length_cons, List.length_nil]; omega), Array.getElem?_eq_none (by omega), Array.getElem?_eq_none (by simp only [List.size_toArray]; omega)]
theorem infW : (Tryz.prog.info? TW).map (fun i => (i.zero, i.size, i.bytes)) = some (some (.agg zW), 65, 72) := by kernel_rfl
theorem exec_slice_W {a : Act} {w : World} {op : Oper} (y : Operand) (ho : op.op = .buildSlice 106 1 #[(0, y)]) {x : Wt} (hy : a.eval y = .agg (wV x).toArray) (hx : x.2.size = 64) :
    (execOp a.eval op).run Tryz.prog w = .ok (.value (.slice (some ⟨w.heap.size, 0, none⟩) 1 1)) (w.alloc (.cells (wV x).toArray TW)) := by
  obtain ⟨ie, hie, hz, hs, _⟩ := info_of infW
  have hrun := run_buildSlice (P := Tryz.prog) w 106 TW 1 #[(0, .agg (wV x).toArray)] (wV x).toArray ie (.agg zW) Tryz.underlying106 hie hz (by rw [hs]; decide) (by rw [hs]; decide) (by rw [hs]; exact fill_W hx _ (by simp))
  unfold execOp
  simp only [ho, List.map_toArray, List.map_cons, List.map_nil, hy, Sem.run_bind, hrun, Result.andThen_ok, Sem.run_pure]
theorem exec_store {P : Program} {a : Act} {w w' : World} {op : Oper} (t : TypeId) (y z : Operand) (ho : op.op = .store t y z) {u v : Value} (hy : a.eval y = u) (hz : a.eval z = v) (hs : (Instr.storeAt t u v).run P w = .ok () w') : (execOp a.eval op).run P w = .ok .skip w' := by
  unfold execOp
  simp only [ho, hy, hz, Sem.run_bind, hs, Result.andThen_ok, Sem.run_pure]
theorem exec_nil {P : Program} {a : Act} {w : World} {op : Oper} (y : Operand) (ho : op.op = .nilCheck y) (ad : Addr) (hy : a.eval y = .pointer (some ad)) : (execOp a.eval op).run P w = .ok (.value (.pointer (some ad))) w := by
  unfold execOp
  simp only [ho, hy]
  rfl
theorem exec_field {P : Program} {a : Act} {w : World} {op : Oper} (t : TypeId) (y : Operand) (i : Nat) (ho : op.op = .fieldAddr t y i) {u v : Value} (hy : a.eval y = u) (hf : (Instr.fieldAt t u i).run P w = .ok v w) : (execOp a.eval op).run P w = .ok (.value v) w := by
  unfold execOp
  simp only [ho, hy, Sem.run_bind, hf, Result.andThen_ok, Sem.run_pure]
theorem wr_becomes {w w' : World} {p : Nat} {d : Dk} {m : Nat} {s : ByteArray} {n gk gs : Nat} {v v' : Value} (hd : d.down = false) (h : DqIn w' p d.kept (d.see.set m s) (d.waits ++ [(m, s)]) false n gk gs v') (ht : Tn (dqF p gk gs v) w w')
    (hv : ∀ j, v'.ownBlock = some j → v.ownBlock = some j ∨ w.heap.size ≤ j) : Becomes (dqF p gk gs v) (dpA p { d with waits := d.waits ++ [(m, s)] }) w w' := by
  refine dpA_becomes (n := n) (gk := gk) (gs := gs) (v := v) (v' := v') ?_ ht hv
  have e : (Dk.see { d with waits := d.waits ++ [(m, s)] }) = d.see.set m s := keepAll_snoc _ _ _
  rw [e]
  show DqIn w' p d.kept (d.see.set m s) (d.waits ++ [(m, s)]) d.down n gk gs v'
  rw [hd]
  exact h
abbrev o29 : Oper := ⟨some 29, .move (.tmp 0), 27, "disk.go:49", #[], none⟩
abbrev o30 : Oper := ⟨some 30, .move (.tmp 0), 27, "disk.go:49", #[], none⟩
abbrev o31 : Oper := ⟨some 31, .nilCheck (.tmp 30), 0, "disk.go:49", #[{ on := 1, ground := .data }], none⟩
abbrev o32 : Oper := ⟨some 32, .fieldAddr TD (.tmp 31) 2, 0, "disk.go:49", #[{ on := 2, ground := .data }], none⟩
abbrev o33 : Oper := ⟨some 33, .load 106 (.tmp 32), 106, "disk.go:49", #[{ on := 3, ground := .data }], none⟩
abbrev o34 : Oper := ⟨some 34, .load TW (.tmp 8), TW, "disk.go:49", #[], none⟩
abbrev o35 : Oper := ⟨some 35, .buildSlice 106 1 #[(0, .tmp 34)], 106, "disk.go:49", #[{ on := 5, ground := .data }], none⟩
abbrev o36 : Oper := ⟨some 36, .call { callee := .builtin .append, args := #[.tmp 33, .tmp 35], argTypes := #[106, 106] }, 106, "disk.go:49", #[{ on := 4, ground := .data }, { on := 6, ground := .data }], none⟩
abbrev o37 : Oper := ⟨some 37, .nilCheck (.tmp 29), 0, "disk.go:49", #[{ on := 0, ground := .data }, { on := 0, ground := .phase }, { on := 1, ground := .phase }, { on := 2, ground := .phase }, { on := 3, ground := .phase }, { on := 4, ground := .phase }, { on := 5, ground := .phase }, { on := 6, ground := .phase }, { on := 7, ground := .phase }], none⟩
abbrev o38 : Oper := ⟨some 38, .fieldAddr TD (.tmp 37) 2, 0, "disk.go:49", #[{ on := 8, ground := .data }, { on := 0, ground := .phase }, { on := 1, ground := .phase }, { on := 2, ground := .phase }, { on := 3, ground := .phase }, { on := 4, ground := .phase }, { on := 5, ground := .phase }, { on := 6, ground := .phase }, { on := 7, ground := .phase }], none⟩
abbrev o39 : Oper := ⟨none, .store 106 (.tmp 38) (.tmp 36), 0, "disk.go:49", #[{ on := 9, ground := .data }, { on := 7, ground := .data }, { on := 7, ground := .chain }, { on := 0, ground := .phase }, { on := 1, ground := .phase }, { on := 2, ground := .phase }, { on := 3, ground := .phase }, { on := 4, ground := .phase }, { on := 5, ground := .phase }, { on := 6, ground := .phase }, { on := 7, ground := .phase }], none⟩
set_option maxRecDepth 100000 in
set_option maxHeartbeats 4000000 in
theorem kpwrite1 (p : Nat) (d : Dk) (m : Nat) (s : ByteArray) (hn : d.waits.length ≤ 1000000) (hd : d.down = false) (h6 : s.size = 64) {w : World} {n gk gs : Nat} {v : Value} (hi : DqIn w p d.kept d.see d.waits false n gk gs v) (hm : m < n)
    (Hu : Hid (Calls Tryz.prog 52 #[.pointer (some ⟨p, 0, none⟩)] w fun e w' => e = .returned (.int .i64 (if false = true then 801 else 0)) ∧ w = w'))
    (Hh : Hid (Calls Tryz.prog 53 #[.pointer (some ⟨p, 0, none⟩), .int .i64 (m : Int)] w fun e w' => e = .returned (.bool true) ∧ w = w')) :
    Calls Tryz.prog 20 #[.pointer (some ⟨p, 0, none⟩), .int .i64 (m : Int), .string s] w fun e w' => e = .returned (.int .i64 0) ∧ Becomes (dqF p gk gs v) (dpA p { d with waits := d.waits ++ [(m, s)] }) w w' := by
  have h6' : (s.size : Int) = 64 := by omega
  have hfew := hi.few
  unfold maxLen at hfew
  go_enter Tryz.func20, Tryz.ntmps20
  go_wp2_with (first
    | (go_at_call 52; (with_reducible refine (Hu.out).mono ?_); rintro e w1 ⟨rfl, rfl⟩)
    | (go_at_call 53; (with_reducible refine (Hh.out).mono ?_); rintro e w1 ⟨rfl, rfl⟩)
    | (refine wpList_build_W rfl (.tmp 23) rfl m rfl ?_)
    | (refine wpList_alloc_W rfl rfl ?_)
    | (refine wpList_store_W rfl (.tmp 8) (.tmp 24) rfl rfl rfl rfl ?_)
    | (refine wpList_copy_W rfl (.tmp 26) (.tmp 27) rfl rfl rfl rfl h6 ?_))
  have hA := hi.alloc (.cells (wV (m, s)).toArray TW)
  have hr := range_new w (m, s)
  have hB : Tn (dqF p gk gs v) w (w.alloc (.cells (wV (m, s)).toArray TW)) := (Tn.refl _ _).alloc _
  have hpl : p < w.heap.size := hi.lt p (by simp)
  have hvs : ∀ j, v.ownBlock = some j → j < w.heap.size := fun j hj => hi.lt j (by simp [hj])
  clear hi Hu Hh
  refine region_any 11 [false, false, false, false, false, false, false, false, false, false, false] rfl rfl (by kernel_rfl) fun W hW => ?_
  have hD : DqIn W p d.kept d.see d.waits false n gk gs v := by subst hW; exact hA.drew
  have hR : W.rangeAt w.heap.size 0 (wV (m, s)) := by subst hW; exact hr
  have hT : Tn (dqF p gk gs v) w W := by subst hW; exact hB.drew
  have hWs : W.heap.size = w.heap.size + 1 := by subst hW; simp
  clear hA hr hB hW
  have c2 := hD.c2
  have hD2 := hD.alloc (.cells (wV (m, s)).toArray TW)
  have c22 := hD2.c2
  obtain ⟨inf, hif, hz0, hz1, hz2⟩ := info_of infW
  obtain ⟨g2, cap2, w2, hrun, hown, hgrow, hloc, _⟩ := run_append_lies (P := Tryz.prog) (W.alloc (.cells (wV (m, s)).toArray TW)) 106 106 0 TW inf (.agg zW) 65 72 Tryz.underlying106 hif hz0 hz1 hz2 zW_size (by decide) v d.waits.length (pV d.waits) hD2.rw ⟨W.heap.size, 0, none⟩ 1 1 (wV (m, s)) (wV_len h6) (fun j u hu => by rw [Addr.add_mid]; exact range_new W (m, s) j u hu) (wV_one _) (by decide) (by unfold maxLen; omega) (by omega) (Nat.zero_le _) _ rfl
  have hD3 := hD2.added (x := (m, s)) hgrow hown ⟨hm, h6⟩ (by rcases hloc with e | e; exact .inl e.symm; exact .inr ⟨g2, Nat.le_of_eq e.symm, rfl⟩)
  have hT3 : Tn (dqF p gk gs v) w (w2.setCell ⟨p, 2, none⟩ (.slice (some ⟨g2, 0, none⟩) (d.waits.length + 1) cap2)) := by
    refine Tn.setCell (Tn.grown (hT.alloc _) hgrow (fun j hj => .inl (by simp [hj]))) (.inl (by simp)) _
  have hR3 : (w2.setCell ⟨p, 2, none⟩ (.slice (some ⟨g2, 0, none⟩) (d.waits.length + 1) cap2)).rangeAt w.heap.size 0 (wV (m, s)) := fun j u hu => by
    have h1 := World.rangeAt_alloc hR (.cells (wV (m, s)).toArray TW) j u hu
    have hpw : p ≠ w.heap.size := Nat.ne_of_lt hpl
    rw [World.cell?_setCell_other _ _ _ _ (by simp)]
    exact (World.cell?_of_block (a := ⟨w.heap.size, 0 + j, none⟩) (hgrow.block w.heap.size (by simp; omega) (fun e => by have := hvs _ e.symm; omega))).trans h1
  have f2 : w2.frozen? ⟨p, 2, none⟩ = false := by have := hD3.f 2; rwa [World.frozen?_setCell] at this
  have e2 : w2.cell? ⟨p, 2, none⟩ = some v := (World.cell?_of_block (a := ⟨p, 2, none⟩) (hgrow.block p (hD2.lt p (by simp)) (fun e => hD2.v1 e.symm))).trans c22
  have hst : (Instr.storeAt 106 (.pointer (some ⟨p, 2, none⟩)) (.slice (some ⟨g2, 0, none⟩) (d.waits.length + 1) cap2)).run Tryz.prog w2 = .ok () (w2.setCell ⟨p, 2, none⟩ (.slice (some ⟨g2, 0, none⟩) (d.waits.length + 1) cap2)) := by go_simp
  have hfd : (Instr.fieldAt TD (.pointer (some ⟨p, 0, none⟩)) 2).run Tryz.prog w2 = .ok (.pointer (some ⟨p, 2, none⟩)) w2 := by go_simp
  have hld : ∀ w', w'.cell? ⟨p, 2, none⟩ = some v → (Instr.loadAt 106 (.pointer (some ⟨p, 2, none⟩))).run Tryz.prog w' = .ok v w' := fun w' h => by go_simp
  have hloc2 : ∀ j, (Value.slice (some ⟨g2, 0, none⟩) (d.waits.length + 1) cap2).ownBlock = some j → v.ownBlock = some j ∨ w.heap.size ≤ j := fun j hj => by
    obtain rfl : g2 = j := by simpa [Value.ownBlock] using hj
    rcases hloc with e | e
    · exact .inl e
    · right; rw [e]; simp; omega
  clear hT hD2 hgrow hown hloc hD
  refine any_take (i := 0) (oi := o29) (some 29) (.pointer (some ⟨p, 0, none⟩)) rfl rfl (by kernel_rfl) (by kernel_rfl) (by kernel_rfl) (fun _ _ _ h => h) (Or.inl ⟨by rfl, fun w => by go_simp⟩) ?_
  simp only [Act.put, List.setIfInBounds_toArray, List.set_cons_zero, List.set_cons_succ]
  refine any_take (i := 1) (oi := o30) (some 30) (.pointer (some ⟨p, 0, none⟩)) rfl rfl (by kernel_rfl) (by kernel_rfl) (by kernel_rfl) (fun _ _ _ h => h) (Or.inl ⟨by rfl, fun w => by go_simp⟩) ?_
  simp only [Act.put, List.setIfInBounds_toArray, List.set_cons_zero, List.set_cons_succ]
  refine any_take (i := 2) (oi := o31) (some 31) (.pointer (some ⟨p, 0, none⟩)) rfl rfl (by kernel_rfl) (by kernel_rfl) (by kernel_rfl) (fun _ _ _ h => h) (Or.inl ⟨by rfl, fun w => by go_simp⟩) ?_
  simp only [Act.put, List.setIfInBounds_toArray, List.set_cons_zero, List.set_cons_succ]
  refine any_take (i := 3) (oi := o32) (some 32) (.pointer (some ⟨p, 2, none⟩)) rfl rfl (by kernel_rfl) (by kernel_rfl) (by kernel_rfl) (fun _ _ _ h => h) (Or.inl ⟨by rfl, fun w => by go_simp⟩) ?_
  simp only [Act.put, List.setIfInBounds_toArray, List.set_cons_zero, List.set_cons_succ]
  refine any_three 4 5 6 (oi := o33) (oj := o34) (ok := o35) (some 33) (some 34) (some 35) rfl rfl rfl rfl rfl rfl rfl rfl rfl v (.agg (wV (m, s)).toArray) (.slice (some ⟨W.heap.size, 0, none⟩) 1 1) (W.alloc (.cells (wV (m, s)).toArray TW)) (by kernel_rfl) (by kernel_rfl) (by kernel_rfl) (by kernel_rfl) (by kernel_rfl) (by kernel_rfl)
    (exec_load_1 106 (.tmp 32) rfl ⟨p, 2, none⟩ rfl hld c2) (exec_load_W (.tmp 8) rfl w.heap.size 0 rfl h6 hR) (exec_slice_W (.tmp 34) rfl rfl h6)
    (exec_load_W (.tmp 8) rfl w.heap.size 0 rfl h6 hR) (exec_load_1 106 (.tmp 32) rfl ⟨p, 2, none⟩ rfl hld c2) (exec_slice_W (.tmp 34) rfl rfl h6)
    (exec_slice_W (.tmp 34) rfl rfl h6) (exec_load_1 106 (.tmp 32) rfl ⟨p, 2, none⟩ rfl hld c22) (by kernel_rfl) (by kernel_rfl) (by kernel_rfl) (by kernel_rfl) ?_
  simp only [Act.put, List.setIfInBounds_toArray, List.set_cons_zero, List.set_cons_succ]
  refine any_one (i := 7) (o := o36) (some 36) (by kernel_rfl) rfl rfl (exec_append (.tmp 33) (.tmp 35) 106 rfl rfl rfl hrun) rfl ?_
  simp only [Act.put, List.setIfInBounds_toArray, List.set_cons_zero, List.set_cons_succ]
  refine any_one (i := 8) (o := o37) (some 37) (w' := w2) (v := .pointer (some ⟨p, 0, none⟩)) (by kernel_rfl) rfl rfl (exec_nil (.tmp 29) rfl ⟨p, 0, none⟩ rfl) rfl ?_
  simp only [Act.put, List.setIfInBounds_toArray, List.set_cons_zero, List.set_cons_succ]
  refine any_one (i := 9) (o := o38) (some 38) (w' := w2) (v := .pointer (some ⟨p, 2, none⟩)) (by kernel_rfl) rfl rfl (exec_field TD (.tmp 37) 2 rfl rfl hfd) rfl ?_
  simp only [Act.put, List.setIfInBounds_toArray, List.set_cons_zero, List.set_cons_succ]
  refine any_skip (i := 10) (o := o39) (w' := w2.setCell ⟨p, 2, none⟩ (.slice (some ⟨g2, 0, none⟩) (d.waits.length + 1) cap2)) (by kernel_rfl) rfl rfl (exec_store 106 (.tmp 38) (.tmp 36) rfl rfl rfl hst) ?_
  refine wpAny_done (by kernel_rfl) ?_ _
  clear hst hfd hld e2 f2 c22 c2 hR hrun
  go_wp2
  refine region_tail 8 (by kernel_rfl) (by kernel_rfl) fun X hX => ?_
  have hE : DqIn X p d.kept d.see (d.waits ++ [(m, s)]) false n gk gs (.slice (some ⟨g2, 0, none⟩) (d.waits.length + 1) cap2) := by subst hX; exact hD3.drew
  have hRX : X.rangeAt w.heap.size 1 (bV s) := by subst hX; exact range_bV hR3
  have hTX : Tn (dqF p gk gs v) w X := by subst hX; exact hT3.drew
  clear hD3 hR3 hT3 hX
  have c1 := hE.c1
  have bs := hE.bs
  have hms : m < d.see.length := by rw [hE.sn]; exact hm
  have hlen := flatS_len hE.ss
  rw [hE.sn] at hlen
  have hlay := flatS_lay64 hE.ss hms s
  have HF := Lib.hid (wr_becomes hd (hE.setS (s' := d.see.set m s) (by rw [List.length_set]; exact hE.sn) (set_sz hE.ss h6)) (hTX.setRow (g := gs) (.inl (by simp)) (flatS (d.see.set m s)).toArray) hloc2)
  clear hE hTX
  simp only [List.take_succ_cons, List.take_zero, List.drop_succ_cons, List.drop_zero]
  iterate 6 still_step
  refine still_value rfl (exec_load_C (.tmp 44) rfl w.heap.size 1 rfl h6 hRX) ?_
  simp only [Act.put, List.setIfInBounds_toArray, List.set_cons_zero, List.set_cons_succ]
  still_step
  refine wpStill_nil ?_
  refine wpList_store_at rfl TC (.tmp 46) (.tmp 45) rfl gs (m * 64) (bV s) rfl rfl TC (flatS d.see) bs (by rw [info_C, bV_len, h6]) (by rw [bV_len, h6]; omega) (bV_one s) ?_
  rw [bV_len, h6, hlay]
  clear hRX bs hlen hlay c1
  go_wp2
  go_ret
  exact ⟨rfl, HF.out⟩
open Go Go.RowKit
set_option maxRecDepth 100000 in
set_option maxHeartbeats 4000000 in
theorem kpwrite (p : Nat) (d : Dk) (i : Int) (s : ByteArray) (hn : d.waits.length ≤ 1000000) : Does Tryz.prog (dpA p d) 20 #[.pointer (some ⟨p, 0, none⟩), .int .i64 i, .string s] (.returned (.int .i64 (d.wrE i s))) (dpA p (d.wr i s)) := by
  intro w F h
  have hs := dpA_same h (Below.refl _ _)
  obtain ⟨n, gk, gs, v, hi, rfl⟩ := h
  have Hu := Lib.hid (kup hi)
  have Hh := Lib.hid (khas hi i)
  have hkn := hi.kn
  cases hd : d.down with
  | true =>
    rw [show d.wrE i s = 801 by unfold Dk.wrE; rw [hd]; rfl, show d.wr i s = d by unfold Dk.wr; rw [hd]; rfl]
    rw [hd] at Hu
    clear hi
    go_enter Tryz.func20, Tryz.ntmps20
    go_wp2_with (go_at_call 52; (with_reducible refine (Hu.out).mono ?_); rintro e w1 ⟨rfl, rfl⟩)
    go_ret
    exact ⟨rfl, hs⟩
  | false =>
    rw [hd] at Hu
    cases hh : d.has i with
    | false =>
      rw [show d.wrE i s = 800 by unfold Dk.wrE; rw [hd, hh]; rfl, show d.wr i s = d by unfold Dk.wr; rw [hd, hh]; rfl]
      unfold Dk.has at hh
      rw [hkn] at hh
      rw [hh] at Hh
      clear hi
      go_enter Tryz.func20, Tryz.ntmps20
      go_wp2_with (first
        | (go_at_call 52; (with_reducible refine (Hu.out).mono ?_); rintro e w1 ⟨rfl, rfl⟩)
        | (go_at_call 53; (with_reducible refine (Hh.out).mono ?_); rintro e w1 ⟨rfl, rfl⟩))
      go_ret
      exact ⟨rfl, hs⟩
    | true =>
      obtain ⟨h0, h1⟩ := (d.has_iff i).1 hh
      by_cases h6 : s.size = 64
      · rw [show d.wrE i s = 0 by unfold Dk.wrE; rw [hd, hh]; simp [h6], show d.wr i s = { d with waits := d.waits ++ [(i.toNat, s)] } by unfold Dk.wr; rw [hd, hh]; simp [h6]]
        unfold Dk.has at hh
        rw [hkn] at hh h1
        rw [hh] at Hh
        obtain ⟨m, rfl⟩ := Int.eq_ofNat_of_zero_le h0
        rw [hd] at hi
        exact kpwrite1 p d m s hn hd h6 hi (by omega) Hu Hh
      · rw [show d.wrE i s = 800 by unfold Dk.wrE; rw [hd, hh]; simp [h6], show d.wr i s = d by unfold Dk.wr; rw [hd, hh]; simp [h6]]
        unfold Dk.has at hh
        rw [hkn] at hh
        rw [hh] at Hh
        have h6' : ((s.size : Int) != 64) = true := by simp; omega
        clear hi h6
        go_enter Tryz.func20, Tryz.ntmps20
        go_wp2_with (first
          | (go_at_call 52; (with_reducible refine (Hu.out).mono ?_); rintro e w1 ⟨rfl, rfl⟩)
          | (go_at_call 53; (with_reducible refine (Hh.out).mono ?_); rintro e w1 ⟨rfl, rfl⟩))
        go_ret
        exact ⟨rfl, hs⟩
end Go.Proofs.YtbfpfmidjdonjaaGreatDoor
