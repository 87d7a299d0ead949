/- The walk of SuperForms, at each text that is none. Conditions: as typed. -/
import Derived.Test.YtiebpjkppjollaaDoorSfr
import Derived.IntWalk
import Derived.Great.BuildSlice
import Derived.Laws.BitsLemmas
namespace Go.Proofs.YtiebpjkppjollaaDoor
open Go Go.RowKit

theorem infS1 : (Tryd.prog.info? 9).map (fun i => (i.zero, i.size, i.bytes)) = some (some (.string ⟨#[]⟩), 1, 16) := by kernel_rfl
theorem fill7 (t0 t1 t2 t3 t4 t5 t6 : ByteArray) : Instr.fill (fun i => some (i * 1, 1)) ((Array.range (7 * 1)).map ((Value.string ⟨#[]⟩).cells[· % (Value.string ⟨#[]⟩).cells.size]!)) #[(0, .string t0), (1, .string t1), (2, .string t2), (3, .string t3), (4, .string t4), (5, .string t5), (6, .string t6)].toList = some #[.string t0, .string t1, .string t2, .string t3, .string t4, .string t5, .string t6] := by kernel_rfl
theorem exec_b7 {a : Act} {w : World} {op : Oper} (x1 x2 x3 x4 x5 x6 : Operand) (ho : op.op = .buildSlice 53 7 #[(0, .const (.string ⟨#[]⟩)), (1, x1), (2, x2), (3, x3), (4, x4), (5, x5), (6, x6)]) {t1 t2 t3 t4 t5 t6 : ByteArray}
    (h0 : a.eval (.const (.string ⟨#[]⟩)) = .string ⟨#[]⟩) (h1 : a.eval x1 = .string t1) (h2 : a.eval x2 = .string t2) (h3 : a.eval x3 = .string t3) (h4 : a.eval x4 = .string t4) (h5 : a.eval x5 = .string t5) (h6 : a.eval x6 = .string t6) :
    (execOp a.eval op).run Tryd.prog w = .ok (.value (.slice (some ⟨w.heap.size, 0, none⟩) 7 7)) (w.alloc (.cells #[.string ⟨#[]⟩, .string t1, .string t2, .string t3, .string t4, .string t5, .string t6] 9)) := by
  obtain ⟨ie, hie, hz, hs, _⟩ := info_parts infS1
  have hrun := run_buildSlice (P := Tryd.prog) w 53 9 7 #[(0, .string ⟨#[]⟩), (1, .string t1), (2, .string t2), (3, .string t3), (4, .string t4), (5, .string t5), (6, .string t6)] #[.string ⟨#[]⟩, .string t1, .string t2, .string t3, .string t4, .string t5, .string t6] ie (.string ⟨#[]⟩) Tryd.underlying53 hie hz (by rw [hs]; decide) (by rw [hs]; decide) (by rw [hs]; exact fill7 _ _ _ _ _ _ _)
  unfold execOp
  simp only [ho, List.map_toArray, List.map_cons, List.map_nil, h0, h1, h2, h3, h4, h5, h6, Sem.run_bind, hrun, Result.andThen_ok, Sem.run_pure]
theorem exec_make {P : Program} {a : Act} {w w' : World} {op : Oper} (t : TypeId) (x y : Operand) (ho : op.op = .makeSlice t x y) {u v r : Value} (hx : a.eval x = u) (hy : a.eval y = v) (hr : (Instr.makeSlice t u v).run P w = .ok r w') : (execOp a.eval op).run P w = .ok (.value r) w' := by
  unfold execOp
  simp only [ho, hx, hy, Sem.run_bind, hr, Result.andThen_ok, Sem.run_pure]
theorem exec_conv {P : Program} {a : Act} {w w' : World} {op : Oper} (t t2 : TypeId) (x : Operand) (ho : op.op = .convert t t2 x) {u r : Value} (hx : a.eval x = u) (hr : (convert t t2 u).run P w = .ok r w') : (execOp a.eval op).run P w = .ok (.value r) w' := by
  unfold execOp
  simp only [ho, hx, Sem.run_bind, hr, Result.andThen_ok, Sem.run_pure]
set_option maxRecDepth 100000 in
set_option maxHeartbeats 8000000 in
theorem sforms0 (S : ByteArray) (T : List ByteArray) (n x : Int) (m : Nat) (m1 : m ≤ 1023) (hm : bits .and .i64 x 1023 = (m : Int)) (hj : (IntKind.u64.wrap n).tmod 7 = 0) (h64 : S.size = 64) (hT : T.length = 1)
    (ha : ∀ p : Nat, DoesG Tryd.prog (bookA p 1 []) 24 #[.pointer (some ⟨p, 0, none⟩), .int .i64 1023] (.returned (.tuple #[.string S, .int .i64 0])) (bookA p 1 T))
    (hb : ∀ p : Nat, DoesG Tryd.prog (bookA p 1 T) 24 #[.pointer (some ⟨p, 0, none⟩), .int .i64 (1023 + (1 + (m : Int)))] (.returned (.tuple #[.string ⟨#[]⟩, .int .i64 1000])) (bookA p 1 T))
    (hc : ∀ p : Nat, DoesG Tryd.prog (bookA p 1 T) 24 #[.pointer (some ⟨p, 0, none⟩), .int .i64 (1 - (1 + (m : Int)))] (.returned (.tuple #[.string ⟨#[]⟩, .int .i64 1000])) (bookA p 1 T))
    (hd : ∀ p : Nat, DoesG Tryd.prog (bookA p 1 T) 24 #[.pointer (some ⟨p, 0, none⟩), .int .i64 1] (.returned (.tuple #[.string ⟨#[]⟩, .int .i64 1000])) (bookA p 1 T))
    (he : ∀ p : Nat, DoesG Tryd.prog (bookA p 1 T) 26 #[.pointer (some ⟨p, 0, none⟩), .string (⟨#[]⟩)] (.returned (.tuple #[.int .i64 0, .int .i64 1000])) (bookA p 1 T))
    (hf : ∀ p : Nat, DoesG Tryd.prog (bookA p 1 T) 26 #[.pointer (some ⟨p, 0, none⟩), .string S] (.returned (.tuple #[.int .i64 1023, .int .i64 0])) (bookA p 1 T))
    (hh : ∀ p : Nat, DoesG Tryd.prog (bookA p 1 T) 28 #[.pointer (some ⟨p, 0, none⟩), .string (⟨#[]⟩), .string S] (.returned (.tuple #[.int .i64 1023, .int .i64 0, .int .i64 0])) (bookA p 1 T))
    (w : World) (hg : Gd w) :
    Calls Tryd.prog 10 #[.int .i64 n, .int .i64 x] w fun e w' => e = .returned (.bool true) ∧ Below w.heap.size w w' := by
  have HA := Lib.hid ha
  have HB := Lib.hid hb
  have HC := Lib.hid hc
  have HD := Lib.hid hd
  have HE := Lib.hid he
  have HF := Lib.hid hf
  have HH := Lib.hid hh
  have HG := Lib.hid hg
  have HW := Lib.hid (awake10 w hg)
  have HL := Lib.hid (fun p => dlen p 1 T)
  rw [hT] at HL
  have HN := Lib.hid (fun w => dspick_nil S S w)
  have HQ := Lib.hid (fun w => dsput_nil 1 w)
  have h64i : (S.size : Int) = 64 := by omega
  clear ha hb hc hd he hf hh hg
  go_enter Tryd.func10, Tryd.ntmps10
  go_wp2_with (first
    | (go_at_call 23; (with_reducible refine (HW.out).mono ?_); rintro e w1 ⟨rfl, hb0⟩; have hS0 := At.none hb0; clear hb0)
    | (go_at_call 21; (with_reducible refine (bnew_ok 1 _ (by omega) (by omega)).mono ?_); rintro e w1 ⟨p, rfl, hb⟩; have hS := At.add emp_good hS0 hb; clear hb hS0)
    | (go_at_call 24; first
        | ((with_reducible refine (At.op0G (HA.out _) emp_good HG.out hS).mono ?_); rintro e w1 ⟨rfl, hS1⟩; replace hS := hS1; clear hS1)
        | ((with_reducible refine (At.op0G (HB.out _) emp_good HG.out hS).mono ?_); rintro e w1 ⟨rfl, hS1⟩; replace hS := hS1; clear hS1)
        | ((with_reducible refine (At.op0G (HC.out _) emp_good HG.out hS).mono ?_); rintro e w1 ⟨rfl, hS1⟩; replace hS := hS1; clear hS1)
        | ((with_reducible refine (At.op0G (HD.out _) emp_good HG.out hS).mono ?_); rintro e w1 ⟨rfl, hS1⟩; replace hS := hS1; clear hS1))
    | (go_at_call 16; (with_reducible refine (lnum _ _).mono ?_); rintro e w1 ⟨rfl, rfl⟩))
  refine region_held (S := fun _ => True) 20 [false, false, false, false, false, false, false, false, false, false, false, false, false, false, false, false, false, false, false, false] rfl rfl (by kernel_rfl) fun W hW => ?_
  have hBW : At w ((bookA p 1 T).star emp) W := by subst hW; exact hS.lay (good1 _ _ _) (bdrew _)
  clear hW hS
  refine held_take 0 sf0 (some 78) ?_ rfl rfl (by kernel_rfl) (by kernel_rfl) (by kernel_rfl) (fun _ _ _ h => h) (Or.inl ⟨by rfl, ?_⟩) trivial ?_
  rotate_left
  · intro w0 hy0; (go_simp <;> with_reducible rfl)
  simp only [Act.put, List.setIfInBounds_toArray, List.set_cons_zero, List.set_cons_succ]
  refine held_take 1 sf1 (some 79) ?_ rfl rfl (by kernel_rfl) (by kernel_rfl) (by kernel_rfl) (fun _ _ _ h => h) (Or.inl ⟨by rfl, ?_⟩) trivial ?_
  rotate_left
  · intro w0 hy0; (go_simp <;> with_reducible rfl)
  simp only [Act.put, List.setIfInBounds_toArray, List.set_cons_zero, List.set_cons_succ]
  refine held_take 2 sf2 (some 80) ?_ rfl rfl (by kernel_rfl) (by kernel_rfl) (by kernel_rfl) (fun _ _ _ h => h) (Or.inl ⟨by rfl, ?_⟩) trivial ?_
  rotate_left
  · intro w0 hy0; (go_simp <;> with_reducible rfl)
  simp only [Act.put, List.setIfInBounds_toArray, List.set_cons_zero, List.set_cons_succ]
  refine held_take 3 sf3 (some 81) ?_ rfl rfl (by kernel_rfl) (by kernel_rfl) (by kernel_rfl) (fun _ _ _ h => h) (Or.inl ⟨by rfl, ?_⟩) trivial ?_
  rotate_left
  · intro w0 hy0; (go_simp <;> with_reducible rfl)
  simp only [Act.put, List.setIfInBounds_toArray, List.set_cons_zero, List.set_cons_succ]
  refine held_take 4 sf4 (some 82) ?_ rfl rfl (by kernel_rfl) (by kernel_rfl) (by kernel_rfl) (fun _ _ _ h => h) (Or.inl ⟨by rfl, ?_⟩) trivial ?_
  rotate_left
  · intro w0 hy0; (go_simp <;> with_reducible rfl)
  simp only [Act.put, List.setIfInBounds_toArray, List.set_cons_zero, List.set_cons_succ]
  refine held_take 5 sf5 (some 83) ?_ rfl rfl (by kernel_rfl) (by kernel_rfl) (by kernel_rfl) (fun _ _ _ h => h) (Or.inl ⟨by rfl, ?_⟩) trivial ?_
  rotate_left
  · intro w0 hy0; (go_simp <;> with_reducible rfl)
  simp only [Act.put, List.setIfInBounds_toArray, List.set_cons_zero, List.set_cons_succ]
  refine held_take 6 sf6 (some 84) ?_ rfl rfl (by kernel_rfl) (by kernel_rfl) (by kernel_rfl) (fun _ _ _ h => h) (Or.inl ⟨by rfl, ?_⟩) trivial ?_
  rotate_left
  · intro w0 hy0; (go_simp <;> with_reducible rfl)
  simp only [Act.put, List.setIfInBounds_toArray, List.set_cons_zero, List.set_cons_succ]
  refine held_take 7 sf7 (some 85) ?_ rfl rfl (by kernel_rfl) (by kernel_rfl) (by kernel_rfl) (fun _ _ _ h => h) (Or.inl ⟨by rfl, ?_⟩) trivial ?_
  rotate_left
  · intro w0 hy0; (go_simp <;> with_reducible rfl)
  simp only [Act.put, List.setIfInBounds_toArray, List.set_cons_zero, List.set_cons_succ]
  refine held_take 8 sf8 (some 86) ?_ rfl rfl (by kernel_rfl) (by kernel_rfl) (by kernel_rfl) (fun _ _ _ h => h) (Or.inl ⟨by rfl, ?_⟩) trivial ?_
  rotate_left
  · intro w0 hy0; (go_simp <;> with_reducible rfl)
  simp only [Act.put, List.setIfInBounds_toArray, List.set_cons_zero, List.set_cons_succ]
  refine held_take 9 sf9 (some 87) ?_ rfl rfl (by kernel_rfl) (by kernel_rfl) (by kernel_rfl) (fun _ _ _ h => h) (Or.inl ⟨by rfl, ?_⟩) trivial ?_
  rotate_left
  · intro w0 hy0; (go_simp <;> with_reducible rfl)
  simp only [Act.put, List.setIfInBounds_toArray, List.set_cons_zero, List.set_cons_succ]
  refine held_take 10 sf10 (some 88) ?_ rfl rfl (by kernel_rfl) (by kernel_rfl) (by kernel_rfl) (fun _ _ _ h => h) (Or.inl ⟨by rfl, ?_⟩) trivial ?_
  rotate_left
  · intro w0 hy0; (go_simp <;> with_reducible rfl)
  simp only [Act.put, List.setIfInBounds_toArray, List.set_cons_zero, List.set_cons_succ]
  refine held_take 11 sf11 (some 89) ?_ rfl rfl (by kernel_rfl) (by kernel_rfl) (by kernel_rfl) (fun _ _ _ h => h) (Or.inl ⟨by rfl, ?_⟩) trivial ?_
  rotate_left
  · intro w0 hy0; (go_simp <;> with_reducible rfl)
  simp only [Act.put, List.setIfInBounds_toArray, List.set_cons_zero, List.set_cons_succ]
  refine held_take 12 sf12 (some 90) ?_ rfl rfl (by kernel_rfl) (by kernel_rfl) (by kernel_rfl) (fun _ _ _ h => h) (Or.inl ⟨by rfl, ?_⟩) trivial ?_
  rotate_left
  · intro w0 hy0; (go_simp <;> with_reducible rfl)
  simp only [Act.put, List.setIfInBounds_toArray, List.set_cons_zero, List.set_cons_succ]
  refine held_take 13 sf13 (some 91) ?_ rfl rfl (by kernel_rfl) (by kernel_rfl) (by kernel_rfl) (fun _ _ _ h => h) (Or.inl ⟨by rfl, ?_⟩) trivial ?_
  rotate_left
  · intro w0 hy0; (go_simp <;> with_reducible rfl)
  simp only [Act.put, List.setIfInBounds_toArray, List.set_cons_zero, List.set_cons_succ]
  refine held_take 14 sf14 (some 92) ?_ rfl rfl (by kernel_rfl) (by kernel_rfl) (by kernel_rfl) (fun _ _ _ h => h) (Or.inl ⟨by rfl, ?_⟩) trivial ?_
  rotate_left
  · intro w0 hy0; (go_simp <;> with_reducible rfl)
  simp only [Act.put, List.setIfInBounds_toArray, List.set_cons_zero, List.set_cons_succ]
  refine held_take 15 sf15 (some 93) ?_ rfl rfl (by kernel_rfl) (by kernel_rfl) (by kernel_rfl) (fun _ _ _ h => h) (Or.inl ⟨by rfl, ?_⟩) trivial ?_
  rotate_left
  · intro w0 hy0; (go_simp <;> with_reducible rfl)
  simp only [Act.put, List.setIfInBounds_toArray, List.set_cons_zero, List.set_cons_succ]
  refine held_one 16 sf16 (some 94) (.slice (some ⟨W.heap.size, 0, none⟩) 64 64) (W.alloc (zkObj 64)) (by kernel_rfl) rfl rfl (by rfl) (exec_make 45 (.const (.int .i64 64)) (.const (.int .i64 64)) rfl rfl rfl (zk_made 64 (by omega) W)) trivial ?_
  simp only [Act.put, List.setIfInBounds_toArray, List.set_cons_zero, List.set_cons_succ]
  refine held_one 17 sf17 (some 95) (.string (zerN 64)) (W.alloc (zkObj 64)) (by kernel_rfl) rfl rfl (by rfl) (exec_conv 45 9 (.tmp 94) rfl rfl (zk_conv 64 (by omega) W)) trivial ?_
  simp only [Act.put, List.setIfInBounds_toArray, List.set_cons_zero, List.set_cons_succ]
  have hB3 := hBW.lay (good1 _ _ _) (balloc W (zkObj 64))
  generalize hX : W.alloc (zkObj 64) = X at *
  clear hX hBW
  refine held_one 18 sf18 (some 96) (.slice (some ⟨X.heap.size, 0, none⟩) 7 7) (X.alloc (.cells #[.string (⟨#[]⟩), .string (S.extract 1 64), .string (S ++ ⟨#[0]⟩), .string (⟨#[1]⟩ ++ S.extract 1 64), .string (S.extract 0 2 ++ ⟨#[1]⟩ ++ S.extract 3 64), .string (S.extract 0 63 ++ ⟨#[1]⟩), .string (zerN 64)] 9)) (by kernel_rfl) rfl rfl (by rfl) (exec_b7 (t1 := S.extract 1 64) (t2 := S ++ ⟨#[0]⟩) (t3 := ⟨#[1]⟩ ++ S.extract 1 64) (t4 := S.extract 0 2 ++ ⟨#[1]⟩ ++ S.extract 3 64) (t5 := S.extract 0 63 ++ ⟨#[1]⟩) (t6 := zerN 64) (.tmp 79) (.tmp 81) (.tmp 84) (.tmp 90) (.tmp 93) (.tmp 95) rfl rfl rfl rfl rfl rfl rfl rfl) trivial ?_
  simp only [Act.put, List.setIfInBounds_toArray, List.set_cons_zero, List.set_cons_succ]
  refine held_take 19 sf19 (some 16) ?_ rfl rfl (by kernel_rfl) (by kernel_rfl) (by kernel_rfl) (fun _ _ _ h => h) (Or.inl ⟨by rfl, ?_⟩) trivial ?_
  rotate_left
  · intro w0 hy0; (go_simp <;> with_reducible rfl)
  simp only [Act.put, List.setIfInBounds_toArray, List.set_cons_zero, List.set_cons_succ]
  refine wpAnyH_done (by kernel_rfl) ?_ _
  have hS := hB3.hold (good1 _ _ _) #[.string (⟨#[]⟩), .string (S.extract 1 64), .string (S ++ ⟨#[0]⟩), .string (⟨#[1]⟩ ++ S.extract 1 64), .string (S.extract 0 2 ++ ⟨#[1]⟩ ++ S.extract 3 64), .string (S.extract 0 63 ++ ⟨#[1]⟩), .string (zerN 64)] 9
  clear hB3
  obtain ⟨e1, g1, l1⟩ := hS.own
  go_wp2_with (first
    | (go_at_call 26; first
        | ((with_reducible refine (At.op1G (HE.out _) (ownA_good _ _ _) emp_good HG.out hS).mono ?_); rintro e w1 ⟨rfl, hS1⟩; replace hS := hS1; clear hS1; obtain ⟨e1, g1, l1⟩ := hS.own)
        | ((with_reducible refine (At.op1G (HF.out _) (ownA_good _ _ _) emp_good HG.out hS).mono ?_); rintro e w1 ⟨rfl, hS1⟩; replace hS := hS1; clear hS1; obtain ⟨e1, g1, l1⟩ := hS.own))
    | (go_at_call 28; first
        | ((with_reducible refine (HN.out _).mono ?_); rintro e w1 ⟨rfl, rfl⟩)
        | ((with_reducible refine (At.op1G (HH.out _) (ownA_good _ _ _) emp_good HG.out hS).mono ?_); rintro e w1 ⟨rfl, hS1⟩; replace hS := hS1; clear hS1; obtain ⟨e1, g1, l1⟩ := hS.own))
    | (go_at_call 24; (with_reducible refine (HQ.out _).mono ?_); rintro e w1 ⟨rfl, rfl⟩)
    | (go_at_call 20; (with_reducible refine (At.op1G ((HL.out _).g) (ownA_good _ _ _) emp_good HG.out hS).mono ?_); rintro e w1 ⟨rfl, hS1⟩; replace hS := hS1; clear hS1)
    | (go_at_call 16; (with_reducible refine (lnum _ _).mono ?_); rintro e w1 ⟨rfl, rfl⟩))
  go_ret
  exact ⟨rfl, hS.bel⟩
set_option maxRecDepth 100000 in
set_option maxHeartbeats 8000000 in
theorem sforms1 (S : ByteArray) (T : List ByteArray) (n x : Int) (m : Nat) (m1 : m ≤ 1023) (hm : bits .and .i64 x 1023 = (m : Int)) (hj : (IntKind.u64.wrap n).tmod 7 = 1) (h64 : S.size = 64) (hT : T.length = 1)
    (ha : ∀ p : Nat, DoesG Tryd.prog (bookA p 1 []) 24 #[.pointer (some ⟨p, 0, none⟩), .int .i64 1023] (.returned (.tuple #[.string S, .int .i64 0])) (bookA p 1 T))
    (hb : ∀ p : Nat, DoesG Tryd.prog (bookA p 1 T) 24 #[.pointer (some ⟨p, 0, none⟩), .int .i64 (1023 + (1 + (m : Int)))] (.returned (.tuple #[.string ⟨#[]⟩, .int .i64 1000])) (bookA p 1 T))
    (hc : ∀ p : Nat, DoesG Tryd.prog (bookA p 1 T) 24 #[.pointer (some ⟨p, 0, none⟩), .int .i64 (1 - (1 + (m : Int)))] (.returned (.tuple #[.string ⟨#[]⟩, .int .i64 1000])) (bookA p 1 T))
    (hd : ∀ p : Nat, DoesG Tryd.prog (bookA p 1 T) 24 #[.pointer (some ⟨p, 0, none⟩), .int .i64 1] (.returned (.tuple #[.string ⟨#[]⟩, .int .i64 1000])) (bookA p 1 T))
    (he : ∀ p : Nat, DoesG Tryd.prog (bookA p 1 T) 26 #[.pointer (some ⟨p, 0, none⟩), .string (S.extract 1 64)] (.returned (.tuple #[.int .i64 0, .int .i64 1000])) (bookA p 1 T))
    (hf : ∀ p : Nat, DoesG Tryd.prog (bookA p 1 T) 26 #[.pointer (some ⟨p, 0, none⟩), .string S] (.returned (.tuple #[.int .i64 1023, .int .i64 0])) (bookA p 1 T))
    (hh : ∀ p : Nat, DoesG Tryd.prog (bookA p 1 T) 28 #[.pointer (some ⟨p, 0, none⟩), .string (S.extract 1 64), .string S] (.returned (.tuple #[.int .i64 1023, .int .i64 0, .int .i64 0])) (bookA p 1 T))
    (w : World) (hg : Gd w) :
    Calls Tryd.prog 10 #[.int .i64 n, .int .i64 x] w fun e w' => e = .returned (.bool true) ∧ Below w.heap.size w w' := by
  have HA := Lib.hid ha
  have HB := Lib.hid hb
  have HC := Lib.hid hc
  have HD := Lib.hid hd
  have HE := Lib.hid he
  have HF := Lib.hid hf
  have HH := Lib.hid hh
  have HG := Lib.hid hg
  have HW := Lib.hid (awake10 w hg)
  have HL := Lib.hid (fun p => dlen p 1 T)
  rw [hT] at HL
  have HN := Lib.hid (fun w => dspick_nil S S w)
  have HQ := Lib.hid (fun w => dsput_nil 1 w)
  have h64i : (S.size : Int) = 64 := by omega
  clear ha hb hc hd he hf hh hg
  go_enter Tryd.func10, Tryd.ntmps10
  go_wp2_with (first
    | (go_at_call 23; (with_reducible refine (HW.out).mono ?_); rintro e w1 ⟨rfl, hb0⟩; have hS0 := At.none hb0; clear hb0)
    | (go_at_call 21; (with_reducible refine (bnew_ok 1 _ (by omega) (by omega)).mono ?_); rintro e w1 ⟨p, rfl, hb⟩; have hS := At.add emp_good hS0 hb; clear hb hS0)
    | (go_at_call 24; first
        | ((with_reducible refine (At.op0G (HA.out _) emp_good HG.out hS).mono ?_); rintro e w1 ⟨rfl, hS1⟩; replace hS := hS1; clear hS1)
        | ((with_reducible refine (At.op0G (HB.out _) emp_good HG.out hS).mono ?_); rintro e w1 ⟨rfl, hS1⟩; replace hS := hS1; clear hS1)
        | ((with_reducible refine (At.op0G (HC.out _) emp_good HG.out hS).mono ?_); rintro e w1 ⟨rfl, hS1⟩; replace hS := hS1; clear hS1)
        | ((with_reducible refine (At.op0G (HD.out _) emp_good HG.out hS).mono ?_); rintro e w1 ⟨rfl, hS1⟩; replace hS := hS1; clear hS1))
    | (go_at_call 16; (with_reducible refine (lnum _ _).mono ?_); rintro e w1 ⟨rfl, rfl⟩))
  refine region_held (S := fun _ => True) 20 [false, false, false, false, false, false, false, false, false, false, false, false, false, false, false, false, false, false, false, false] rfl rfl (by kernel_rfl) fun W hW => ?_
  have hBW : At w ((bookA p 1 T).star emp) W := by subst hW; exact hS.lay (good1 _ _ _) (bdrew _)
  clear hW hS
  refine held_take 0 sf0 (some 78) ?_ rfl rfl (by kernel_rfl) (by kernel_rfl) (by kernel_rfl) (fun _ _ _ h => h) (Or.inl ⟨by rfl, ?_⟩) trivial ?_
  rotate_left
  · intro w0 hy0; (go_simp <;> with_reducible rfl)
  simp only [Act.put, List.setIfInBounds_toArray, List.set_cons_zero, List.set_cons_succ]
  refine held_take 1 sf1 (some 79) ?_ rfl rfl (by kernel_rfl) (by kernel_rfl) (by kernel_rfl) (fun _ _ _ h => h) (Or.inl ⟨by rfl, ?_⟩) trivial ?_
  rotate_left
  · intro w0 hy0; (go_simp <;> with_reducible rfl)
  simp only [Act.put, List.setIfInBounds_toArray, List.set_cons_zero, List.set_cons_succ]
  refine held_take 2 sf2 (some 80) ?_ rfl rfl (by kernel_rfl) (by kernel_rfl) (by kernel_rfl) (fun _ _ _ h => h) (Or.inl ⟨by rfl, ?_⟩) trivial ?_
  rotate_left
  · intro w0 hy0; (go_simp <;> with_reducible rfl)
  simp only [Act.put, List.setIfInBounds_toArray, List.set_cons_zero, List.set_cons_succ]
  refine held_take 3 sf3 (some 81) ?_ rfl rfl (by kernel_rfl) (by kernel_rfl) (by kernel_rfl) (fun _ _ _ h => h) (Or.inl ⟨by rfl, ?_⟩) trivial ?_
  rotate_left
  · intro w0 hy0; (go_simp <;> with_reducible rfl)
  simp only [Act.put, List.setIfInBounds_toArray, List.set_cons_zero, List.set_cons_succ]
  refine held_take 4 sf4 (some 82) ?_ rfl rfl (by kernel_rfl) (by kernel_rfl) (by kernel_rfl) (fun _ _ _ h => h) (Or.inl ⟨by rfl, ?_⟩) trivial ?_
  rotate_left
  · intro w0 hy0; (go_simp <;> with_reducible rfl)
  simp only [Act.put, List.setIfInBounds_toArray, List.set_cons_zero, List.set_cons_succ]
  refine held_take 5 sf5 (some 83) ?_ rfl rfl (by kernel_rfl) (by kernel_rfl) (by kernel_rfl) (fun _ _ _ h => h) (Or.inl ⟨by rfl, ?_⟩) trivial ?_
  rotate_left
  · intro w0 hy0; (go_simp <;> with_reducible rfl)
  simp only [Act.put, List.setIfInBounds_toArray, List.set_cons_zero, List.set_cons_succ]
  refine held_take 6 sf6 (some 84) ?_ rfl rfl (by kernel_rfl) (by kernel_rfl) (by kernel_rfl) (fun _ _ _ h => h) (Or.inl ⟨by rfl, ?_⟩) trivial ?_
  rotate_left
  · intro w0 hy0; (go_simp <;> with_reducible rfl)
  simp only [Act.put, List.setIfInBounds_toArray, List.set_cons_zero, List.set_cons_succ]
  refine held_take 7 sf7 (some 85) ?_ rfl rfl (by kernel_rfl) (by kernel_rfl) (by kernel_rfl) (fun _ _ _ h => h) (Or.inl ⟨by rfl, ?_⟩) trivial ?_
  rotate_left
  · intro w0 hy0; (go_simp <;> with_reducible rfl)
  simp only [Act.put, List.setIfInBounds_toArray, List.set_cons_zero, List.set_cons_succ]
  refine held_take 8 sf8 (some 86) ?_ rfl rfl (by kernel_rfl) (by kernel_rfl) (by kernel_rfl) (fun _ _ _ h => h) (Or.inl ⟨by rfl, ?_⟩) trivial ?_
  rotate_left
  · intro w0 hy0; (go_simp <;> with_reducible rfl)
  simp only [Act.put, List.setIfInBounds_toArray, List.set_cons_zero, List.set_cons_succ]
  refine held_take 9 sf9 (some 87) ?_ rfl rfl (by kernel_rfl) (by kernel_rfl) (by kernel_rfl) (fun _ _ _ h => h) (Or.inl ⟨by rfl, ?_⟩) trivial ?_
  rotate_left
  · intro w0 hy0; (go_simp <;> with_reducible rfl)
  simp only [Act.put, List.setIfInBounds_toArray, List.set_cons_zero, List.set_cons_succ]
  refine held_take 10 sf10 (some 88) ?_ rfl rfl (by kernel_rfl) (by kernel_rfl) (by kernel_rfl) (fun _ _ _ h => h) (Or.inl ⟨by rfl, ?_⟩) trivial ?_
  rotate_left
  · intro w0 hy0; (go_simp <;> with_reducible rfl)
  simp only [Act.put, List.setIfInBounds_toArray, List.set_cons_zero, List.set_cons_succ]
  refine held_take 11 sf11 (some 89) ?_ rfl rfl (by kernel_rfl) (by kernel_rfl) (by kernel_rfl) (fun _ _ _ h => h) (Or.inl ⟨by rfl, ?_⟩) trivial ?_
  rotate_left
  · intro w0 hy0; (go_simp <;> with_reducible rfl)
  simp only [Act.put, List.setIfInBounds_toArray, List.set_cons_zero, List.set_cons_succ]
  refine held_take 12 sf12 (some 90) ?_ rfl rfl (by kernel_rfl) (by kernel_rfl) (by kernel_rfl) (fun _ _ _ h => h) (Or.inl ⟨by rfl, ?_⟩) trivial ?_
  rotate_left
  · intro w0 hy0; (go_simp <;> with_reducible rfl)
  simp only [Act.put, List.setIfInBounds_toArray, List.set_cons_zero, List.set_cons_succ]
  refine held_take 13 sf13 (some 91) ?_ rfl rfl (by kernel_rfl) (by kernel_rfl) (by kernel_rfl) (fun _ _ _ h => h) (Or.inl ⟨by rfl, ?_⟩) trivial ?_
  rotate_left
  · intro w0 hy0; (go_simp <;> with_reducible rfl)
  simp only [Act.put, List.setIfInBounds_toArray, List.set_cons_zero, List.set_cons_succ]
  refine held_take 14 sf14 (some 92) ?_ rfl rfl (by kernel_rfl) (by kernel_rfl) (by kernel_rfl) (fun _ _ _ h => h) (Or.inl ⟨by rfl, ?_⟩) trivial ?_
  rotate_left
  · intro w0 hy0; (go_simp <;> with_reducible rfl)
  simp only [Act.put, List.setIfInBounds_toArray, List.set_cons_zero, List.set_cons_succ]
  refine held_take 15 sf15 (some 93) ?_ rfl rfl (by kernel_rfl) (by kernel_rfl) (by kernel_rfl) (fun _ _ _ h => h) (Or.inl ⟨by rfl, ?_⟩) trivial ?_
  rotate_left
  · intro w0 hy0; (go_simp <;> with_reducible rfl)
  simp only [Act.put, List.setIfInBounds_toArray, List.set_cons_zero, List.set_cons_succ]
  refine held_one 16 sf16 (some 94) (.slice (some ⟨W.heap.size, 0, none⟩) 64 64) (W.alloc (zkObj 64)) (by kernel_rfl) rfl rfl (by rfl) (exec_make 45 (.const (.int .i64 64)) (.const (.int .i64 64)) rfl rfl rfl (zk_made 64 (by omega) W)) trivial ?_
  simp only [Act.put, List.setIfInBounds_toArray, List.set_cons_zero, List.set_cons_succ]
  refine held_one 17 sf17 (some 95) (.string (zerN 64)) (W.alloc (zkObj 64)) (by kernel_rfl) rfl rfl (by rfl) (exec_conv 45 9 (.tmp 94) rfl rfl (zk_conv 64 (by omega) W)) trivial ?_
  simp only [Act.put, List.setIfInBounds_toArray, List.set_cons_zero, List.set_cons_succ]
  have hB3 := hBW.lay (good1 _ _ _) (balloc W (zkObj 64))
  generalize hX : W.alloc (zkObj 64) = X at *
  clear hX hBW
  refine held_one 18 sf18 (some 96) (.slice (some ⟨X.heap.size, 0, none⟩) 7 7) (X.alloc (.cells #[.string (⟨#[]⟩), .string (S.extract 1 64), .string (S ++ ⟨#[0]⟩), .string (⟨#[1]⟩ ++ S.extract 1 64), .string (S.extract 0 2 ++ ⟨#[1]⟩ ++ S.extract 3 64), .string (S.extract 0 63 ++ ⟨#[1]⟩), .string (zerN 64)] 9)) (by kernel_rfl) rfl rfl (by rfl) (exec_b7 (t1 := S.extract 1 64) (t2 := S ++ ⟨#[0]⟩) (t3 := ⟨#[1]⟩ ++ S.extract 1 64) (t4 := S.extract 0 2 ++ ⟨#[1]⟩ ++ S.extract 3 64) (t5 := S.extract 0 63 ++ ⟨#[1]⟩) (t6 := zerN 64) (.tmp 79) (.tmp 81) (.tmp 84) (.tmp 90) (.tmp 93) (.tmp 95) rfl rfl rfl rfl rfl rfl rfl rfl) trivial ?_
  simp only [Act.put, List.setIfInBounds_toArray, List.set_cons_zero, List.set_cons_succ]
  refine held_take 19 sf19 (some 16) ?_ rfl rfl (by kernel_rfl) (by kernel_rfl) (by kernel_rfl) (fun _ _ _ h => h) (Or.inl ⟨by rfl, ?_⟩) trivial ?_
  rotate_left
  · intro w0 hy0; (go_simp <;> with_reducible rfl)
  simp only [Act.put, List.setIfInBounds_toArray, List.set_cons_zero, List.set_cons_succ]
  refine wpAnyH_done (by kernel_rfl) ?_ _
  have hS := hB3.hold (good1 _ _ _) #[.string (⟨#[]⟩), .string (S.extract 1 64), .string (S ++ ⟨#[0]⟩), .string (⟨#[1]⟩ ++ S.extract 1 64), .string (S.extract 0 2 ++ ⟨#[1]⟩ ++ S.extract 3 64), .string (S.extract 0 63 ++ ⟨#[1]⟩), .string (zerN 64)] 9
  clear hB3
  obtain ⟨e1, g1, l1⟩ := hS.own
  go_wp2_with (first
    | (go_at_call 26; first
        | ((with_reducible refine (At.op1G (HE.out _) (ownA_good _ _ _) emp_good HG.out hS).mono ?_); rintro e w1 ⟨rfl, hS1⟩; replace hS := hS1; clear hS1; obtain ⟨e1, g1, l1⟩ := hS.own)
        | ((with_reducible refine (At.op1G (HF.out _) (ownA_good _ _ _) emp_good HG.out hS).mono ?_); rintro e w1 ⟨rfl, hS1⟩; replace hS := hS1; clear hS1; obtain ⟨e1, g1, l1⟩ := hS.own))
    | (go_at_call 28; first
        | ((with_reducible refine (HN.out _).mono ?_); rintro e w1 ⟨rfl, rfl⟩)
        | ((with_reducible refine (At.op1G (HH.out _) (ownA_good _ _ _) emp_good HG.out hS).mono ?_); rintro e w1 ⟨rfl, hS1⟩; replace hS := hS1; clear hS1; obtain ⟨e1, g1, l1⟩ := hS.own))
    | (go_at_call 24; (with_reducible refine (HQ.out _).mono ?_); rintro e w1 ⟨rfl, rfl⟩)
    | (go_at_call 20; (with_reducible refine (At.op1G ((HL.out _).g) (ownA_good _ _ _) emp_good HG.out hS).mono ?_); rintro e w1 ⟨rfl, hS1⟩; replace hS := hS1; clear hS1)
    | (go_at_call 16; (with_reducible refine (lnum _ _).mono ?_); rintro e w1 ⟨rfl, rfl⟩))
  go_ret
  exact ⟨rfl, hS.bel⟩
set_option maxRecDepth 100000 in
set_option maxHeartbeats 8000000 in
theorem sforms2 (S : ByteArray) (T : List ByteArray) (n x : Int) (m : Nat) (m1 : m ≤ 1023) (hm : bits .and .i64 x 1023 = (m : Int)) (hj : (IntKind.u64.wrap n).tmod 7 = 2) (h64 : S.size = 64) (hT : T.length = 1)
    (ha : ∀ p : Nat, DoesG Tryd.prog (bookA p 1 []) 24 #[.pointer (some ⟨p, 0, none⟩), .int .i64 1023] (.returned (.tuple #[.string S, .int .i64 0])) (bookA p 1 T))
    (hb : ∀ p : Nat, DoesG Tryd.prog (bookA p 1 T) 24 #[.pointer (some ⟨p, 0, none⟩), .int .i64 (1023 + (1 + (m : Int)))] (.returned (.tuple #[.string ⟨#[]⟩, .int .i64 1000])) (bookA p 1 T))
    (hc : ∀ p : Nat, DoesG Tryd.prog (bookA p 1 T) 24 #[.pointer (some ⟨p, 0, none⟩), .int .i64 (1 - (1 + (m : Int)))] (.returned (.tuple #[.string ⟨#[]⟩, .int .i64 1000])) (bookA p 1 T))
    (hd : ∀ p : Nat, DoesG Tryd.prog (bookA p 1 T) 24 #[.pointer (some ⟨p, 0, none⟩), .int .i64 1] (.returned (.tuple #[.string ⟨#[]⟩, .int .i64 1000])) (bookA p 1 T))
    (he : ∀ p : Nat, DoesG Tryd.prog (bookA p 1 T) 26 #[.pointer (some ⟨p, 0, none⟩), .string (S ++ ⟨#[0]⟩)] (.returned (.tuple #[.int .i64 0, .int .i64 1000])) (bookA p 1 T))
    (hf : ∀ p : Nat, DoesG Tryd.prog (bookA p 1 T) 26 #[.pointer (some ⟨p, 0, none⟩), .string S] (.returned (.tuple #[.int .i64 1023, .int .i64 0])) (bookA p 1 T))
    (hh : ∀ p : Nat, DoesG Tryd.prog (bookA p 1 T) 28 #[.pointer (some ⟨p, 0, none⟩), .string (S ++ ⟨#[0]⟩), .string S] (.returned (.tuple #[.int .i64 1023, .int .i64 0, .int .i64 0])) (bookA p 1 T))
    (w : World) (hg : Gd w) :
    Calls Tryd.prog 10 #[.int .i64 n, .int .i64 x] w fun e w' => e = .returned (.bool true) ∧ Below w.heap.size w w' := by
  have HA := Lib.hid ha
  have HB := Lib.hid hb
  have HC := Lib.hid hc
  have HD := Lib.hid hd
  have HE := Lib.hid he
  have HF := Lib.hid hf
  have HH := Lib.hid hh
  have HG := Lib.hid hg
  have HW := Lib.hid (awake10 w hg)
  have HL := Lib.hid (fun p => dlen p 1 T)
  rw [hT] at HL
  have HN := Lib.hid (fun w => dspick_nil S S w)
  have HQ := Lib.hid (fun w => dsput_nil 1 w)
  have h64i : (S.size : Int) = 64 := by omega
  clear ha hb hc hd he hf hh hg
  go_enter Tryd.func10, Tryd.ntmps10
  go_wp2_with (first
    | (go_at_call 23; (with_reducible refine (HW.out).mono ?_); rintro e w1 ⟨rfl, hb0⟩; have hS0 := At.none hb0; clear hb0)
    | (go_at_call 21; (with_reducible refine (bnew_ok 1 _ (by omega) (by omega)).mono ?_); rintro e w1 ⟨p, rfl, hb⟩; have hS := At.add emp_good hS0 hb; clear hb hS0)
    | (go_at_call 24; first
        | ((with_reducible refine (At.op0G (HA.out _) emp_good HG.out hS).mono ?_); rintro e w1 ⟨rfl, hS1⟩; replace hS := hS1; clear hS1)
        | ((with_reducible refine (At.op0G (HB.out _) emp_good HG.out hS).mono ?_); rintro e w1 ⟨rfl, hS1⟩; replace hS := hS1; clear hS1)
        | ((with_reducible refine (At.op0G (HC.out _) emp_good HG.out hS).mono ?_); rintro e w1 ⟨rfl, hS1⟩; replace hS := hS1; clear hS1)
        | ((with_reducible refine (At.op0G (HD.out _) emp_good HG.out hS).mono ?_); rintro e w1 ⟨rfl, hS1⟩; replace hS := hS1; clear hS1))
    | (go_at_call 16; (with_reducible refine (lnum _ _).mono ?_); rintro e w1 ⟨rfl, rfl⟩))
  refine region_held (S := fun _ => True) 20 [false, false, false, false, false, false, false, false, false, false, false, false, false, false, false, false, false, false, false, false] rfl rfl (by kernel_rfl) fun W hW => ?_
  have hBW : At w ((bookA p 1 T).star emp) W := by subst hW; exact hS.lay (good1 _ _ _) (bdrew _)
  clear hW hS
  refine held_take 0 sf0 (some 78) ?_ rfl rfl (by kernel_rfl) (by kernel_rfl) (by kernel_rfl) (fun _ _ _ h => h) (Or.inl ⟨by rfl, ?_⟩) trivial ?_
  rotate_left
  · intro w0 hy0; (go_simp <;> with_reducible rfl)
  simp only [Act.put, List.setIfInBounds_toArray, List.set_cons_zero, List.set_cons_succ]
  refine held_take 1 sf1 (some 79) ?_ rfl rfl (by kernel_rfl) (by kernel_rfl) (by kernel_rfl) (fun _ _ _ h => h) (Or.inl ⟨by rfl, ?_⟩) trivial ?_
  rotate_left
  · intro w0 hy0; (go_simp <;> with_reducible rfl)
  simp only [Act.put, List.setIfInBounds_toArray, List.set_cons_zero, List.set_cons_succ]
  refine held_take 2 sf2 (some 80) ?_ rfl rfl (by kernel_rfl) (by kernel_rfl) (by kernel_rfl) (fun _ _ _ h => h) (Or.inl ⟨by rfl, ?_⟩) trivial ?_
  rotate_left
  · intro w0 hy0; (go_simp <;> with_reducible rfl)
  simp only [Act.put, List.setIfInBounds_toArray, List.set_cons_zero, List.set_cons_succ]
  refine held_take 3 sf3 (some 81) ?_ rfl rfl (by kernel_rfl) (by kernel_rfl) (by kernel_rfl) (fun _ _ _ h => h) (Or.inl ⟨by rfl, ?_⟩) trivial ?_
  rotate_left
  · intro w0 hy0; (go_simp <;> with_reducible rfl)
  simp only [Act.put, List.setIfInBounds_toArray, List.set_cons_zero, List.set_cons_succ]
  refine held_take 4 sf4 (some 82) ?_ rfl rfl (by kernel_rfl) (by kernel_rfl) (by kernel_rfl) (fun _ _ _ h => h) (Or.inl ⟨by rfl, ?_⟩) trivial ?_
  rotate_left
  · intro w0 hy0; (go_simp <;> with_reducible rfl)
  simp only [Act.put, List.setIfInBounds_toArray, List.set_cons_zero, List.set_cons_succ]
  refine held_take 5 sf5 (some 83) ?_ rfl rfl (by kernel_rfl) (by kernel_rfl) (by kernel_rfl) (fun _ _ _ h => h) (Or.inl ⟨by rfl, ?_⟩) trivial ?_
  rotate_left
  · intro w0 hy0; (go_simp <;> with_reducible rfl)
  simp only [Act.put, List.setIfInBounds_toArray, List.set_cons_zero, List.set_cons_succ]
  refine held_take 6 sf6 (some 84) ?_ rfl rfl (by kernel_rfl) (by kernel_rfl) (by kernel_rfl) (fun _ _ _ h => h) (Or.inl ⟨by rfl, ?_⟩) trivial ?_
  rotate_left
  · intro w0 hy0; (go_simp <;> with_reducible rfl)
  simp only [Act.put, List.setIfInBounds_toArray, List.set_cons_zero, List.set_cons_succ]
  refine held_take 7 sf7 (some 85) ?_ rfl rfl (by kernel_rfl) (by kernel_rfl) (by kernel_rfl) (fun _ _ _ h => h) (Or.inl ⟨by rfl, ?_⟩) trivial ?_
  rotate_left
  · intro w0 hy0; (go_simp <;> with_reducible rfl)
  simp only [Act.put, List.setIfInBounds_toArray, List.set_cons_zero, List.set_cons_succ]
  refine held_take 8 sf8 (some 86) ?_ rfl rfl (by kernel_rfl) (by kernel_rfl) (by kernel_rfl) (fun _ _ _ h => h) (Or.inl ⟨by rfl, ?_⟩) trivial ?_
  rotate_left
  · intro w0 hy0; (go_simp <;> with_reducible rfl)
  simp only [Act.put, List.setIfInBounds_toArray, List.set_cons_zero, List.set_cons_succ]
  refine held_take 9 sf9 (some 87) ?_ rfl rfl (by kernel_rfl) (by kernel_rfl) (by kernel_rfl) (fun _ _ _ h => h) (Or.inl ⟨by rfl, ?_⟩) trivial ?_
  rotate_left
  · intro w0 hy0; (go_simp <;> with_reducible rfl)
  simp only [Act.put, List.setIfInBounds_toArray, List.set_cons_zero, List.set_cons_succ]
  refine held_take 10 sf10 (some 88) ?_ rfl rfl (by kernel_rfl) (by kernel_rfl) (by kernel_rfl) (fun _ _ _ h => h) (Or.inl ⟨by rfl, ?_⟩) trivial ?_
  rotate_left
  · intro w0 hy0; (go_simp <;> with_reducible rfl)
  simp only [Act.put, List.setIfInBounds_toArray, List.set_cons_zero, List.set_cons_succ]
  refine held_take 11 sf11 (some 89) ?_ rfl rfl (by kernel_rfl) (by kernel_rfl) (by kernel_rfl) (fun _ _ _ h => h) (Or.inl ⟨by rfl, ?_⟩) trivial ?_
  rotate_left
  · intro w0 hy0; (go_simp <;> with_reducible rfl)
  simp only [Act.put, List.setIfInBounds_toArray, List.set_cons_zero, List.set_cons_succ]
  refine held_take 12 sf12 (some 90) ?_ rfl rfl (by kernel_rfl) (by kernel_rfl) (by kernel_rfl) (fun _ _ _ h => h) (Or.inl ⟨by rfl, ?_⟩) trivial ?_
  rotate_left
  · intro w0 hy0; (go_simp <;> with_reducible rfl)
  simp only [Act.put, List.setIfInBounds_toArray, List.set_cons_zero, List.set_cons_succ]
  refine held_take 13 sf13 (some 91) ?_ rfl rfl (by kernel_rfl) (by kernel_rfl) (by kernel_rfl) (fun _ _ _ h => h) (Or.inl ⟨by rfl, ?_⟩) trivial ?_
  rotate_left
  · intro w0 hy0; (go_simp <;> with_reducible rfl)
  simp only [Act.put, List.setIfInBounds_toArray, List.set_cons_zero, List.set_cons_succ]
  refine held_take 14 sf14 (some 92) ?_ rfl rfl (by kernel_rfl) (by kernel_rfl) (by kernel_rfl) (fun _ _ _ h => h) (Or.inl ⟨by rfl, ?_⟩) trivial ?_
  rotate_left
  · intro w0 hy0; (go_simp <;> with_reducible rfl)
  simp only [Act.put, List.setIfInBounds_toArray, List.set_cons_zero, List.set_cons_succ]
  refine held_take 15 sf15 (some 93) ?_ rfl rfl (by kernel_rfl) (by kernel_rfl) (by kernel_rfl) (fun _ _ _ h => h) (Or.inl ⟨by rfl, ?_⟩) trivial ?_
  rotate_left
  · intro w0 hy0; (go_simp <;> with_reducible rfl)
  simp only [Act.put, List.setIfInBounds_toArray, List.set_cons_zero, List.set_cons_succ]
  refine held_one 16 sf16 (some 94) (.slice (some ⟨W.heap.size, 0, none⟩) 64 64) (W.alloc (zkObj 64)) (by kernel_rfl) rfl rfl (by rfl) (exec_make 45 (.const (.int .i64 64)) (.const (.int .i64 64)) rfl rfl rfl (zk_made 64 (by omega) W)) trivial ?_
  simp only [Act.put, List.setIfInBounds_toArray, List.set_cons_zero, List.set_cons_succ]
  refine held_one 17 sf17 (some 95) (.string (zerN 64)) (W.alloc (zkObj 64)) (by kernel_rfl) rfl rfl (by rfl) (exec_conv 45 9 (.tmp 94) rfl rfl (zk_conv 64 (by omega) W)) trivial ?_
  simp only [Act.put, List.setIfInBounds_toArray, List.set_cons_zero, List.set_cons_succ]
  have hB3 := hBW.lay (good1 _ _ _) (balloc W (zkObj 64))
  generalize hX : W.alloc (zkObj 64) = X at *
  clear hX hBW
  refine held_one 18 sf18 (some 96) (.slice (some ⟨X.heap.size, 0, none⟩) 7 7) (X.alloc (.cells #[.string (⟨#[]⟩), .string (S.extract 1 64), .string (S ++ ⟨#[0]⟩), .string (⟨#[1]⟩ ++ S.extract 1 64), .string (S.extract 0 2 ++ ⟨#[1]⟩ ++ S.extract 3 64), .string (S.extract 0 63 ++ ⟨#[1]⟩), .string (zerN 64)] 9)) (by kernel_rfl) rfl rfl (by rfl) (exec_b7 (t1 := S.extract 1 64) (t2 := S ++ ⟨#[0]⟩) (t3 := ⟨#[1]⟩ ++ S.extract 1 64) (t4 := S.extract 0 2 ++ ⟨#[1]⟩ ++ S.extract 3 64) (t5 := S.extract 0 63 ++ ⟨#[1]⟩) (t6 := zerN 64) (.tmp 79) (.tmp 81) (.tmp 84) (.tmp 90) (.tmp 93) (.tmp 95) rfl rfl rfl rfl rfl rfl rfl rfl) trivial ?_
  simp only [Act.put, List.setIfInBounds_toArray, List.set_cons_zero, List.set_cons_succ]
  refine held_take 19 sf19 (some 16) ?_ rfl rfl (by kernel_rfl) (by kernel_rfl) (by kernel_rfl) (fun _ _ _ h => h) (Or.inl ⟨by rfl, ?_⟩) trivial ?_
  rotate_left
  · intro w0 hy0; (go_simp <;> with_reducible rfl)
  simp only [Act.put, List.setIfInBounds_toArray, List.set_cons_zero, List.set_cons_succ]
  refine wpAnyH_done (by kernel_rfl) ?_ _
  have hS := hB3.hold (good1 _ _ _) #[.string (⟨#[]⟩), .string (S.extract 1 64), .string (S ++ ⟨#[0]⟩), .string (⟨#[1]⟩ ++ S.extract 1 64), .string (S.extract 0 2 ++ ⟨#[1]⟩ ++ S.extract 3 64), .string (S.extract 0 63 ++ ⟨#[1]⟩), .string (zerN 64)] 9
  clear hB3
  obtain ⟨e1, g1, l1⟩ := hS.own
  go_wp2_with (first
    | (go_at_call 26; first
        | ((with_reducible refine (At.op1G (HE.out _) (ownA_good _ _ _) emp_good HG.out hS).mono ?_); rintro e w1 ⟨rfl, hS1⟩; replace hS := hS1; clear hS1; obtain ⟨e1, g1, l1⟩ := hS.own)
        | ((with_reducible refine (At.op1G (HF.out _) (ownA_good _ _ _) emp_good HG.out hS).mono ?_); rintro e w1 ⟨rfl, hS1⟩; replace hS := hS1; clear hS1; obtain ⟨e1, g1, l1⟩ := hS.own))
    | (go_at_call 28; first
        | ((with_reducible refine (HN.out _).mono ?_); rintro e w1 ⟨rfl, rfl⟩)
        | ((with_reducible refine (At.op1G (HH.out _) (ownA_good _ _ _) emp_good HG.out hS).mono ?_); rintro e w1 ⟨rfl, hS1⟩; replace hS := hS1; clear hS1; obtain ⟨e1, g1, l1⟩ := hS.own))
    | (go_at_call 24; (with_reducible refine (HQ.out _).mono ?_); rintro e w1 ⟨rfl, rfl⟩)
    | (go_at_call 20; (with_reducible refine (At.op1G ((HL.out _).g) (ownA_good _ _ _) emp_good HG.out hS).mono ?_); rintro e w1 ⟨rfl, hS1⟩; replace hS := hS1; clear hS1)
    | (go_at_call 16; (with_reducible refine (lnum _ _).mono ?_); rintro e w1 ⟨rfl, rfl⟩))
  go_ret
  exact ⟨rfl, hS.bel⟩
set_option maxRecDepth 100000 in
set_option maxHeartbeats 8000000 in
theorem sforms3 (S : ByteArray) (T : List ByteArray) (n x : Int) (m : Nat) (m1 : m ≤ 1023) (hm : bits .and .i64 x 1023 = (m : Int)) (hj : (IntKind.u64.wrap n).tmod 7 = 3) (h64 : S.size = 64) (hT : T.length = 1)
    (ha : ∀ p : Nat, DoesG Tryd.prog (bookA p 1 []) 24 #[.pointer (some ⟨p, 0, none⟩), .int .i64 1023] (.returned (.tuple #[.string S, .int .i64 0])) (bookA p 1 T))
    (hb : ∀ p : Nat, DoesG Tryd.prog (bookA p 1 T) 24 #[.pointer (some ⟨p, 0, none⟩), .int .i64 (1023 + (1 + (m : Int)))] (.returned (.tuple #[.string ⟨#[]⟩, .int .i64 1000])) (bookA p 1 T))
    (hc : ∀ p : Nat, DoesG Tryd.prog (bookA p 1 T) 24 #[.pointer (some ⟨p, 0, none⟩), .int .i64 (1 - (1 + (m : Int)))] (.returned (.tuple #[.string ⟨#[]⟩, .int .i64 1000])) (bookA p 1 T))
    (hd : ∀ p : Nat, DoesG Tryd.prog (bookA p 1 T) 24 #[.pointer (some ⟨p, 0, none⟩), .int .i64 1] (.returned (.tuple #[.string ⟨#[]⟩, .int .i64 1000])) (bookA p 1 T))
    (he : ∀ p : Nat, DoesG Tryd.prog (bookA p 1 T) 26 #[.pointer (some ⟨p, 0, none⟩), .string (⟨#[1]⟩ ++ S.extract 1 64)] (.returned (.tuple #[.int .i64 0, .int .i64 1000])) (bookA p 1 T))
    (hf : ∀ p : Nat, DoesG Tryd.prog (bookA p 1 T) 26 #[.pointer (some ⟨p, 0, none⟩), .string S] (.returned (.tuple #[.int .i64 1023, .int .i64 0])) (bookA p 1 T))
    (hh : ∀ p : Nat, DoesG Tryd.prog (bookA p 1 T) 28 #[.pointer (some ⟨p, 0, none⟩), .string (⟨#[1]⟩ ++ S.extract 1 64), .string S] (.returned (.tuple #[.int .i64 1023, .int .i64 0, .int .i64 0])) (bookA p 1 T))
    (w : World) (hg : Gd w) :
    Calls Tryd.prog 10 #[.int .i64 n, .int .i64 x] w fun e w' => e = .returned (.bool true) ∧ Below w.heap.size w w' := by
  have HA := Lib.hid ha
  have HB := Lib.hid hb
  have HC := Lib.hid hc
  have HD := Lib.hid hd
  have HE := Lib.hid he
  have HF := Lib.hid hf
  have HH := Lib.hid hh
  have HG := Lib.hid hg
  have HW := Lib.hid (awake10 w hg)
  have HL := Lib.hid (fun p => dlen p 1 T)
  rw [hT] at HL
  have HN := Lib.hid (fun w => dspick_nil S S w)
  have HQ := Lib.hid (fun w => dsput_nil 1 w)
  have h64i : (S.size : Int) = 64 := by omega
  clear ha hb hc hd he hf hh hg
  go_enter Tryd.func10, Tryd.ntmps10
  go_wp2_with (first
    | (go_at_call 23; (with_reducible refine (HW.out).mono ?_); rintro e w1 ⟨rfl, hb0⟩; have hS0 := At.none hb0; clear hb0)
    | (go_at_call 21; (with_reducible refine (bnew_ok 1 _ (by omega) (by omega)).mono ?_); rintro e w1 ⟨p, rfl, hb⟩; have hS := At.add emp_good hS0 hb; clear hb hS0)
    | (go_at_call 24; first
        | ((with_reducible refine (At.op0G (HA.out _) emp_good HG.out hS).mono ?_); rintro e w1 ⟨rfl, hS1⟩; replace hS := hS1; clear hS1)
        | ((with_reducible refine (At.op0G (HB.out _) emp_good HG.out hS).mono ?_); rintro e w1 ⟨rfl, hS1⟩; replace hS := hS1; clear hS1)
        | ((with_reducible refine (At.op0G (HC.out _) emp_good HG.out hS).mono ?_); rintro e w1 ⟨rfl, hS1⟩; replace hS := hS1; clear hS1)
        | ((with_reducible refine (At.op0G (HD.out _) emp_good HG.out hS).mono ?_); rintro e w1 ⟨rfl, hS1⟩; replace hS := hS1; clear hS1))
    | (go_at_call 16; (with_reducible refine (lnum _ _).mono ?_); rintro e w1 ⟨rfl, rfl⟩))
  refine region_held (S := fun _ => True) 20 [false, false, false, false, false, false, false, false, false, false, false, false, false, false, false, false, false, false, false, false] rfl rfl (by kernel_rfl) fun W hW => ?_
  have hBW : At w ((bookA p 1 T).star emp) W := by subst hW; exact hS.lay (good1 _ _ _) (bdrew _)
  clear hW hS
  refine held_take 0 sf0 (some 78) ?_ rfl rfl (by kernel_rfl) (by kernel_rfl) (by kernel_rfl) (fun _ _ _ h => h) (Or.inl ⟨by rfl, ?_⟩) trivial ?_
  rotate_left
  · intro w0 hy0; (go_simp <;> with_reducible rfl)
  simp only [Act.put, List.setIfInBounds_toArray, List.set_cons_zero, List.set_cons_succ]
  refine held_take 1 sf1 (some 79) ?_ rfl rfl (by kernel_rfl) (by kernel_rfl) (by kernel_rfl) (fun _ _ _ h => h) (Or.inl ⟨by rfl, ?_⟩) trivial ?_
  rotate_left
  · intro w0 hy0; (go_simp <;> with_reducible rfl)
  simp only [Act.put, List.setIfInBounds_toArray, List.set_cons_zero, List.set_cons_succ]
  refine held_take 2 sf2 (some 80) ?_ rfl rfl (by kernel_rfl) (by kernel_rfl) (by kernel_rfl) (fun _ _ _ h => h) (Or.inl ⟨by rfl, ?_⟩) trivial ?_
  rotate_left
  · intro w0 hy0; (go_simp <;> with_reducible rfl)
  simp only [Act.put, List.setIfInBounds_toArray, List.set_cons_zero, List.set_cons_succ]
  refine held_take 3 sf3 (some 81) ?_ rfl rfl (by kernel_rfl) (by kernel_rfl) (by kernel_rfl) (fun _ _ _ h => h) (Or.inl ⟨by rfl, ?_⟩) trivial ?_
  rotate_left
  · intro w0 hy0; (go_simp <;> with_reducible rfl)
  simp only [Act.put, List.setIfInBounds_toArray, List.set_cons_zero, List.set_cons_succ]
  refine held_take 4 sf4 (some 82) ?_ rfl rfl (by kernel_rfl) (by kernel_rfl) (by kernel_rfl) (fun _ _ _ h => h) (Or.inl ⟨by rfl, ?_⟩) trivial ?_
  rotate_left
  · intro w0 hy0; (go_simp <;> with_reducible rfl)
  simp only [Act.put, List.setIfInBounds_toArray, List.set_cons_zero, List.set_cons_succ]
  refine held_take 5 sf5 (some 83) ?_ rfl rfl (by kernel_rfl) (by kernel_rfl) (by kernel_rfl) (fun _ _ _ h => h) (Or.inl ⟨by rfl, ?_⟩) trivial ?_
  rotate_left
  · intro w0 hy0; (go_simp <;> with_reducible rfl)
  simp only [Act.put, List.setIfInBounds_toArray, List.set_cons_zero, List.set_cons_succ]
  refine held_take 6 sf6 (some 84) ?_ rfl rfl (by kernel_rfl) (by kernel_rfl) (by kernel_rfl) (fun _ _ _ h => h) (Or.inl ⟨by rfl, ?_⟩) trivial ?_
  rotate_left
  · intro w0 hy0; (go_simp <;> with_reducible rfl)
  simp only [Act.put, List.setIfInBounds_toArray, List.set_cons_zero, List.set_cons_succ]
  refine held_take 7 sf7 (some 85) ?_ rfl rfl (by kernel_rfl) (by kernel_rfl) (by kernel_rfl) (fun _ _ _ h => h) (Or.inl ⟨by rfl, ?_⟩) trivial ?_
  rotate_left
  · intro w0 hy0; (go_simp <;> with_reducible rfl)
  simp only [Act.put, List.setIfInBounds_toArray, List.set_cons_zero, List.set_cons_succ]
  refine held_take 8 sf8 (some 86) ?_ rfl rfl (by kernel_rfl) (by kernel_rfl) (by kernel_rfl) (fun _ _ _ h => h) (Or.inl ⟨by rfl, ?_⟩) trivial ?_
  rotate_left
  · intro w0 hy0; (go_simp <;> with_reducible rfl)
  simp only [Act.put, List.setIfInBounds_toArray, List.set_cons_zero, List.set_cons_succ]
  refine held_take 9 sf9 (some 87) ?_ rfl rfl (by kernel_rfl) (by kernel_rfl) (by kernel_rfl) (fun _ _ _ h => h) (Or.inl ⟨by rfl, ?_⟩) trivial ?_
  rotate_left
  · intro w0 hy0; (go_simp <;> with_reducible rfl)
  simp only [Act.put, List.setIfInBounds_toArray, List.set_cons_zero, List.set_cons_succ]
  refine held_take 10 sf10 (some 88) ?_ rfl rfl (by kernel_rfl) (by kernel_rfl) (by kernel_rfl) (fun _ _ _ h => h) (Or.inl ⟨by rfl, ?_⟩) trivial ?_
  rotate_left
  · intro w0 hy0; (go_simp <;> with_reducible rfl)
  simp only [Act.put, List.setIfInBounds_toArray, List.set_cons_zero, List.set_cons_succ]
  refine held_take 11 sf11 (some 89) ?_ rfl rfl (by kernel_rfl) (by kernel_rfl) (by kernel_rfl) (fun _ _ _ h => h) (Or.inl ⟨by rfl, ?_⟩) trivial ?_
  rotate_left
  · intro w0 hy0; (go_simp <;> with_reducible rfl)
  simp only [Act.put, List.setIfInBounds_toArray, List.set_cons_zero, List.set_cons_succ]
  refine held_take 12 sf12 (some 90) ?_ rfl rfl (by kernel_rfl) (by kernel_rfl) (by kernel_rfl) (fun _ _ _ h => h) (Or.inl ⟨by rfl, ?_⟩) trivial ?_
  rotate_left
  · intro w0 hy0; (go_simp <;> with_reducible rfl)
  simp only [Act.put, List.setIfInBounds_toArray, List.set_cons_zero, List.set_cons_succ]
  refine held_take 13 sf13 (some 91) ?_ rfl rfl (by kernel_rfl) (by kernel_rfl) (by kernel_rfl) (fun _ _ _ h => h) (Or.inl ⟨by rfl, ?_⟩) trivial ?_
  rotate_left
  · intro w0 hy0; (go_simp <;> with_reducible rfl)
  simp only [Act.put, List.setIfInBounds_toArray, List.set_cons_zero, List.set_cons_succ]
  refine held_take 14 sf14 (some 92) ?_ rfl rfl (by kernel_rfl) (by kernel_rfl) (by kernel_rfl) (fun _ _ _ h => h) (Or.inl ⟨by rfl, ?_⟩) trivial ?_
  rotate_left
  · intro w0 hy0; (go_simp <;> with_reducible rfl)
  simp only [Act.put, List.setIfInBounds_toArray, List.set_cons_zero, List.set_cons_succ]
  refine held_take 15 sf15 (some 93) ?_ rfl rfl (by kernel_rfl) (by kernel_rfl) (by kernel_rfl) (fun _ _ _ h => h) (Or.inl ⟨by rfl, ?_⟩) trivial ?_
  rotate_left
  · intro w0 hy0; (go_simp <;> with_reducible rfl)
  simp only [Act.put, List.setIfInBounds_toArray, List.set_cons_zero, List.set_cons_succ]
  refine held_one 16 sf16 (some 94) (.slice (some ⟨W.heap.size, 0, none⟩) 64 64) (W.alloc (zkObj 64)) (by kernel_rfl) rfl rfl (by rfl) (exec_make 45 (.const (.int .i64 64)) (.const (.int .i64 64)) rfl rfl rfl (zk_made 64 (by omega) W)) trivial ?_
  simp only [Act.put, List.setIfInBounds_toArray, List.set_cons_zero, List.set_cons_succ]
  refine held_one 17 sf17 (some 95) (.string (zerN 64)) (W.alloc (zkObj 64)) (by kernel_rfl) rfl rfl (by rfl) (exec_conv 45 9 (.tmp 94) rfl rfl (zk_conv 64 (by omega) W)) trivial ?_
  simp only [Act.put, List.setIfInBounds_toArray, List.set_cons_zero, List.set_cons_succ]
  have hB3 := hBW.lay (good1 _ _ _) (balloc W (zkObj 64))
  generalize hX : W.alloc (zkObj 64) = X at *
  clear hX hBW
  refine held_one 18 sf18 (some 96) (.slice (some ⟨X.heap.size, 0, none⟩) 7 7) (X.alloc (.cells #[.string (⟨#[]⟩), .string (S.extract 1 64), .string (S ++ ⟨#[0]⟩), .string (⟨#[1]⟩ ++ S.extract 1 64), .string (S.extract 0 2 ++ ⟨#[1]⟩ ++ S.extract 3 64), .string (S.extract 0 63 ++ ⟨#[1]⟩), .string (zerN 64)] 9)) (by kernel_rfl) rfl rfl (by rfl) (exec_b7 (t1 := S.extract 1 64) (t2 := S ++ ⟨#[0]⟩) (t3 := ⟨#[1]⟩ ++ S.extract 1 64) (t4 := S.extract 0 2 ++ ⟨#[1]⟩ ++ S.extract 3 64) (t5 := S.extract 0 63 ++ ⟨#[1]⟩) (t6 := zerN 64) (.tmp 79) (.tmp 81) (.tmp 84) (.tmp 90) (.tmp 93) (.tmp 95) rfl rfl rfl rfl rfl rfl rfl rfl) trivial ?_
  simp only [Act.put, List.setIfInBounds_toArray, List.set_cons_zero, List.set_cons_succ]
  refine held_take 19 sf19 (some 16) ?_ rfl rfl (by kernel_rfl) (by kernel_rfl) (by kernel_rfl) (fun _ _ _ h => h) (Or.inl ⟨by rfl, ?_⟩) trivial ?_
  rotate_left
  · intro w0 hy0; (go_simp <;> with_reducible rfl)
  simp only [Act.put, List.setIfInBounds_toArray, List.set_cons_zero, List.set_cons_succ]
  refine wpAnyH_done (by kernel_rfl) ?_ _
  have hS := hB3.hold (good1 _ _ _) #[.string (⟨#[]⟩), .string (S.extract 1 64), .string (S ++ ⟨#[0]⟩), .string (⟨#[1]⟩ ++ S.extract 1 64), .string (S.extract 0 2 ++ ⟨#[1]⟩ ++ S.extract 3 64), .string (S.extract 0 63 ++ ⟨#[1]⟩), .string (zerN 64)] 9
  clear hB3
  obtain ⟨e1, g1, l1⟩ := hS.own
  go_wp2_with (first
    | (go_at_call 26; first
        | ((with_reducible refine (At.op1G (HE.out _) (ownA_good _ _ _) emp_good HG.out hS).mono ?_); rintro e w1 ⟨rfl, hS1⟩; replace hS := hS1; clear hS1; obtain ⟨e1, g1, l1⟩ := hS.own)
        | ((with_reducible refine (At.op1G (HF.out _) (ownA_good _ _ _) emp_good HG.out hS).mono ?_); rintro e w1 ⟨rfl, hS1⟩; replace hS := hS1; clear hS1; obtain ⟨e1, g1, l1⟩ := hS.own))
    | (go_at_call 28; first
        | ((with_reducible refine (HN.out _).mono ?_); rintro e w1 ⟨rfl, rfl⟩)
        | ((with_reducible refine (At.op1G (HH.out _) (ownA_good _ _ _) emp_good HG.out hS).mono ?_); rintro e w1 ⟨rfl, hS1⟩; replace hS := hS1; clear hS1; obtain ⟨e1, g1, l1⟩ := hS.own))
    | (go_at_call 24; (with_reducible refine (HQ.out _).mono ?_); rintro e w1 ⟨rfl, rfl⟩)
    | (go_at_call 20; (with_reducible refine (At.op1G ((HL.out _).g) (ownA_good _ _ _) emp_good HG.out hS).mono ?_); rintro e w1 ⟨rfl, hS1⟩; replace hS := hS1; clear hS1)
    | (go_at_call 16; (with_reducible refine (lnum _ _).mono ?_); rintro e w1 ⟨rfl, rfl⟩))
  go_ret
  exact ⟨rfl, hS.bel⟩
set_option maxRecDepth 100000 in
set_option maxHeartbeats 8000000 in
theorem sforms4 (S : ByteArray) (T : List ByteArray) (n x : Int) (m : Nat) (m1 : m ≤ 1023) (hm : bits .and .i64 x 1023 = (m : Int)) (hj : (IntKind.u64.wrap n).tmod 7 = 4) (h64 : S.size = 64) (hT : T.length = 1)
    (ha : ∀ p : Nat, DoesG Tryd.prog (bookA p 1 []) 24 #[.pointer (some ⟨p, 0, none⟩), .int .i64 1023] (.returned (.tuple #[.string S, .int .i64 0])) (bookA p 1 T))
    (hb : ∀ p : Nat, DoesG Tryd.prog (bookA p 1 T) 24 #[.pointer (some ⟨p, 0, none⟩), .int .i64 (1023 + (1 + (m : Int)))] (.returned (.tuple #[.string ⟨#[]⟩, .int .i64 1000])) (bookA p 1 T))
    (hc : ∀ p : Nat, DoesG Tryd.prog (bookA p 1 T) 24 #[.pointer (some ⟨p, 0, none⟩), .int .i64 (1 - (1 + (m : Int)))] (.returned (.tuple #[.string ⟨#[]⟩, .int .i64 1000])) (bookA p 1 T))
    (hd : ∀ p : Nat, DoesG Tryd.prog (bookA p 1 T) 24 #[.pointer (some ⟨p, 0, none⟩), .int .i64 1] (.returned (.tuple #[.string ⟨#[]⟩, .int .i64 1000])) (bookA p 1 T))
    (he : ∀ p : Nat, DoesG Tryd.prog (bookA p 1 T) 26 #[.pointer (some ⟨p, 0, none⟩), .string (S.extract 0 2 ++ ⟨#[1]⟩ ++ S.extract 3 64)] (.returned (.tuple #[.int .i64 0, .int .i64 1000])) (bookA p 1 T))
    (hf : ∀ p : Nat, DoesG Tryd.prog (bookA p 1 T) 26 #[.pointer (some ⟨p, 0, none⟩), .string S] (.returned (.tuple #[.int .i64 1023, .int .i64 0])) (bookA p 1 T))
    (hh : ∀ p : Nat, DoesG Tryd.prog (bookA p 1 T) 28 #[.pointer (some ⟨p, 0, none⟩), .string (S.extract 0 2 ++ ⟨#[1]⟩ ++ S.extract 3 64), .string S] (.returned (.tuple #[.int .i64 1023, .int .i64 0, .int .i64 0])) (bookA p 1 T))
    (w : World) (hg : Gd w) :
    Calls Tryd.prog 10 #[.int .i64 n, .int .i64 x] w fun e w' => e = .returned (.bool true) ∧ Below w.heap.size w w' := by
  have HA := Lib.hid ha
  have HB := Lib.hid hb
  have HC := Lib.hid hc
  have HD := Lib.hid hd
  have HE := Lib.hid he
  have HF := Lib.hid hf
  have HH := Lib.hid hh
  have HG := Lib.hid hg
  have HW := Lib.hid (awake10 w hg)
  have HL := Lib.hid (fun p => dlen p 1 T)
  rw [hT] at HL
  have HN := Lib.hid (fun w => dspick_nil S S w)
  have HQ := Lib.hid (fun w => dsput_nil 1 w)
  have h64i : (S.size : Int) = 64 := by omega
  clear ha hb hc hd he hf hh hg
  go_enter Tryd.func10, Tryd.ntmps10
  go_wp2_with (first
    | (go_at_call 23; (with_reducible refine (HW.out).mono ?_); rintro e w1 ⟨rfl, hb0⟩; have hS0 := At.none hb0; clear hb0)
    | (go_at_call 21; (with_reducible refine (bnew_ok 1 _ (by omega) (by omega)).mono ?_); rintro e w1 ⟨p, rfl, hb⟩; have hS := At.add emp_good hS0 hb; clear hb hS0)
    | (go_at_call 24; first
        | ((with_reducible refine (At.op0G (HA.out _) emp_good HG.out hS).mono ?_); rintro e w1 ⟨rfl, hS1⟩; replace hS := hS1; clear hS1)
        | ((with_reducible refine (At.op0G (HB.out _) emp_good HG.out hS).mono ?_); rintro e w1 ⟨rfl, hS1⟩; replace hS := hS1; clear hS1)
        | ((with_reducible refine (At.op0G (HC.out _) emp_good HG.out hS).mono ?_); rintro e w1 ⟨rfl, hS1⟩; replace hS := hS1; clear hS1)
        | ((with_reducible refine (At.op0G (HD.out _) emp_good HG.out hS).mono ?_); rintro e w1 ⟨rfl, hS1⟩; replace hS := hS1; clear hS1))
    | (go_at_call 16; (with_reducible refine (lnum _ _).mono ?_); rintro e w1 ⟨rfl, rfl⟩))
  refine region_held (S := fun _ => True) 20 [false, false, false, false, false, false, false, false, false, false, false, false, false, false, false, false, false, false, false, false] rfl rfl (by kernel_rfl) fun W hW => ?_
  have hBW : At w ((bookA p 1 T).star emp) W := by subst hW; exact hS.lay (good1 _ _ _) (bdrew _)
  clear hW hS
  refine held_take 0 sf0 (some 78) ?_ rfl rfl (by kernel_rfl) (by kernel_rfl) (by kernel_rfl) (fun _ _ _ h => h) (Or.inl ⟨by rfl, ?_⟩) trivial ?_
  rotate_left
  · intro w0 hy0; (go_simp <;> with_reducible rfl)
  simp only [Act.put, List.setIfInBounds_toArray, List.set_cons_zero, List.set_cons_succ]
  refine held_take 1 sf1 (some 79) ?_ rfl rfl (by kernel_rfl) (by kernel_rfl) (by kernel_rfl) (fun _ _ _ h => h) (Or.inl ⟨by rfl, ?_⟩) trivial ?_
  rotate_left
  · intro w0 hy0; (go_simp <;> with_reducible rfl)
  simp only [Act.put, List.setIfInBounds_toArray, List.set_cons_zero, List.set_cons_succ]
  refine held_take 2 sf2 (some 80) ?_ rfl rfl (by kernel_rfl) (by kernel_rfl) (by kernel_rfl) (fun _ _ _ h => h) (Or.inl ⟨by rfl, ?_⟩) trivial ?_
  rotate_left
  · intro w0 hy0; (go_simp <;> with_reducible rfl)
  simp only [Act.put, List.setIfInBounds_toArray, List.set_cons_zero, List.set_cons_succ]
  refine held_take 3 sf3 (some 81) ?_ rfl rfl (by kernel_rfl) (by kernel_rfl) (by kernel_rfl) (fun _ _ _ h => h) (Or.inl ⟨by rfl, ?_⟩) trivial ?_
  rotate_left
  · intro w0 hy0; (go_simp <;> with_reducible rfl)
  simp only [Act.put, List.setIfInBounds_toArray, List.set_cons_zero, List.set_cons_succ]
  refine held_take 4 sf4 (some 82) ?_ rfl rfl (by kernel_rfl) (by kernel_rfl) (by kernel_rfl) (fun _ _ _ h => h) (Or.inl ⟨by rfl, ?_⟩) trivial ?_
  rotate_left
  · intro w0 hy0; (go_simp <;> with_reducible rfl)
  simp only [Act.put, List.setIfInBounds_toArray, List.set_cons_zero, List.set_cons_succ]
  refine held_take 5 sf5 (some 83) ?_ rfl rfl (by kernel_rfl) (by kernel_rfl) (by kernel_rfl) (fun _ _ _ h => h) (Or.inl ⟨by rfl, ?_⟩) trivial ?_
  rotate_left
  · intro w0 hy0; (go_simp <;> with_reducible rfl)
  simp only [Act.put, List.setIfInBounds_toArray, List.set_cons_zero, List.set_cons_succ]
  refine held_take 6 sf6 (some 84) ?_ rfl rfl (by kernel_rfl) (by kernel_rfl) (by kernel_rfl) (fun _ _ _ h => h) (Or.inl ⟨by rfl, ?_⟩) trivial ?_
  rotate_left
  · intro w0 hy0; (go_simp <;> with_reducible rfl)
  simp only [Act.put, List.setIfInBounds_toArray, List.set_cons_zero, List.set_cons_succ]
  refine held_take 7 sf7 (some 85) ?_ rfl rfl (by kernel_rfl) (by kernel_rfl) (by kernel_rfl) (fun _ _ _ h => h) (Or.inl ⟨by rfl, ?_⟩) trivial ?_
  rotate_left
  · intro w0 hy0; (go_simp <;> with_reducible rfl)
  simp only [Act.put, List.setIfInBounds_toArray, List.set_cons_zero, List.set_cons_succ]
  refine held_take 8 sf8 (some 86) ?_ rfl rfl (by kernel_rfl) (by kernel_rfl) (by kernel_rfl) (fun _ _ _ h => h) (Or.inl ⟨by rfl, ?_⟩) trivial ?_
  rotate_left
  · intro w0 hy0; (go_simp <;> with_reducible rfl)
  simp only [Act.put, List.setIfInBounds_toArray, List.set_cons_zero, List.set_cons_succ]
  refine held_take 9 sf9 (some 87) ?_ rfl rfl (by kernel_rfl) (by kernel_rfl) (by kernel_rfl) (fun _ _ _ h => h) (Or.inl ⟨by rfl, ?_⟩) trivial ?_
  rotate_left
  · intro w0 hy0; (go_simp <;> with_reducible rfl)
  simp only [Act.put, List.setIfInBounds_toArray, List.set_cons_zero, List.set_cons_succ]
  refine held_take 10 sf10 (some 88) ?_ rfl rfl (by kernel_rfl) (by kernel_rfl) (by kernel_rfl) (fun _ _ _ h => h) (Or.inl ⟨by rfl, ?_⟩) trivial ?_
  rotate_left
  · intro w0 hy0; (go_simp <;> with_reducible rfl)
  simp only [Act.put, List.setIfInBounds_toArray, List.set_cons_zero, List.set_cons_succ]
  refine held_take 11 sf11 (some 89) ?_ rfl rfl (by kernel_rfl) (by kernel_rfl) (by kernel_rfl) (fun _ _ _ h => h) (Or.inl ⟨by rfl, ?_⟩) trivial ?_
  rotate_left
  · intro w0 hy0; (go_simp <;> with_reducible rfl)
  simp only [Act.put, List.setIfInBounds_toArray, List.set_cons_zero, List.set_cons_succ]
  refine held_take 12 sf12 (some 90) ?_ rfl rfl (by kernel_rfl) (by kernel_rfl) (by kernel_rfl) (fun _ _ _ h => h) (Or.inl ⟨by rfl, ?_⟩) trivial ?_
  rotate_left
  · intro w0 hy0; (go_simp <;> with_reducible rfl)
  simp only [Act.put, List.setIfInBounds_toArray, List.set_cons_zero, List.set_cons_succ]
  refine held_take 13 sf13 (some 91) ?_ rfl rfl (by kernel_rfl) (by kernel_rfl) (by kernel_rfl) (fun _ _ _ h => h) (Or.inl ⟨by rfl, ?_⟩) trivial ?_
  rotate_left
  · intro w0 hy0; (go_simp <;> with_reducible rfl)
  simp only [Act.put, List.setIfInBounds_toArray, List.set_cons_zero, List.set_cons_succ]
  refine held_take 14 sf14 (some 92) ?_ rfl rfl (by kernel_rfl) (by kernel_rfl) (by kernel_rfl) (fun _ _ _ h => h) (Or.inl ⟨by rfl, ?_⟩) trivial ?_
  rotate_left
  · intro w0 hy0; (go_simp <;> with_reducible rfl)
  simp only [Act.put, List.setIfInBounds_toArray, List.set_cons_zero, List.set_cons_succ]
  refine held_take 15 sf15 (some 93) ?_ rfl rfl (by kernel_rfl) (by kernel_rfl) (by kernel_rfl) (fun _ _ _ h => h) (Or.inl ⟨by rfl, ?_⟩) trivial ?_
  rotate_left
  · intro w0 hy0; (go_simp <;> with_reducible rfl)
  simp only [Act.put, List.setIfInBounds_toArray, List.set_cons_zero, List.set_cons_succ]
  refine held_one 16 sf16 (some 94) (.slice (some ⟨W.heap.size, 0, none⟩) 64 64) (W.alloc (zkObj 64)) (by kernel_rfl) rfl rfl (by rfl) (exec_make 45 (.const (.int .i64 64)) (.const (.int .i64 64)) rfl rfl rfl (zk_made 64 (by omega) W)) trivial ?_
  simp only [Act.put, List.setIfInBounds_toArray, List.set_cons_zero, List.set_cons_succ]
  refine held_one 17 sf17 (some 95) (.string (zerN 64)) (W.alloc (zkObj 64)) (by kernel_rfl) rfl rfl (by rfl) (exec_conv 45 9 (.tmp 94) rfl rfl (zk_conv 64 (by omega) W)) trivial ?_
  simp only [Act.put, List.setIfInBounds_toArray, List.set_cons_zero, List.set_cons_succ]
  have hB3 := hBW.lay (good1 _ _ _) (balloc W (zkObj 64))
  generalize hX : W.alloc (zkObj 64) = X at *
  clear hX hBW
  refine held_one 18 sf18 (some 96) (.slice (some ⟨X.heap.size, 0, none⟩) 7 7) (X.alloc (.cells #[.string (⟨#[]⟩), .string (S.extract 1 64), .string (S ++ ⟨#[0]⟩), .string (⟨#[1]⟩ ++ S.extract 1 64), .string (S.extract 0 2 ++ ⟨#[1]⟩ ++ S.extract 3 64), .string (S.extract 0 63 ++ ⟨#[1]⟩), .string (zerN 64)] 9)) (by kernel_rfl) rfl rfl (by rfl) (exec_b7 (t1 := S.extract 1 64) (t2 := S ++ ⟨#[0]⟩) (t3 := ⟨#[1]⟩ ++ S.extract 1 64) (t4 := S.extract 0 2 ++ ⟨#[1]⟩ ++ S.extract 3 64) (t5 := S.extract 0 63 ++ ⟨#[1]⟩) (t6 := zerN 64) (.tmp 79) (.tmp 81) (.tmp 84) (.tmp 90) (.tmp 93) (.tmp 95) rfl rfl rfl rfl rfl rfl rfl rfl) trivial ?_
  simp only [Act.put, List.setIfInBounds_toArray, List.set_cons_zero, List.set_cons_succ]
  refine held_take 19 sf19 (some 16) ?_ rfl rfl (by kernel_rfl) (by kernel_rfl) (by kernel_rfl) (fun _ _ _ h => h) (Or.inl ⟨by rfl, ?_⟩) trivial ?_
  rotate_left
  · intro w0 hy0; (go_simp <;> with_reducible rfl)
  simp only [Act.put, List.setIfInBounds_toArray, List.set_cons_zero, List.set_cons_succ]
  refine wpAnyH_done (by kernel_rfl) ?_ _
  have hS := hB3.hold (good1 _ _ _) #[.string (⟨#[]⟩), .string (S.extract 1 64), .string (S ++ ⟨#[0]⟩), .string (⟨#[1]⟩ ++ S.extract 1 64), .string (S.extract 0 2 ++ ⟨#[1]⟩ ++ S.extract 3 64), .string (S.extract 0 63 ++ ⟨#[1]⟩), .string (zerN 64)] 9
  clear hB3
  obtain ⟨e1, g1, l1⟩ := hS.own
  go_wp2_with (first
    | (go_at_call 26; first
        | ((with_reducible refine (At.op1G (HE.out _) (ownA_good _ _ _) emp_good HG.out hS).mono ?_); rintro e w1 ⟨rfl, hS1⟩; replace hS := hS1; clear hS1; obtain ⟨e1, g1, l1⟩ := hS.own)
        | ((with_reducible refine (At.op1G (HF.out _) (ownA_good _ _ _) emp_good HG.out hS).mono ?_); rintro e w1 ⟨rfl, hS1⟩; replace hS := hS1; clear hS1; obtain ⟨e1, g1, l1⟩ := hS.own))
    | (go_at_call 28; first
        | ((with_reducible refine (HN.out _).mono ?_); rintro e w1 ⟨rfl, rfl⟩)
        | ((with_reducible refine (At.op1G (HH.out _) (ownA_good _ _ _) emp_good HG.out hS).mono ?_); rintro e w1 ⟨rfl, hS1⟩; replace hS := hS1; clear hS1; obtain ⟨e1, g1, l1⟩ := hS.own))
    | (go_at_call 24; (with_reducible refine (HQ.out _).mono ?_); rintro e w1 ⟨rfl, rfl⟩)
    | (go_at_call 20; (with_reducible refine (At.op1G ((HL.out _).g) (ownA_good _ _ _) emp_good HG.out hS).mono ?_); rintro e w1 ⟨rfl, hS1⟩; replace hS := hS1; clear hS1)
    | (go_at_call 16; (with_reducible refine (lnum _ _).mono ?_); rintro e w1 ⟨rfl, rfl⟩))
  go_ret
  exact ⟨rfl, hS.bel⟩
set_option maxRecDepth 100000 in
set_option maxHeartbeats 8000000 in
theorem sforms5 (S : ByteArray) (T : List ByteArray) (n x : Int) (m : Nat) (m1 : m ≤ 1023) (hm : bits .and .i64 x 1023 = (m : Int)) (hj : (IntKind.u64.wrap n).tmod 7 = 5) (h64 : S.size = 64) (hT : T.length = 1)
    (ha : ∀ p : Nat, DoesG Tryd.prog (bookA p 1 []) 24 #[.pointer (some ⟨p, 0, none⟩), .int .i64 1023] (.returned (.tuple #[.string S, .int .i64 0])) (bookA p 1 T))
    (hb : ∀ p : Nat, DoesG Tryd.prog (bookA p 1 T) 24 #[.pointer (some ⟨p, 0, none⟩), .int .i64 (1023 + (1 + (m : Int)))] (.returned (.tuple #[.string ⟨#[]⟩, .int .i64 1000])) (bookA p 1 T))
    (hc : ∀ p : Nat, DoesG Tryd.prog (bookA p 1 T) 24 #[.pointer (some ⟨p, 0, none⟩), .int .i64 (1 - (1 + (m : Int)))] (.returned (.tuple #[.string ⟨#[]⟩, .int .i64 1000])) (bookA p 1 T))
    (hd : ∀ p : Nat, DoesG Tryd.prog (bookA p 1 T) 24 #[.pointer (some ⟨p, 0, none⟩), .int .i64 1] (.returned (.tuple #[.string ⟨#[]⟩, .int .i64 1000])) (bookA p 1 T))
    (he : ∀ p : Nat, DoesG Tryd.prog (bookA p 1 T) 26 #[.pointer (some ⟨p, 0, none⟩), .string (S.extract 0 63 ++ ⟨#[1]⟩)] (.returned (.tuple #[.int .i64 0, .int .i64 1000])) (bookA p 1 T))
    (hf : ∀ p : Nat, DoesG Tryd.prog (bookA p 1 T) 26 #[.pointer (some ⟨p, 0, none⟩), .string S] (.returned (.tuple #[.int .i64 1023, .int .i64 0])) (bookA p 1 T))
    (hh : ∀ p : Nat, DoesG Tryd.prog (bookA p 1 T) 28 #[.pointer (some ⟨p, 0, none⟩), .string (S.extract 0 63 ++ ⟨#[1]⟩), .string S] (.returned (.tuple #[.int .i64 1023, .int .i64 0, .int .i64 0])) (bookA p 1 T))
    (w : World) (hg : Gd w) :
    Calls Tryd.prog 10 #[.int .i64 n, .int .i64 x] w fun e w' => e = .returned (.bool true) ∧ Below w.heap.size w w' := by
  have HA := Lib.hid ha
  have HB := Lib.hid hb
  have HC := Lib.hid hc
  have HD := Lib.hid hd
  have HE := Lib.hid he
  have HF := Lib.hid hf
  have HH := Lib.hid hh
  have HG := Lib.hid hg
  have HW := Lib.hid (awake10 w hg)
  have HL := Lib.hid (fun p => dlen p 1 T)
  rw [hT] at HL
  have HN := Lib.hid (fun w => dspick_nil S S w)
  have HQ := Lib.hid (fun w => dsput_nil 1 w)
  have h64i : (S.size : Int) = 64 := by omega
  clear ha hb hc hd he hf hh hg
  go_enter Tryd.func10, Tryd.ntmps10
  go_wp2_with (first
    | (go_at_call 23; (with_reducible refine (HW.out).mono ?_); rintro e w1 ⟨rfl, hb0⟩; have hS0 := At.none hb0; clear hb0)
    | (go_at_call 21; (with_reducible refine (bnew_ok 1 _ (by omega) (by omega)).mono ?_); rintro e w1 ⟨p, rfl, hb⟩; have hS := At.add emp_good hS0 hb; clear hb hS0)
    | (go_at_call 24; first
        | ((with_reducible refine (At.op0G (HA.out _) emp_good HG.out hS).mono ?_); rintro e w1 ⟨rfl, hS1⟩; replace hS := hS1; clear hS1)
        | ((with_reducible refine (At.op0G (HB.out _) emp_good HG.out hS).mono ?_); rintro e w1 ⟨rfl, hS1⟩; replace hS := hS1; clear hS1)
        | ((with_reducible refine (At.op0G (HC.out _) emp_good HG.out hS).mono ?_); rintro e w1 ⟨rfl, hS1⟩; replace hS := hS1; clear hS1)
        | ((with_reducible refine (At.op0G (HD.out _) emp_good HG.out hS).mono ?_); rintro e w1 ⟨rfl, hS1⟩; replace hS := hS1; clear hS1))
    | (go_at_call 16; (with_reducible refine (lnum _ _).mono ?_); rintro e w1 ⟨rfl, rfl⟩))
  refine region_held (S := fun _ => True) 20 [false, false, false, false, false, false, false, false, false, false, false, false, false, false, false, false, false, false, false, false] rfl rfl (by kernel_rfl) fun W hW => ?_
  have hBW : At w ((bookA p 1 T).star emp) W := by subst hW; exact hS.lay (good1 _ _ _) (bdrew _)
  clear hW hS
  refine held_take 0 sf0 (some 78) ?_ rfl rfl (by kernel_rfl) (by kernel_rfl) (by kernel_rfl) (fun _ _ _ h => h) (Or.inl ⟨by rfl, ?_⟩) trivial ?_
  rotate_left
  · intro w0 hy0; (go_simp <;> with_reducible rfl)
  simp only [Act.put, List.setIfInBounds_toArray, List.set_cons_zero, List.set_cons_succ]
  refine held_take 1 sf1 (some 79) ?_ rfl rfl (by kernel_rfl) (by kernel_rfl) (by kernel_rfl) (fun _ _ _ h => h) (Or.inl ⟨by rfl, ?_⟩) trivial ?_
  rotate_left
  · intro w0 hy0; (go_simp <;> with_reducible rfl)
  simp only [Act.put, List.setIfInBounds_toArray, List.set_cons_zero, List.set_cons_succ]
  refine held_take 2 sf2 (some 80) ?_ rfl rfl (by kernel_rfl) (by kernel_rfl) (by kernel_rfl) (fun _ _ _ h => h) (Or.inl ⟨by rfl, ?_⟩) trivial ?_
  rotate_left
  · intro w0 hy0; (go_simp <;> with_reducible rfl)
  simp only [Act.put, List.setIfInBounds_toArray, List.set_cons_zero, List.set_cons_succ]
  refine held_take 3 sf3 (some 81) ?_ rfl rfl (by kernel_rfl) (by kernel_rfl) (by kernel_rfl) (fun _ _ _ h => h) (Or.inl ⟨by rfl, ?_⟩) trivial ?_
  rotate_left
  · intro w0 hy0; (go_simp <;> with_reducible rfl)
  simp only [Act.put, List.setIfInBounds_toArray, List.set_cons_zero, List.set_cons_succ]
  refine held_take 4 sf4 (some 82) ?_ rfl rfl (by kernel_rfl) (by kernel_rfl) (by kernel_rfl) (fun _ _ _ h => h) (Or.inl ⟨by rfl, ?_⟩) trivial ?_
  rotate_left
  · intro w0 hy0; (go_simp <;> with_reducible rfl)
  simp only [Act.put, List.setIfInBounds_toArray, List.set_cons_zero, List.set_cons_succ]
  refine held_take 5 sf5 (some 83) ?_ rfl rfl (by kernel_rfl) (by kernel_rfl) (by kernel_rfl) (fun _ _ _ h => h) (Or.inl ⟨by rfl, ?_⟩) trivial ?_
  rotate_left
  · intro w0 hy0; (go_simp <;> with_reducible rfl)
  simp only [Act.put, List.setIfInBounds_toArray, List.set_cons_zero, List.set_cons_succ]
  refine held_take 6 sf6 (some 84) ?_ rfl rfl (by kernel_rfl) (by kernel_rfl) (by kernel_rfl) (fun _ _ _ h => h) (Or.inl ⟨by rfl, ?_⟩) trivial ?_
  rotate_left
  · intro w0 hy0; (go_simp <;> with_reducible rfl)
  simp only [Act.put, List.setIfInBounds_toArray, List.set_cons_zero, List.set_cons_succ]
  refine held_take 7 sf7 (some 85) ?_ rfl rfl (by kernel_rfl) (by kernel_rfl) (by kernel_rfl) (fun _ _ _ h => h) (Or.inl ⟨by rfl, ?_⟩) trivial ?_
  rotate_left
  · intro w0 hy0; (go_simp <;> with_reducible rfl)
  simp only [Act.put, List.setIfInBounds_toArray, List.set_cons_zero, List.set_cons_succ]
  refine held_take 8 sf8 (some 86) ?_ rfl rfl (by kernel_rfl) (by kernel_rfl) (by kernel_rfl) (fun _ _ _ h => h) (Or.inl ⟨by rfl, ?_⟩) trivial ?_
  rotate_left
  · intro w0 hy0; (go_simp <;> with_reducible rfl)
  simp only [Act.put, List.setIfInBounds_toArray, List.set_cons_zero, List.set_cons_succ]
  refine held_take 9 sf9 (some 87) ?_ rfl rfl (by kernel_rfl) (by kernel_rfl) (by kernel_rfl) (fun _ _ _ h => h) (Or.inl ⟨by rfl, ?_⟩) trivial ?_
  rotate_left
  · intro w0 hy0; (go_simp <;> with_reducible rfl)
  simp only [Act.put, List.setIfInBounds_toArray, List.set_cons_zero, List.set_cons_succ]
  refine held_take 10 sf10 (some 88) ?_ rfl rfl (by kernel_rfl) (by kernel_rfl) (by kernel_rfl) (fun _ _ _ h => h) (Or.inl ⟨by rfl, ?_⟩) trivial ?_
  rotate_left
  · intro w0 hy0; (go_simp <;> with_reducible rfl)
  simp only [Act.put, List.setIfInBounds_toArray, List.set_cons_zero, List.set_cons_succ]
  refine held_take 11 sf11 (some 89) ?_ rfl rfl (by kernel_rfl) (by kernel_rfl) (by kernel_rfl) (fun _ _ _ h => h) (Or.inl ⟨by rfl, ?_⟩) trivial ?_
  rotate_left
  · intro w0 hy0; (go_simp <;> with_reducible rfl)
  simp only [Act.put, List.setIfInBounds_toArray, List.set_cons_zero, List.set_cons_succ]
  refine held_take 12 sf12 (some 90) ?_ rfl rfl (by kernel_rfl) (by kernel_rfl) (by kernel_rfl) (fun _ _ _ h => h) (Or.inl ⟨by rfl, ?_⟩) trivial ?_
  rotate_left
  · intro w0 hy0; (go_simp <;> with_reducible rfl)
  simp only [Act.put, List.setIfInBounds_toArray, List.set_cons_zero, List.set_cons_succ]
  refine held_take 13 sf13 (some 91) ?_ rfl rfl (by kernel_rfl) (by kernel_rfl) (by kernel_rfl) (fun _ _ _ h => h) (Or.inl ⟨by rfl, ?_⟩) trivial ?_
  rotate_left
  · intro w0 hy0; (go_simp <;> with_reducible rfl)
  simp only [Act.put, List.setIfInBounds_toArray, List.set_cons_zero, List.set_cons_succ]
  refine held_take 14 sf14 (some 92) ?_ rfl rfl (by kernel_rfl) (by kernel_rfl) (by kernel_rfl) (fun _ _ _ h => h) (Or.inl ⟨by rfl, ?_⟩) trivial ?_
  rotate_left
  · intro w0 hy0; (go_simp <;> with_reducible rfl)
  simp only [Act.put, List.setIfInBounds_toArray, List.set_cons_zero, List.set_cons_succ]
  refine held_take 15 sf15 (some 93) ?_ rfl rfl (by kernel_rfl) (by kernel_rfl) (by kernel_rfl) (fun _ _ _ h => h) (Or.inl ⟨by rfl, ?_⟩) trivial ?_
  rotate_left
  · intro w0 hy0; (go_simp <;> with_reducible rfl)
  simp only [Act.put, List.setIfInBounds_toArray, List.set_cons_zero, List.set_cons_succ]
  refine held_one 16 sf16 (some 94) (.slice (some ⟨W.heap.size, 0, none⟩) 64 64) (W.alloc (zkObj 64)) (by kernel_rfl) rfl rfl (by rfl) (exec_make 45 (.const (.int .i64 64)) (.const (.int .i64 64)) rfl rfl rfl (zk_made 64 (by omega) W)) trivial ?_
  simp only [Act.put, List.setIfInBounds_toArray, List.set_cons_zero, List.set_cons_succ]
  refine held_one 17 sf17 (some 95) (.string (zerN 64)) (W.alloc (zkObj 64)) (by kernel_rfl) rfl rfl (by rfl) (exec_conv 45 9 (.tmp 94) rfl rfl (zk_conv 64 (by omega) W)) trivial ?_
  simp only [Act.put, List.setIfInBounds_toArray, List.set_cons_zero, List.set_cons_succ]
  have hB3 := hBW.lay (good1 _ _ _) (balloc W (zkObj 64))
  generalize hX : W.alloc (zkObj 64) = X at *
  clear hX hBW
  refine held_one 18 sf18 (some 96) (.slice (some ⟨X.heap.size, 0, none⟩) 7 7) (X.alloc (.cells #[.string (⟨#[]⟩), .string (S.extract 1 64), .string (S ++ ⟨#[0]⟩), .string (⟨#[1]⟩ ++ S.extract 1 64), .string (S.extract 0 2 ++ ⟨#[1]⟩ ++ S.extract 3 64), .string (S.extract 0 63 ++ ⟨#[1]⟩), .string (zerN 64)] 9)) (by kernel_rfl) rfl rfl (by rfl) (exec_b7 (t1 := S.extract 1 64) (t2 := S ++ ⟨#[0]⟩) (t3 := ⟨#[1]⟩ ++ S.extract 1 64) (t4 := S.extract 0 2 ++ ⟨#[1]⟩ ++ S.extract 3 64) (t5 := S.extract 0 63 ++ ⟨#[1]⟩) (t6 := zerN 64) (.tmp 79) (.tmp 81) (.tmp 84) (.tmp 90) (.tmp 93) (.tmp 95) rfl rfl rfl rfl rfl rfl rfl rfl) trivial ?_
  simp only [Act.put, List.setIfInBounds_toArray, List.set_cons_zero, List.set_cons_succ]
  refine held_take 19 sf19 (some 16) ?_ rfl rfl (by kernel_rfl) (by kernel_rfl) (by kernel_rfl) (fun _ _ _ h => h) (Or.inl ⟨by rfl, ?_⟩) trivial ?_
  rotate_left
  · intro w0 hy0; (go_simp <;> with_reducible rfl)
  simp only [Act.put, List.setIfInBounds_toArray, List.set_cons_zero, List.set_cons_succ]
  refine wpAnyH_done (by kernel_rfl) ?_ _
  have hS := hB3.hold (good1 _ _ _) #[.string (⟨#[]⟩), .string (S.extract 1 64), .string (S ++ ⟨#[0]⟩), .string (⟨#[1]⟩ ++ S.extract 1 64), .string (S.extract 0 2 ++ ⟨#[1]⟩ ++ S.extract 3 64), .string (S.extract 0 63 ++ ⟨#[1]⟩), .string (zerN 64)] 9
  clear hB3
  obtain ⟨e1, g1, l1⟩ := hS.own
  go_wp2_with (first
    | (go_at_call 26; first
        | ((with_reducible refine (At.op1G (HE.out _) (ownA_good _ _ _) emp_good HG.out hS).mono ?_); rintro e w1 ⟨rfl, hS1⟩; replace hS := hS1; clear hS1; obtain ⟨e1, g1, l1⟩ := hS.own)
        | ((with_reducible refine (At.op1G (HF.out _) (ownA_good _ _ _) emp_good HG.out hS).mono ?_); rintro e w1 ⟨rfl, hS1⟩; replace hS := hS1; clear hS1; obtain ⟨e1, g1, l1⟩ := hS.own))
    | (go_at_call 28; first
        | ((with_reducible refine (HN.out _).mono ?_); rintro e w1 ⟨rfl, rfl⟩)
        | ((with_reducible refine (At.op1G (HH.out _) (ownA_good _ _ _) emp_good HG.out hS).mono ?_); rintro e w1 ⟨rfl, hS1⟩; replace hS := hS1; clear hS1; obtain ⟨e1, g1, l1⟩ := hS.own))
    | (go_at_call 24; (with_reducible refine (HQ.out _).mono ?_); rintro e w1 ⟨rfl, rfl⟩)
    | (go_at_call 20; (with_reducible refine (At.op1G ((HL.out _).g) (ownA_good _ _ _) emp_good HG.out hS).mono ?_); rintro e w1 ⟨rfl, hS1⟩; replace hS := hS1; clear hS1)
    | (go_at_call 16; (with_reducible refine (lnum _ _).mono ?_); rintro e w1 ⟨rfl, rfl⟩))
  go_ret
  exact ⟨rfl, hS.bel⟩
set_option maxRecDepth 100000 in
set_option maxHeartbeats 8000000 in
theorem sforms6 (S : ByteArray) (T : List ByteArray) (n x : Int) (m : Nat) (m1 : m ≤ 1023) (hm : bits .and .i64 x 1023 = (m : Int)) (hj : (IntKind.u64.wrap n).tmod 7 = 6) (h64 : S.size = 64) (hT : T.length = 1)
    (ha : ∀ p : Nat, DoesG Tryd.prog (bookA p 1 []) 24 #[.pointer (some ⟨p, 0, none⟩), .int .i64 1023] (.returned (.tuple #[.string S, .int .i64 0])) (bookA p 1 T))
    (hb : ∀ p : Nat, DoesG Tryd.prog (bookA p 1 T) 24 #[.pointer (some ⟨p, 0, none⟩), .int .i64 (1023 + (1 + (m : Int)))] (.returned (.tuple #[.string ⟨#[]⟩, .int .i64 1000])) (bookA p 1 T))
    (hc : ∀ p : Nat, DoesG Tryd.prog (bookA p 1 T) 24 #[.pointer (some ⟨p, 0, none⟩), .int .i64 (1 - (1 + (m : Int)))] (.returned (.tuple #[.string ⟨#[]⟩, .int .i64 1000])) (bookA p 1 T))
    (hd : ∀ p : Nat, DoesG Tryd.prog (bookA p 1 T) 24 #[.pointer (some ⟨p, 0, none⟩), .int .i64 1] (.returned (.tuple #[.string ⟨#[]⟩, .int .i64 1000])) (bookA p 1 T))
    (he : ∀ p : Nat, DoesG Tryd.prog (bookA p 1 T) 26 #[.pointer (some ⟨p, 0, none⟩), .string (zerN 64)] (.returned (.tuple #[.int .i64 0, .int .i64 1000])) (bookA p 1 T))
    (hf : ∀ p : Nat, DoesG Tryd.prog (bookA p 1 T) 26 #[.pointer (some ⟨p, 0, none⟩), .string S] (.returned (.tuple #[.int .i64 1023, .int .i64 0])) (bookA p 1 T))
    (hh : ∀ p : Nat, DoesG Tryd.prog (bookA p 1 T) 28 #[.pointer (some ⟨p, 0, none⟩), .string (zerN 64), .string S] (.returned (.tuple #[.int .i64 1023, .int .i64 0, .int .i64 0])) (bookA p 1 T))
    (w : World) (hg : Gd w) :
    Calls Tryd.prog 10 #[.int .i64 n, .int .i64 x] w fun e w' => e = .returned (.bool true) ∧ Below w.heap.size w w' := by
  have HA := Lib.hid ha
  have HB := Lib.hid hb
  have HC := Lib.hid hc
  have HD := Lib.hid hd
  have HE := Lib.hid he
  have HF := Lib.hid hf
  have HH := Lib.hid hh
  have HG := Lib.hid hg
  have HW := Lib.hid (awake10 w hg)
  have HL := Lib.hid (fun p => dlen p 1 T)
  rw [hT] at HL
  have HN := Lib.hid (fun w => dspick_nil S S w)
  have HQ := Lib.hid (fun w => dsput_nil 1 w)
  have h64i : (S.size : Int) = 64 := by omega
  clear ha hb hc hd he hf hh hg
  go_enter Tryd.func10, Tryd.ntmps10
  go_wp2_with (first
    | (go_at_call 23; (with_reducible refine (HW.out).mono ?_); rintro e w1 ⟨rfl, hb0⟩; have hS0 := At.none hb0; clear hb0)
    | (go_at_call 21; (with_reducible refine (bnew_ok 1 _ (by omega) (by omega)).mono ?_); rintro e w1 ⟨p, rfl, hb⟩; have hS := At.add emp_good hS0 hb; clear hb hS0)
    | (go_at_call 24; first
        | ((with_reducible refine (At.op0G (HA.out _) emp_good HG.out hS).mono ?_); rintro e w1 ⟨rfl, hS1⟩; replace hS := hS1; clear hS1)
        | ((with_reducible refine (At.op0G (HB.out _) emp_good HG.out hS).mono ?_); rintro e w1 ⟨rfl, hS1⟩; replace hS := hS1; clear hS1)
        | ((with_reducible refine (At.op0G (HC.out _) emp_good HG.out hS).mono ?_); rintro e w1 ⟨rfl, hS1⟩; replace hS := hS1; clear hS1)
        | ((with_reducible refine (At.op0G (HD.out _) emp_good HG.out hS).mono ?_); rintro e w1 ⟨rfl, hS1⟩; replace hS := hS1; clear hS1))
    | (go_at_call 16; (with_reducible refine (lnum _ _).mono ?_); rintro e w1 ⟨rfl, rfl⟩))
  refine region_held (S := fun _ => True) 20 [false, false, false, false, false, false, false, false, false, false, false, false, false, false, false, false, false, false, false, false] rfl rfl (by kernel_rfl) fun W hW => ?_
  have hBW : At w ((bookA p 1 T).star emp) W := by subst hW; exact hS.lay (good1 _ _ _) (bdrew _)
  clear hW hS
  refine held_take 0 sf0 (some 78) ?_ rfl rfl (by kernel_rfl) (by kernel_rfl) (by kernel_rfl) (fun _ _ _ h => h) (Or.inl ⟨by rfl, ?_⟩) trivial ?_
  rotate_left
  · intro w0 hy0; (go_simp <;> with_reducible rfl)
  simp only [Act.put, List.setIfInBounds_toArray, List.set_cons_zero, List.set_cons_succ]
  refine held_take 1 sf1 (some 79) ?_ rfl rfl (by kernel_rfl) (by kernel_rfl) (by kernel_rfl) (fun _ _ _ h => h) (Or.inl ⟨by rfl, ?_⟩) trivial ?_
  rotate_left
  · intro w0 hy0; (go_simp <;> with_reducible rfl)
  simp only [Act.put, List.setIfInBounds_toArray, List.set_cons_zero, List.set_cons_succ]
  refine held_take 2 sf2 (some 80) ?_ rfl rfl (by kernel_rfl) (by kernel_rfl) (by kernel_rfl) (fun _ _ _ h => h) (Or.inl ⟨by rfl, ?_⟩) trivial ?_
  rotate_left
  · intro w0 hy0; (go_simp <;> with_reducible rfl)
  simp only [Act.put, List.setIfInBounds_toArray, List.set_cons_zero, List.set_cons_succ]
  refine held_take 3 sf3 (some 81) ?_ rfl rfl (by kernel_rfl) (by kernel_rfl) (by kernel_rfl) (fun _ _ _ h => h) (Or.inl ⟨by rfl, ?_⟩) trivial ?_
  rotate_left
  · intro w0 hy0; (go_simp <;> with_reducible rfl)
  simp only [Act.put, List.setIfInBounds_toArray, List.set_cons_zero, List.set_cons_succ]
  refine held_take 4 sf4 (some 82) ?_ rfl rfl (by kernel_rfl) (by kernel_rfl) (by kernel_rfl) (fun _ _ _ h => h) (Or.inl ⟨by rfl, ?_⟩) trivial ?_
  rotate_left
  · intro w0 hy0; (go_simp <;> with_reducible rfl)
  simp only [Act.put, List.setIfInBounds_toArray, List.set_cons_zero, List.set_cons_succ]
  refine held_take 5 sf5 (some 83) ?_ rfl rfl (by kernel_rfl) (by kernel_rfl) (by kernel_rfl) (fun _ _ _ h => h) (Or.inl ⟨by rfl, ?_⟩) trivial ?_
  rotate_left
  · intro w0 hy0; (go_simp <;> with_reducible rfl)
  simp only [Act.put, List.setIfInBounds_toArray, List.set_cons_zero, List.set_cons_succ]
  refine held_take 6 sf6 (some 84) ?_ rfl rfl (by kernel_rfl) (by kernel_rfl) (by kernel_rfl) (fun _ _ _ h => h) (Or.inl ⟨by rfl, ?_⟩) trivial ?_
  rotate_left
  · intro w0 hy0; (go_simp <;> with_reducible rfl)
  simp only [Act.put, List.setIfInBounds_toArray, List.set_cons_zero, List.set_cons_succ]
  refine held_take 7 sf7 (some 85) ?_ rfl rfl (by kernel_rfl) (by kernel_rfl) (by kernel_rfl) (fun _ _ _ h => h) (Or.inl ⟨by rfl, ?_⟩) trivial ?_
  rotate_left
  · intro w0 hy0; (go_simp <;> with_reducible rfl)
  simp only [Act.put, List.setIfInBounds_toArray, List.set_cons_zero, List.set_cons_succ]
  refine held_take 8 sf8 (some 86) ?_ rfl rfl (by kernel_rfl) (by kernel_rfl) (by kernel_rfl) (fun _ _ _ h => h) (Or.inl ⟨by rfl, ?_⟩) trivial ?_
  rotate_left
  · intro w0 hy0; (go_simp <;> with_reducible rfl)
  simp only [Act.put, List.setIfInBounds_toArray, List.set_cons_zero, List.set_cons_succ]
  refine held_take 9 sf9 (some 87) ?_ rfl rfl (by kernel_rfl) (by kernel_rfl) (by kernel_rfl) (fun _ _ _ h => h) (Or.inl ⟨by rfl, ?_⟩) trivial ?_
  rotate_left
  · intro w0 hy0; (go_simp <;> with_reducible rfl)
  simp only [Act.put, List.setIfInBounds_toArray, List.set_cons_zero, List.set_cons_succ]
  refine held_take 10 sf10 (some 88) ?_ rfl rfl (by kernel_rfl) (by kernel_rfl) (by kernel_rfl) (fun _ _ _ h => h) (Or.inl ⟨by rfl, ?_⟩) trivial ?_
  rotate_left
  · intro w0 hy0; (go_simp <;> with_reducible rfl)
  simp only [Act.put, List.setIfInBounds_toArray, List.set_cons_zero, List.set_cons_succ]
  refine held_take 11 sf11 (some 89) ?_ rfl rfl (by kernel_rfl) (by kernel_rfl) (by kernel_rfl) (fun _ _ _ h => h) (Or.inl ⟨by rfl, ?_⟩) trivial ?_
  rotate_left
  · intro w0 hy0; (go_simp <;> with_reducible rfl)
  simp only [Act.put, List.setIfInBounds_toArray, List.set_cons_zero, List.set_cons_succ]
  refine held_take 12 sf12 (some 90) ?_ rfl rfl (by kernel_rfl) (by kernel_rfl) (by kernel_rfl) (fun _ _ _ h => h) (Or.inl ⟨by rfl, ?_⟩) trivial ?_
  rotate_left
  · intro w0 hy0; (go_simp <;> with_reducible rfl)
  simp only [Act.put, List.setIfInBounds_toArray, List.set_cons_zero, List.set_cons_succ]
  refine held_take 13 sf13 (some 91) ?_ rfl rfl (by kernel_rfl) (by kernel_rfl) (by kernel_rfl) (fun _ _ _ h => h) (Or.inl ⟨by rfl, ?_⟩) trivial ?_
  rotate_left
  · intro w0 hy0; (go_simp <;> with_reducible rfl)
  simp only [Act.put, List.setIfInBounds_toArray, List.set_cons_zero, List.set_cons_succ]
  refine held_take 14 sf14 (some 92) ?_ rfl rfl (by kernel_rfl) (by kernel_rfl) (by kernel_rfl) (fun _ _ _ h => h) (Or.inl ⟨by rfl, ?_⟩) trivial ?_
  rotate_left
  · intro w0 hy0; (go_simp <;> with_reducible rfl)
  simp only [Act.put, List.setIfInBounds_toArray, List.set_cons_zero, List.set_cons_succ]
  refine held_take 15 sf15 (some 93) ?_ rfl rfl (by kernel_rfl) (by kernel_rfl) (by kernel_rfl) (fun _ _ _ h => h) (Or.inl ⟨by rfl, ?_⟩) trivial ?_
  rotate_left
  · intro w0 hy0; (go_simp <;> with_reducible rfl)
  simp only [Act.put, List.setIfInBounds_toArray, List.set_cons_zero, List.set_cons_succ]
  refine held_one 16 sf16 (some 94) (.slice (some ⟨W.heap.size, 0, none⟩) 64 64) (W.alloc (zkObj 64)) (by kernel_rfl) rfl rfl (by rfl) (exec_make 45 (.const (.int .i64 64)) (.const (.int .i64 64)) rfl rfl rfl (zk_made 64 (by omega) W)) trivial ?_
  simp only [Act.put, List.setIfInBounds_toArray, List.set_cons_zero, List.set_cons_succ]
  refine held_one 17 sf17 (some 95) (.string (zerN 64)) (W.alloc (zkObj 64)) (by kernel_rfl) rfl rfl (by rfl) (exec_conv 45 9 (.tmp 94) rfl rfl (zk_conv 64 (by omega) W)) trivial ?_
  simp only [Act.put, List.setIfInBounds_toArray, List.set_cons_zero, List.set_cons_succ]
  have hB3 := hBW.lay (good1 _ _ _) (balloc W (zkObj 64))
  generalize hX : W.alloc (zkObj 64) = X at *
  clear hX hBW
  refine held_one 18 sf18 (some 96) (.slice (some ⟨X.heap.size, 0, none⟩) 7 7) (X.alloc (.cells #[.string (⟨#[]⟩), .string (S.extract 1 64), .string (S ++ ⟨#[0]⟩), .string (⟨#[1]⟩ ++ S.extract 1 64), .string (S.extract 0 2 ++ ⟨#[1]⟩ ++ S.extract 3 64), .string (S.extract 0 63 ++ ⟨#[1]⟩), .string (zerN 64)] 9)) (by kernel_rfl) rfl rfl (by rfl) (exec_b7 (t1 := S.extract 1 64) (t2 := S ++ ⟨#[0]⟩) (t3 := ⟨#[1]⟩ ++ S.extract 1 64) (t4 := S.extract 0 2 ++ ⟨#[1]⟩ ++ S.extract 3 64) (t5 := S.extract 0 63 ++ ⟨#[1]⟩) (t6 := zerN 64) (.tmp 79) (.tmp 81) (.tmp 84) (.tmp 90) (.tmp 93) (.tmp 95) rfl rfl rfl rfl rfl rfl rfl rfl) trivial ?_
  simp only [Act.put, List.setIfInBounds_toArray, List.set_cons_zero, List.set_cons_succ]
  refine held_take 19 sf19 (some 16) ?_ rfl rfl (by kernel_rfl) (by kernel_rfl) (by kernel_rfl) (fun _ _ _ h => h) (Or.inl ⟨by rfl, ?_⟩) trivial ?_
  rotate_left
  · intro w0 hy0; (go_simp <;> with_reducible rfl)
  simp only [Act.put, List.setIfInBounds_toArray, List.set_cons_zero, List.set_cons_succ]
  refine wpAnyH_done (by kernel_rfl) ?_ _
  have hS := hB3.hold (good1 _ _ _) #[.string (⟨#[]⟩), .string (S.extract 1 64), .string (S ++ ⟨#[0]⟩), .string (⟨#[1]⟩ ++ S.extract 1 64), .string (S.extract 0 2 ++ ⟨#[1]⟩ ++ S.extract 3 64), .string (S.extract 0 63 ++ ⟨#[1]⟩), .string (zerN 64)] 9
  clear hB3
  obtain ⟨e1, g1, l1⟩ := hS.own
  go_wp2_with (first
    | (go_at_call 26; first
        | ((with_reducible refine (At.op1G (HE.out _) (ownA_good _ _ _) emp_good HG.out hS).mono ?_); rintro e w1 ⟨rfl, hS1⟩; replace hS := hS1; clear hS1; obtain ⟨e1, g1, l1⟩ := hS.own)
        | ((with_reducible refine (At.op1G (HF.out _) (ownA_good _ _ _) emp_good HG.out hS).mono ?_); rintro e w1 ⟨rfl, hS1⟩; replace hS := hS1; clear hS1; obtain ⟨e1, g1, l1⟩ := hS.own))
    | (go_at_call 28; first
        | ((with_reducible refine (HN.out _).mono ?_); rintro e w1 ⟨rfl, rfl⟩)
        | ((with_reducible refine (At.op1G (HH.out _) (ownA_good _ _ _) emp_good HG.out hS).mono ?_); rintro e w1 ⟨rfl, hS1⟩; replace hS := hS1; clear hS1; obtain ⟨e1, g1, l1⟩ := hS.own))
    | (go_at_call 24; (with_reducible refine (HQ.out _).mono ?_); rintro e w1 ⟨rfl, rfl⟩)
    | (go_at_call 20; (with_reducible refine (At.op1G ((HL.out _).g) (ownA_good _ _ _) emp_good HG.out hS).mono ?_); rintro e w1 ⟨rfl, hS1⟩; replace hS := hS1; clear hS1)
    | (go_at_call 16; (with_reducible refine (lnum _ _).mono ?_); rintro e w1 ⟨rfl, rfl⟩))
  go_ret
  exact ⟨rfl, hS.bel⟩
end Go.Proofs.YtiebpjkppjollaaDoor
