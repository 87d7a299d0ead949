/- The reference's body: what it answers. Condition: the text's size. -/
import Derived.Test.YtcakipojmkehgaaDoorTkb
namespace Go.Proofs.YtcakipojmkehgaaDoor
open Go Go.RowKit

abbrev rby0 : Oper := { dst := some 24, op := Op.load 34 (Operand.tmp 5), type := 34, pos := "ref.go:114", after := #[], guard := none }
abbrev rby1 : Oper := { dst := some 25, op := Op.move (Operand.tmp 4), type := 92, pos := "ref.go:114", after := #[], guard := none }
abbrev rby2 : Oper := { dst := some 26, op := Op.nilCheck (Operand.tmp 25), type := 0, pos := "ref.go:114", after := #[{ on := 1, ground := Ground.data }], guard := none }
abbrev rby3 : Oper := { dst := some 27, op := Op.fieldAddr 94 (Operand.tmp 26) 2, type := 0, pos := "ref.go:114", after := #[{ on := 2, ground := Ground.data }], guard := none }
abbrev rby4 : Oper := { dst := some 28, op := Op.load 4 (Operand.tmp 27), type := 4, pos := "ref.go:114", after := #[{ on := 3, ground := Ground.data }], guard := none }
abbrev rby5 : Oper := { dst := some 29, op := Op.unOp UnOp.not 4 (Operand.tmp 28), type := 4, pos := "ref.go:114", after := #[{ on := 4, ground := Ground.data }], guard := none }
abbrev rby6 : Oper := { dst := some 30, op := Op.move (Operand.tmp 29), type := 4, pos := "ref.go:114", after := #[{ on := 5, ground := Ground.data }], guard := none }
abbrev rby7 : Oper := { dst := some 31, op := Op.move (Operand.tmp 4), type := 92, pos := "ref.go:114", after := #[{ on := 6, ground := Ground.guard }], guard := some (6, true) }
abbrev rby8 : Oper := { dst := some 32, op := Op.nilCheck (Operand.tmp 31), type := 0, pos := "ref.go:114", after := #[{ on := 7, ground := Ground.data }, { on := 6, ground := Ground.guard }], guard := some (6, true) }
abbrev rby9 : Oper := { dst := some 33, op := Op.fieldAddr 94 (Operand.tmp 32) 1, type := 0, pos := "ref.go:114", after := #[{ on := 8, ground := Ground.data }, { on := 6, ground := Ground.guard }], guard := some (6, true) }
abbrev rby10 : Oper := { dst := some 34, op := Op.load 3 (Operand.tmp 33), type := 3, pos := "ref.go:114", after := #[{ on := 9, ground := Ground.data }, { on := 6, ground := Ground.guard }], guard := some (6, true) }
abbrev rby11 : Oper := { dst := some 35, op := Op.move (Operand.tmp 0), type := 9, pos := "ref.go:114", after := #[{ on := 6, ground := Ground.guard }], guard := some (6, true) }
abbrev rby12 : Oper := { dst := some 36, op := Op.call { callee := Callee.builtin Builtin.len, args := #[Operand.tmp 35], argTypes := #[9] }, type := 3, pos := "ref.go:114", after := #[{ on := 11, ground := Ground.data }, { on := 6, ground := Ground.guard }], guard := some (6, true) }
abbrev rby13 : Oper := { dst := some 37, op := Op.binOp BinOp.eql 3 (Operand.tmp 34) (Operand.tmp 36) 3, type := 4, pos := "ref.go:114", after := #[{ on := 10, ground := Ground.data }, { on := 12, ground := Ground.data }, { on := 6, ground := Ground.guard }], guard := some (6, true) }
abbrev rby14 : Oper := { dst := some 38, op := Op.pick (Operand.tmp 30) (Operand.tmp 37) (Operand.const (Value.bool false)), type := 4, pos := "ref.go:114", after := #[{ on := 6, ground := Ground.data }, { on := 13, ground := Ground.data }], guard := none }
abbrev rby15 : Oper := { dst := some 39, op := Op.move (Operand.tmp 38), type := 4, pos := "ref.go:114", after := #[{ on := 14, ground := Ground.data }, { on := 6, ground := Ground.chain }], guard := none }
abbrev rby16 : Oper := { dst := some 40, op := Op.load 34 (Operand.tmp 5), type := 34, pos := "ref.go:114", after := #[{ on := 15, ground := Ground.guard }], guard := some (15, true) }
abbrev rby17 : Oper := { dst := some 41, op := Op.call { callee := Callee.value (Operand.func 25), args := #[Operand.tmp 40], argTypes := #[34] }, type := 4, pos := "ref.go:114", after := #[{ on := 16, ground := Ground.data }, { on := 15, ground := Ground.chain }, { on := 15, ground := Ground.guard }], guard := some (15, true) }
abbrev rby18 : Oper := { dst := some 42, op := Op.pick (Operand.tmp 39) (Operand.tmp 41) (Operand.const (Value.bool false)), type := 4, pos := "ref.go:114", after := #[{ on := 15, ground := Ground.data }, { on := 17, ground := Ground.data }, { on := 19, ground := Ground.gcOnly Departure.lateStores }], guard := none }
abbrev rby19 : Oper := { dst := none, op := Op.store 34 (Operand.tmp 2) (Operand.tmp 24), type := 0, pos := "ref.go:114", after := #[{ on := 0, ground := Ground.data }, { on := 17, ground := Ground.chain }, { on := 0, ground := Ground.phase }, { on := 1, ground := Ground.textOnly Departure.lateStores }, { on := 2, ground := Ground.textOnly Departure.lateStores }, { on := 3, ground := Ground.textOnly Departure.lateStores }, { on := 4, ground := Ground.textOnly Departure.lateStores }, { on := 5, ground := Ground.textOnly Departure.lateStores }, { on := 6, ground := Ground.textOnly Departure.lateStores }, { on := 7, ground := Ground.textOnly Departure.lateStores }, { on := 8, ground := Ground.textOnly Departure.lateStores }, { on := 9, ground := Ground.textOnly Departure.lateStores }, { on := 10, ground := Ground.textOnly Departure.lateStores }, { on := 11, ground := Ground.textOnly Departure.lateStores }, { on := 12, ground := Ground.textOnly Departure.lateStoresUnsure }, { on := 13, ground := Ground.textOnly Departure.lateStores }, { on := 14, ground := Ground.textOnly Departure.lateStores }, { on := 15, ground := Ground.textOnly Departure.lateStores }, { on := 16, ground := Ground.textOnly Departure.lateStores }, { on := 17, ground := Ground.textOnly Departure.lateStoresUnsure }, { on := 18, ground := Ground.textOnly Departure.lateStores }], guard := none }
abbrev rby20 : Oper := { dst := some 3, op := Op.assign (Operand.tmp 42), type := 4, pos := "ref.go:114", after := #[{ on := 18, ground := Ground.data }, { on := 19, ground := Ground.chain }, { on := 0, ground := Ground.phase }, { on := 1, ground := Ground.phase }, { on := 2, ground := Ground.phase }, { on := 3, ground := Ground.phase }, { on := 4, ground := Ground.phase }, { on := 5, ground := Ground.phase }, { on := 6, ground := Ground.phase }, { on := 7, ground := Ground.phase }, { on := 8, ground := Ground.phase }, { on := 9, ground := Ground.phase }, { on := 10, ground := Ground.phase }, { on := 11, ground := Ground.phase }, { on := 12, ground := Ground.phase }, { on := 13, ground := Ground.phase }, { on := 14, ground := Ground.phase }, { on := 15, ground := Ground.phase }, { on := 16, ground := Ground.phase }, { on := 17, ground := Ground.phase }, { on := 18, ground := Ground.phase }, { on := 19, ground := Ground.phase }], guard := none }
set_option maxRecDepth 100000 in
set_option maxHeartbeats 8000000 in
theorem rbody (s : ByteArray) (w : World) (hs : s.size ≤ 9223372036854770000) :
    Calls Tryd.prog 32 #[.string s] w fun e w' => ∃ T : Bd, e = .returned (.tuple #[T.val, .bool (tkG s).isSome]) ∧ ((tkG s).isSome = true → tkG s = some T) ∧ Below w.heap.size w w' := by
  have hy := @tkG_flag s _ _ _ _ _ _ _ rfl
  have h1 := fun X q => rdnum2 s 0 false 94 hs (by omega) (by omega) X q
  obtain ⟨x1, y1⟩ := rnA_bd (s := s) (a := 0) (b := false) (by omega) (by omega)
  generalize rnX s 0 false = v1 at *
  generalize rnA s 0 false = a1 at *
  generalize rnB s 0 false = b1 at *
  have h2 := fun X q P => rdnum3 s a1 b1 94 hs x1 y1 X q P
  obtain ⟨x2, y2⟩ := rnA_bd (s := s) (a := a1) (b := b1) x1 y1
  generalize rnX s a1 b1 = v2 at *
  generalize rnA s a1 b1 = a2 at *
  generalize rnB s a1 b1 = b2 at *
  have h3 := fun X q P => rdnum3 s a2 b2 94 hs x2 y2 X q P
  obtain ⟨x3, y3⟩ := rnA_bd (s := s) (a := a2) (b := b2) x2 y2
  generalize rnX s a2 b2 = v3 at *
  generalize rnA s a2 b2 = a3 at *
  generalize rnB s a2 b2 = b3 at *
  have h4 := fun X q P => rdnum3 s a3 b3 94 hs x3 y3 X q P
  obtain ⟨x4, y4⟩ := rnA_bd (s := s) (a := a3) (b := b3) x3 y3
  generalize rnX s a3 b3 = v4 at *
  generalize rnA s a3 b3 = a4 at *
  generalize rnB s a3 b3 = b4 at *
  have h5 := fun X q P => rdnum3 s a4 b4 94 hs x4 y4 X q P
  obtain ⟨x5, y5⟩ := rnA_bd (s := s) (a := a4) (b := b4) x4 y4
  generalize rnX s a4 b4 = v5 at *
  generalize rnA s a4 b4 = a5 at *
  generalize rnB s a4 b4 = b5 at *
  have HM := Lib.hid (rbmay ⟨v1, v2, v3, v4, v5⟩)
  have HY := Lib.hid hy
  have H1 := Lib.hid h1
  have H2 := Lib.hid h2
  have H3 := Lib.hid h3
  have H4 := Lib.hid h4
  have H5 := Lib.hid h5
  clear h1 h2 h3 h4 h5 hy
  have hdr : ∀ (w : World) n a v, (w.drewN n).setCell a v = (w.setCell a v).drewN n := fun _ _ _ _ => rfl
  go_enter Tryd.func32, Tryd.ntmps32
  go_wp2_with (first | (go_at_call 50; first | ((with_reducible refine (H1.out _ _ (by simp)).mono ?_); rintro e w1 ⟨rfl, m1, rfl⟩) | ((with_reducible refine (H2.out _ _ _ (by simp)).mono ?_); rintro e w1 ⟨rfl, m2, rfl⟩) | ((with_reducible refine (H3.out _ _ _ (by simp)).mono ?_); rintro e w1 ⟨rfl, m3, rfl⟩) | ((with_reducible refine (H4.out _ _ _ (by simp)).mono ?_); rintro e w1 ⟨rfl, m4, rfl⟩) | ((with_reducible refine (H5.out _ _ _ (by simp)).mono ?_); rintro e w1 ⟨rfl, m5, rfl⟩)))
  have hR := RB.start w s a5 b5 v1 v2 v3 v4 v5 (m1 + m2 + m3 + m4 + m5) 34 94
  generalize ((((w.alloc (.cells #[.int .i64 0, .int .i64 0, .int .i64 0, .int .i64 0, .int .i64 0] 34)).drewN (m1 + m2 + m3 + m4 + m5)).alloc (.cells #[.string s, .int .i64 a5, .bool b5] 94)).alloc (.cells #[.int .i64 v1, .int .i64 v2, .int .i64 v3, .int .i64 v4, .int .i64 v5] 34)) = W at *
  clear hdr H1 H2 H3 H4 H5
  have hR0 := hR.step (W' := W.drew) ⟨rfl, rfl, rfl, Nat.le_refl _, fun _ _ => rfl⟩
  clear hR
  cases b5 with
  | true =>
    have hG : tkG s = none := by rw [HY.out, if_neg (fun c => by cases c.1)]
    have HG := Lib.hid hG
    clear hG HY HM
    refine region_held (S := fun X => Blk X (w.heap.size + 1) #[.string s, .int .i64 a5, .bool true] ∧ Blk X (w.heap.size + 1 + 1) #[.int .i64 v1, .int .i64 v2, .int .i64 v3, .int .i64 v4, .int .i64 v5]) 21 [false, false, false, false, false, false, false, false, false, false, false, false, false, false, false, false, false, false, false, false, false] rfl rfl (by kernel_rfl) fun V0 hW => ?_
    rw [← hW] at hR0
    clear hW
    have hS := And.intro hR0.b1 hR0.b2
    refine held_take 0 rby0 (some 24) ?_ rfl rfl (by kernel_rfl) (by kernel_rfl) (by kernel_rfl) (fun _ _ _ h => h) (Or.inl ⟨by rfl, ?_⟩) hS ?_
    rotate_left
    · intro w0 hy0; have e1 := hy0.1.cell; have e2 := hy0.2.cell; clear hy0; (go_simp <;> with_reducible rfl)
    simp only [Act.put, List.setIfInBounds_toArray, List.set_cons_zero, List.set_cons_succ]
    refine held_take 1 rby1 (some 25) ?_ rfl rfl (by kernel_rfl) (by kernel_rfl) (by kernel_rfl) (fun _ _ _ h => h) (Or.inl ⟨by rfl, ?_⟩) hS ?_
    rotate_left
    · intro w0 hy0; have e1 := hy0.1.cell; have e2 := hy0.2.cell; clear hy0; (go_simp <;> with_reducible rfl)
    simp only [Act.put, List.setIfInBounds_toArray, List.set_cons_zero, List.set_cons_succ]
    refine held_take 2 rby2 (some 26) ?_ rfl rfl (by kernel_rfl) (by kernel_rfl) (by kernel_rfl) (fun _ _ _ h => h) (Or.inl ⟨by rfl, ?_⟩) hS ?_
    rotate_left
    · intro w0 hy0; have e1 := hy0.1.cell; have e2 := hy0.2.cell; clear hy0; (go_simp <;> with_reducible rfl)
    simp only [Act.put, List.setIfInBounds_toArray, List.set_cons_zero, List.set_cons_succ]
    refine held_take 3 rby3 (some 27) ?_ rfl rfl (by kernel_rfl) (by kernel_rfl) (by kernel_rfl) (fun _ _ _ h => h) (Or.inl ⟨by rfl, ?_⟩) hS ?_
    rotate_left
    · intro w0 hy0; have e1 := hy0.1.cell; have e2 := hy0.2.cell; clear hy0; (go_simp <;> with_reducible rfl)
    simp only [Act.put, List.setIfInBounds_toArray, List.set_cons_zero, List.set_cons_succ]
    refine held_take 4 rby4 (some 28) ?_ rfl rfl (by kernel_rfl) (by kernel_rfl) (by kernel_rfl) (fun _ _ _ h => h) (Or.inl ⟨by rfl, ?_⟩) hS ?_
    rotate_left
    · intro w0 hy0; have e1 := hy0.1.cell; have e2 := hy0.2.cell; clear hy0; (go_simp <;> with_reducible rfl)
    simp only [Act.put, List.setIfInBounds_toArray, List.set_cons_zero, List.set_cons_succ]
    refine held_take 5 rby5 (some 29) ?_ rfl rfl (by kernel_rfl) (by kernel_rfl) (by kernel_rfl) (fun _ _ _ h => h) (Or.inl ⟨by rfl, ?_⟩) hS ?_
    rotate_left
    · intro w0 hy0; have e1 := hy0.1.cell; have e2 := hy0.2.cell; clear hy0; (go_simp <;> with_reducible rfl)
    simp only [Act.put, List.setIfInBounds_toArray, List.set_cons_zero, List.set_cons_succ]
    refine held_take 6 rby6 (some 30) ?_ rfl rfl (by kernel_rfl) (by kernel_rfl) (by kernel_rfl) (fun _ _ _ h => h) (Or.inl ⟨by rfl, ?_⟩) hS ?_
    rotate_left
    · intro w0 hy0; have e1 := hy0.1.cell; have e2 := hy0.2.cell; clear hy0; (go_simp <;> with_reducible rfl)
    simp only [Act.put, List.setIfInBounds_toArray, List.set_cons_zero, List.set_cons_succ]
    refine held_skip 7 rby7 (some 31) rfl rfl (by kernel_rfl) (by kernel_rfl) (by kernel_rfl) (fun _ _ _ h => h) (by rfl) hS ?_
    simp only [Act.put, List.setIfInBounds_toArray, List.set_cons_zero, List.set_cons_succ]
    refine held_skip 8 rby8 (some 32) rfl rfl (by kernel_rfl) (by kernel_rfl) (by kernel_rfl) (fun _ _ _ h => h) (by rfl) hS ?_
    simp only [Act.put, List.setIfInBounds_toArray, List.set_cons_zero, List.set_cons_succ]
    refine held_skip 9 rby9 (some 33) rfl rfl (by kernel_rfl) (by kernel_rfl) (by kernel_rfl) (fun _ _ _ h => h) (by rfl) hS ?_
    simp only [Act.put, List.setIfInBounds_toArray, List.set_cons_zero, List.set_cons_succ]
    refine held_skip 10 rby10 (some 34) rfl rfl (by kernel_rfl) (by kernel_rfl) (by kernel_rfl) (fun _ _ _ h => h) (by rfl) hS ?_
    simp only [Act.put, List.setIfInBounds_toArray, List.set_cons_zero, List.set_cons_succ]
    refine held_skip 11 rby11 (some 35) rfl rfl (by kernel_rfl) (by kernel_rfl) (by kernel_rfl) (fun _ _ _ h => h) (by rfl) hS ?_
    simp only [Act.put, List.setIfInBounds_toArray, List.set_cons_zero, List.set_cons_succ]
    refine held_skip 12 rby12 (some 36) rfl rfl (by kernel_rfl) (by kernel_rfl) (by kernel_rfl) (fun _ _ _ h => h) (by rfl) hS ?_
    simp only [Act.put, List.setIfInBounds_toArray, List.set_cons_zero, List.set_cons_succ]
    refine held_skip 13 rby13 (some 37) rfl rfl (by kernel_rfl) (by kernel_rfl) (by kernel_rfl) (fun _ _ _ h => h) (by rfl) hS ?_
    simp only [Act.put, List.setIfInBounds_toArray, List.set_cons_zero, List.set_cons_succ]
    refine held_take 14 rby14 (some 38) ?_ rfl rfl (by kernel_rfl) (by kernel_rfl) (by kernel_rfl) (fun _ _ _ h => h) (Or.inl ⟨by rfl, ?_⟩) hS ?_
    rotate_left
    · intro w0 hy0; have e1 := hy0.1.cell; have e2 := hy0.2.cell; clear hy0; (go_simp <;> with_reducible rfl)
    simp only [Act.put, List.setIfInBounds_toArray, List.set_cons_zero, List.set_cons_succ]
    refine held_take 15 rby15 (some 39) ?_ rfl rfl (by kernel_rfl) (by kernel_rfl) (by kernel_rfl) (fun _ _ _ h => h) (Or.inl ⟨by rfl, ?_⟩) hS ?_
    rotate_left
    · intro w0 hy0; have e1 := hy0.1.cell; have e2 := hy0.2.cell; clear hy0; (go_simp <;> with_reducible rfl)
    simp only [Act.put, List.setIfInBounds_toArray, List.set_cons_zero, List.set_cons_succ]
    refine held_skip 16 rby16 (some 40) rfl rfl (by kernel_rfl) (by kernel_rfl) (by kernel_rfl) (fun _ _ _ h => h) (by rfl) hS ?_
    simp only [Act.put, List.setIfInBounds_toArray, List.set_cons_zero, List.set_cons_succ]
    refine held_skip 17 rby17 (some 41) rfl rfl (by kernel_rfl) (by kernel_rfl) (by kernel_rfl) (fun _ _ _ h => h) (by rfl) hS ?_
    simp only [Act.put, List.setIfInBounds_toArray, List.set_cons_zero, List.set_cons_succ]
    refine held_take 18 rby18 (some 42) ?_ rfl rfl (by kernel_rfl) (by kernel_rfl) (by kernel_rfl) (fun _ _ _ h => h) (Or.inl ⟨by rfl, ?_⟩) hS ?_
    rotate_left
    · intro w0 hy0; have e1 := hy0.1.cell; have e2 := hy0.2.cell; clear hy0; (go_simp <;> with_reducible rfl)
    simp only [Act.put, List.setIfInBounds_toArray, List.set_cons_zero, List.set_cons_succ]
    refine held_void 19 rby19 _ (by kernel_rfl) rfl (by rfl) (exec_store5 (.tmp 2) (.tmp 24) rfl w.heap.size hR0.b0.cell hR0.b0.froz v1 v2 v3 v4 v5 rfl rfl) (hR0.poke _ _ _ _ _) ?_
    simp only [Act.put, List.setIfInBounds_toArray, List.set_cons_zero, List.set_cons_succ]
    refine held_take 20 rby20 (some 3) ?_ rfl rfl (by kernel_rfl) (by kernel_rfl) (by kernel_rfl) (fun _ _ _ h => h) (Or.inl ⟨by rfl, ?_⟩) (hR0.poke _ _ _ _ _) ?_
    rotate_left
    · intro w0 hy0; have e1 := hy0.1.cell; have e2 := hy0.2.cell; clear hy0; (go_simp <;> with_reducible rfl)
    simp only [Act.put, List.setIfInBounds_toArray, List.set_cons_zero, List.set_cons_succ]
    refine wpAnyH_done (by kernel_rfl) ?_ _
    have e0 := hR0.b0.cell
    go_wp2
    refine bodyPost_ret (v := .tuple #[.agg #[.int .i64 v1, .int .i64 v2, .int .i64 v3, .int .i64 v4, .int .i64 v5], .bool false]) (by simp [results, Tryd.results32, go_sem, e0]) rfl ⟨⟨v1, v2, v3, v4, v5⟩, by rw [HG.out]; rfl, (by rw [HG.out]; intro c; cases c), hR0.end _ _ _ _ _⟩
  | false =>
    by_cases hz : a5 = s.size
    · subst hz
      cases hm : (Bd.mk v1 v2 v3 v4 v5).may with
      | true =>
        have hG : tkG s = some ⟨v1, v2, v3, v4, v5⟩ := by rw [HY.out, if_pos ⟨rfl, rfl, hm⟩]
        rw [hm] at HM
        simp only [Bd.val] at HM
        have HG := Lib.hid hG
        clear hG HY hm
        refine region_held (S := fun X => Blk X (w.heap.size + 1) #[.string s, .int .i64 s.size, .bool false] ∧ Blk X (w.heap.size + 1 + 1) #[.int .i64 v1, .int .i64 v2, .int .i64 v3, .int .i64 v4, .int .i64 v5]) 21 [false, false, false, false, false, false, false, false, false, false, false, false, false, false, false, false, false, false, false, false, false] rfl rfl (by kernel_rfl) fun V0 hW => ?_
        rw [← hW] at hR0
        clear hW
        have hS := And.intro hR0.b1 hR0.b2
        refine held_take 0 rby0 (some 24) ?_ rfl rfl (by kernel_rfl) (by kernel_rfl) (by kernel_rfl) (fun _ _ _ h => h) (Or.inl ⟨by rfl, ?_⟩) hS ?_
        rotate_left
        · intro w0 hy0; have e1 := hy0.1.cell; have e2 := hy0.2.cell; clear hy0; (go_simp <;> with_reducible rfl)
        simp only [Act.put, List.setIfInBounds_toArray, List.set_cons_zero, List.set_cons_succ]
        refine held_take 1 rby1 (some 25) ?_ rfl rfl (by kernel_rfl) (by kernel_rfl) (by kernel_rfl) (fun _ _ _ h => h) (Or.inl ⟨by rfl, ?_⟩) hS ?_
        rotate_left
        · intro w0 hy0; have e1 := hy0.1.cell; have e2 := hy0.2.cell; clear hy0; (go_simp <;> with_reducible rfl)
        simp only [Act.put, List.setIfInBounds_toArray, List.set_cons_zero, List.set_cons_succ]
        refine held_take 2 rby2 (some 26) ?_ rfl rfl (by kernel_rfl) (by kernel_rfl) (by kernel_rfl) (fun _ _ _ h => h) (Or.inl ⟨by rfl, ?_⟩) hS ?_
        rotate_left
        · intro w0 hy0; have e1 := hy0.1.cell; have e2 := hy0.2.cell; clear hy0; (go_simp <;> with_reducible rfl)
        simp only [Act.put, List.setIfInBounds_toArray, List.set_cons_zero, List.set_cons_succ]
        refine held_take 3 rby3 (some 27) ?_ rfl rfl (by kernel_rfl) (by kernel_rfl) (by kernel_rfl) (fun _ _ _ h => h) (Or.inl ⟨by rfl, ?_⟩) hS ?_
        rotate_left
        · intro w0 hy0; have e1 := hy0.1.cell; have e2 := hy0.2.cell; clear hy0; (go_simp <;> with_reducible rfl)
        simp only [Act.put, List.setIfInBounds_toArray, List.set_cons_zero, List.set_cons_succ]
        refine held_take 4 rby4 (some 28) ?_ rfl rfl (by kernel_rfl) (by kernel_rfl) (by kernel_rfl) (fun _ _ _ h => h) (Or.inl ⟨by rfl, ?_⟩) hS ?_
        rotate_left
        · intro w0 hy0; have e1 := hy0.1.cell; have e2 := hy0.2.cell; clear hy0; (go_simp <;> with_reducible rfl)
        simp only [Act.put, List.setIfInBounds_toArray, List.set_cons_zero, List.set_cons_succ]
        refine held_take 5 rby5 (some 29) ?_ rfl rfl (by kernel_rfl) (by kernel_rfl) (by kernel_rfl) (fun _ _ _ h => h) (Or.inl ⟨by rfl, ?_⟩) hS ?_
        rotate_left
        · intro w0 hy0; have e1 := hy0.1.cell; have e2 := hy0.2.cell; clear hy0; (go_simp <;> with_reducible rfl)
        simp only [Act.put, List.setIfInBounds_toArray, List.set_cons_zero, List.set_cons_succ]
        refine held_take 6 rby6 (some 30) ?_ rfl rfl (by kernel_rfl) (by kernel_rfl) (by kernel_rfl) (fun _ _ _ h => h) (Or.inl ⟨by rfl, ?_⟩) hS ?_
        rotate_left
        · intro w0 hy0; have e1 := hy0.1.cell; have e2 := hy0.2.cell; clear hy0; (go_simp <;> with_reducible rfl)
        simp only [Act.put, List.setIfInBounds_toArray, List.set_cons_zero, List.set_cons_succ]
        refine held_take 7 rby7 (some 31) ?_ rfl rfl (by kernel_rfl) (by kernel_rfl) (by kernel_rfl) (fun _ _ _ h => h) (Or.inl ⟨by rfl, ?_⟩) hS ?_
        rotate_left
        · intro w0 hy0; have e1 := hy0.1.cell; have e2 := hy0.2.cell; clear hy0; (go_simp <;> with_reducible rfl)
        simp only [Act.put, List.setIfInBounds_toArray, List.set_cons_zero, List.set_cons_succ]
        refine held_take 8 rby8 (some 32) ?_ rfl rfl (by kernel_rfl) (by kernel_rfl) (by kernel_rfl) (fun _ _ _ h => h) (Or.inl ⟨by rfl, ?_⟩) hS ?_
        rotate_left
        · intro w0 hy0; have e1 := hy0.1.cell; have e2 := hy0.2.cell; clear hy0; (go_simp <;> with_reducible rfl)
        simp only [Act.put, List.setIfInBounds_toArray, List.set_cons_zero, List.set_cons_succ]
        refine held_take 9 rby9 (some 33) ?_ rfl rfl (by kernel_rfl) (by kernel_rfl) (by kernel_rfl) (fun _ _ _ h => h) (Or.inl ⟨by rfl, ?_⟩) hS ?_
        rotate_left
        · intro w0 hy0; have e1 := hy0.1.cell; have e2 := hy0.2.cell; clear hy0; (go_simp <;> with_reducible rfl)
        simp only [Act.put, List.setIfInBounds_toArray, List.set_cons_zero, List.set_cons_succ]
        refine held_take 10 rby10 (some 34) ?_ rfl rfl (by kernel_rfl) (by kernel_rfl) (by kernel_rfl) (fun _ _ _ h => h) (Or.inl ⟨by rfl, ?_⟩) hS ?_
        rotate_left
        · intro w0 hy0; have e1 := hy0.1.cell; have e2 := hy0.2.cell; clear hy0; (go_simp <;> with_reducible rfl)
        simp only [Act.put, List.setIfInBounds_toArray, List.set_cons_zero, List.set_cons_succ]
        refine held_take 11 rby11 (some 35) ?_ rfl rfl (by kernel_rfl) (by kernel_rfl) (by kernel_rfl) (fun _ _ _ h => h) (Or.inl ⟨by rfl, ?_⟩) hS ?_
        rotate_left
        · intro w0 hy0; have e1 := hy0.1.cell; have e2 := hy0.2.cell; clear hy0; (go_simp <;> with_reducible rfl)
        simp only [Act.put, List.setIfInBounds_toArray, List.set_cons_zero, List.set_cons_succ]
        refine held_take 12 rby12 (some 36) ?_ rfl rfl (by kernel_rfl) (by kernel_rfl) (by kernel_rfl) (fun _ _ _ h => h) (Or.inl ⟨by rfl, ?_⟩) hS ?_
        rotate_left
        · intro w0 hy0; have e1 := hy0.1.cell; have e2 := hy0.2.cell; clear hy0; (go_simp <;> with_reducible rfl)
        simp only [Act.put, List.setIfInBounds_toArray, List.set_cons_zero, List.set_cons_succ]
        refine held_take 13 rby13 (some 37) ?_ rfl rfl (by kernel_rfl) (by kernel_rfl) (by kernel_rfl) (fun _ _ _ h => h) (Or.inl ⟨by rfl, ?_⟩) hS ?_
        rotate_left
        · intro w0 hy0; have e1 := hy0.1.cell; have e2 := hy0.2.cell; clear hy0; (go_simp <;> with_reducible rfl)
        simp only [Act.put, List.setIfInBounds_toArray, List.set_cons_zero, List.set_cons_succ]
        refine held_take 14 rby14 (some 38) ?_ rfl rfl (by kernel_rfl) (by kernel_rfl) (by kernel_rfl) (fun _ _ _ h => h) (Or.inl ⟨by rfl, ?_⟩) hS ?_
        rotate_left
        · intro w0 hy0; have e1 := hy0.1.cell; have e2 := hy0.2.cell; clear hy0; (go_simp <;> with_reducible rfl)
        simp only [Act.put, List.setIfInBounds_toArray, List.set_cons_zero, List.set_cons_succ]
        refine held_take 15 rby15 (some 39) ?_ rfl rfl (by kernel_rfl) (by kernel_rfl) (by kernel_rfl) (fun _ _ _ h => h) (Or.inl ⟨by rfl, ?_⟩) hS ?_
        rotate_left
        · intro w0 hy0; have e1 := hy0.1.cell; have e2 := hy0.2.cell; clear hy0; (go_simp <;> with_reducible rfl)
        simp only [Act.put, List.setIfInBounds_toArray, List.set_cons_zero, List.set_cons_succ]
        refine held_take 16 rby16 (some 40) ?_ rfl rfl (by kernel_rfl) (by kernel_rfl) (by kernel_rfl) (fun _ _ _ h => h) (Or.inl ⟨by rfl, ?_⟩) hS ?_
        rotate_left
        · intro w0 hy0; have e1 := hy0.1.cell; have e2 := hy0.2.cell; clear hy0; (go_simp <;> with_reducible rfl)
        simp only [Act.put, List.setIfInBounds_toArray, List.set_cons_zero, List.set_cons_succ]
        refine held_call 17 rby17 (some 41) (.bool true) (fun Z9 => Below V0.heap.size V0 Z9) 25 #[.agg #[.int .i64 v1, .int .i64 v2, .int .i64 v3, .int .i64 v4, .int .i64 v5]] (by kernel_rfl) rfl rfl (by rfl) (exec_bodymay (.tmp 40) rfl rfl) (HM.out V0) (fun Z9 hb => ⟨hR0.b1.step hb, hR0.b2.step hb⟩) ?_
        intro V1 hb1
        have hR1 := hR0.step hb1
        have hS1 := And.intro hR1.b1 hR1.b2
        simp only [Act.put, List.setIfInBounds_toArray, List.set_cons_zero, List.set_cons_succ]
        refine held_take 18 rby18 (some 42) ?_ rfl rfl (by kernel_rfl) (by kernel_rfl) (by kernel_rfl) (fun _ _ _ h => h) (Or.inl ⟨by rfl, ?_⟩) hS1 ?_
        rotate_left
        · intro w0 hy0; have e1 := hy0.1.cell; have e2 := hy0.2.cell; clear hy0; (go_simp <;> with_reducible rfl)
        simp only [Act.put, List.setIfInBounds_toArray, List.set_cons_zero, List.set_cons_succ]
        refine held_void 19 rby19 _ (by kernel_rfl) rfl (by rfl) (exec_store5 (.tmp 2) (.tmp 24) rfl w.heap.size hR1.b0.cell hR1.b0.froz v1 v2 v3 v4 v5 rfl rfl) (hR1.poke _ _ _ _ _) ?_
        simp only [Act.put, List.setIfInBounds_toArray, List.set_cons_zero, List.set_cons_succ]
        refine held_take 20 rby20 (some 3) ?_ rfl rfl (by kernel_rfl) (by kernel_rfl) (by kernel_rfl) (fun _ _ _ h => h) (Or.inl ⟨by rfl, ?_⟩) (hR1.poke _ _ _ _ _) ?_
        rotate_left
        · intro w0 hy0; have e1 := hy0.1.cell; have e2 := hy0.2.cell; clear hy0; (go_simp <;> with_reducible rfl)
        simp only [Act.put, List.setIfInBounds_toArray, List.set_cons_zero, List.set_cons_succ]
        refine wpAnyH_done (by kernel_rfl) ?_ _
        have e0 := hR1.b0.cell
        go_wp2
        refine bodyPost_ret (v := .tuple #[.agg #[.int .i64 v1, .int .i64 v2, .int .i64 v3, .int .i64 v4, .int .i64 v5], .bool true]) (by simp [results, Tryd.results32, go_sem, e0]) rfl ⟨⟨v1, v2, v3, v4, v5⟩, by rw [HG.out]; rfl, fun _ => HG.out, hR1.end _ _ _ _ _⟩
      | false =>
        have hG : tkG s = none := by rw [HY.out, if_neg (fun c => by rw [hm] at c; cases c.2.2)]
        rw [hm] at HM
        simp only [Bd.val] at HM
        have HG := Lib.hid hG
        clear hG HY hm
        refine region_held (S := fun X => Blk X (w.heap.size + 1) #[.string s, .int .i64 s.size, .bool false] ∧ Blk X (w.heap.size + 1 + 1) #[.int .i64 v1, .int .i64 v2, .int .i64 v3, .int .i64 v4, .int .i64 v5]) 21 [false, false, false, false, false, false, false, false, false, false, false, false, false, false, false, false, false, false, false, false, false] rfl rfl (by kernel_rfl) fun V0 hW => ?_
        rw [← hW] at hR0
        clear hW
        have hS := And.intro hR0.b1 hR0.b2
        refine held_take 0 rby0 (some 24) ?_ rfl rfl (by kernel_rfl) (by kernel_rfl) (by kernel_rfl) (fun _ _ _ h => h) (Or.inl ⟨by rfl, ?_⟩) hS ?_
        rotate_left
        · intro w0 hy0; have e1 := hy0.1.cell; have e2 := hy0.2.cell; clear hy0; (go_simp <;> with_reducible rfl)
        simp only [Act.put, List.setIfInBounds_toArray, List.set_cons_zero, List.set_cons_succ]
        refine held_take 1 rby1 (some 25) ?_ rfl rfl (by kernel_rfl) (by kernel_rfl) (by kernel_rfl) (fun _ _ _ h => h) (Or.inl ⟨by rfl, ?_⟩) hS ?_
        rotate_left
        · intro w0 hy0; have e1 := hy0.1.cell; have e2 := hy0.2.cell; clear hy0; (go_simp <;> with_reducible rfl)
        simp only [Act.put, List.setIfInBounds_toArray, List.set_cons_zero, List.set_cons_succ]
        refine held_take 2 rby2 (some 26) ?_ rfl rfl (by kernel_rfl) (by kernel_rfl) (by kernel_rfl) (fun _ _ _ h => h) (Or.inl ⟨by rfl, ?_⟩) hS ?_
        rotate_left
        · intro w0 hy0; have e1 := hy0.1.cell; have e2 := hy0.2.cell; clear hy0; (go_simp <;> with_reducible rfl)
        simp only [Act.put, List.setIfInBounds_toArray, List.set_cons_zero, List.set_cons_succ]
        refine held_take 3 rby3 (some 27) ?_ rfl rfl (by kernel_rfl) (by kernel_rfl) (by kernel_rfl) (fun _ _ _ h => h) (Or.inl ⟨by rfl, ?_⟩) hS ?_
        rotate_left
        · intro w0 hy0; have e1 := hy0.1.cell; have e2 := hy0.2.cell; clear hy0; (go_simp <;> with_reducible rfl)
        simp only [Act.put, List.setIfInBounds_toArray, List.set_cons_zero, List.set_cons_succ]
        refine held_take 4 rby4 (some 28) ?_ rfl rfl (by kernel_rfl) (by kernel_rfl) (by kernel_rfl) (fun _ _ _ h => h) (Or.inl ⟨by rfl, ?_⟩) hS ?_
        rotate_left
        · intro w0 hy0; have e1 := hy0.1.cell; have e2 := hy0.2.cell; clear hy0; (go_simp <;> with_reducible rfl)
        simp only [Act.put, List.setIfInBounds_toArray, List.set_cons_zero, List.set_cons_succ]
        refine held_take 5 rby5 (some 29) ?_ rfl rfl (by kernel_rfl) (by kernel_rfl) (by kernel_rfl) (fun _ _ _ h => h) (Or.inl ⟨by rfl, ?_⟩) hS ?_
        rotate_left
        · intro w0 hy0; have e1 := hy0.1.cell; have e2 := hy0.2.cell; clear hy0; (go_simp <;> with_reducible rfl)
        simp only [Act.put, List.setIfInBounds_toArray, List.set_cons_zero, List.set_cons_succ]
        refine held_take 6 rby6 (some 30) ?_ rfl rfl (by kernel_rfl) (by kernel_rfl) (by kernel_rfl) (fun _ _ _ h => h) (Or.inl ⟨by rfl, ?_⟩) hS ?_
        rotate_left
        · intro w0 hy0; have e1 := hy0.1.cell; have e2 := hy0.2.cell; clear hy0; (go_simp <;> with_reducible rfl)
        simp only [Act.put, List.setIfInBounds_toArray, List.set_cons_zero, List.set_cons_succ]
        refine held_take 7 rby7 (some 31) ?_ rfl rfl (by kernel_rfl) (by kernel_rfl) (by kernel_rfl) (fun _ _ _ h => h) (Or.inl ⟨by rfl, ?_⟩) hS ?_
        rotate_left
        · intro w0 hy0; have e1 := hy0.1.cell; have e2 := hy0.2.cell; clear hy0; (go_simp <;> with_reducible rfl)
        simp only [Act.put, List.setIfInBounds_toArray, List.set_cons_zero, List.set_cons_succ]
        refine held_take 8 rby8 (some 32) ?_ rfl rfl (by kernel_rfl) (by kernel_rfl) (by kernel_rfl) (fun _ _ _ h => h) (Or.inl ⟨by rfl, ?_⟩) hS ?_
        rotate_left
        · intro w0 hy0; have e1 := hy0.1.cell; have e2 := hy0.2.cell; clear hy0; (go_simp <;> with_reducible rfl)
        simp only [Act.put, List.setIfInBounds_toArray, List.set_cons_zero, List.set_cons_succ]
        refine held_take 9 rby9 (some 33) ?_ rfl rfl (by kernel_rfl) (by kernel_rfl) (by kernel_rfl) (fun _ _ _ h => h) (Or.inl ⟨by rfl, ?_⟩) hS ?_
        rotate_left
        · intro w0 hy0; have e1 := hy0.1.cell; have e2 := hy0.2.cell; clear hy0; (go_simp <;> with_reducible rfl)
        simp only [Act.put, List.setIfInBounds_toArray, List.set_cons_zero, List.set_cons_succ]
        refine held_take 10 rby10 (some 34) ?_ rfl rfl (by kernel_rfl) (by kernel_rfl) (by kernel_rfl) (fun _ _ _ h => h) (Or.inl ⟨by rfl, ?_⟩) hS ?_
        rotate_left
        · intro w0 hy0; have e1 := hy0.1.cell; have e2 := hy0.2.cell; clear hy0; (go_simp <;> with_reducible rfl)
        simp only [Act.put, List.setIfInBounds_toArray, List.set_cons_zero, List.set_cons_succ]
        refine held_take 11 rby11 (some 35) ?_ rfl rfl (by kernel_rfl) (by kernel_rfl) (by kernel_rfl) (fun _ _ _ h => h) (Or.inl ⟨by rfl, ?_⟩) hS ?_
        rotate_left
        · intro w0 hy0; have e1 := hy0.1.cell; have e2 := hy0.2.cell; clear hy0; (go_simp <;> with_reducible rfl)
        simp only [Act.put, List.setIfInBounds_toArray, List.set_cons_zero, List.set_cons_succ]
        refine held_take 12 rby12 (some 36) ?_ rfl rfl (by kernel_rfl) (by kernel_rfl) (by kernel_rfl) (fun _ _ _ h => h) (Or.inl ⟨by rfl, ?_⟩) hS ?_
        rotate_left
        · intro w0 hy0; have e1 := hy0.1.cell; have e2 := hy0.2.cell; clear hy0; (go_simp <;> with_reducible rfl)
        simp only [Act.put, List.setIfInBounds_toArray, List.set_cons_zero, List.set_cons_succ]
        refine held_take 13 rby13 (some 37) ?_ rfl rfl (by kernel_rfl) (by kernel_rfl) (by kernel_rfl) (fun _ _ _ h => h) (Or.inl ⟨by rfl, ?_⟩) hS ?_
        rotate_left
        · intro w0 hy0; have e1 := hy0.1.cell; have e2 := hy0.2.cell; clear hy0; (go_simp <;> with_reducible rfl)
        simp only [Act.put, List.setIfInBounds_toArray, List.set_cons_zero, List.set_cons_succ]
        refine held_take 14 rby14 (some 38) ?_ rfl rfl (by kernel_rfl) (by kernel_rfl) (by kernel_rfl) (fun _ _ _ h => h) (Or.inl ⟨by rfl, ?_⟩) hS ?_
        rotate_left
        · intro w0 hy0; have e1 := hy0.1.cell; have e2 := hy0.2.cell; clear hy0; (go_simp <;> with_reducible rfl)
        simp only [Act.put, List.setIfInBounds_toArray, List.set_cons_zero, List.set_cons_succ]
        refine held_take 15 rby15 (some 39) ?_ rfl rfl (by kernel_rfl) (by kernel_rfl) (by kernel_rfl) (fun _ _ _ h => h) (Or.inl ⟨by rfl, ?_⟩) hS ?_
        rotate_left
        · intro w0 hy0; have e1 := hy0.1.cell; have e2 := hy0.2.cell; clear hy0; (go_simp <;> with_reducible rfl)
        simp only [Act.put, List.setIfInBounds_toArray, List.set_cons_zero, List.set_cons_succ]
        refine held_take 16 rby16 (some 40) ?_ rfl rfl (by kernel_rfl) (by kernel_rfl) (by kernel_rfl) (fun _ _ _ h => h) (Or.inl ⟨by rfl, ?_⟩) hS ?_
        rotate_left
        · intro w0 hy0; have e1 := hy0.1.cell; have e2 := hy0.2.cell; clear hy0; (go_simp <;> with_reducible rfl)
        simp only [Act.put, List.setIfInBounds_toArray, List.set_cons_zero, List.set_cons_succ]
        refine held_call 17 rby17 (some 41) (.bool false) (fun Z9 => Below V0.heap.size V0 Z9) 25 #[.agg #[.int .i64 v1, .int .i64 v2, .int .i64 v3, .int .i64 v4, .int .i64 v5]] (by kernel_rfl) rfl rfl (by rfl) (exec_bodymay (.tmp 40) rfl rfl) (HM.out V0) (fun Z9 hb => ⟨hR0.b1.step hb, hR0.b2.step hb⟩) ?_
        intro V1 hb1
        have hR1 := hR0.step hb1
        have hS1 := And.intro hR1.b1 hR1.b2
        simp only [Act.put, List.setIfInBounds_toArray, List.set_cons_zero, List.set_cons_succ]
        refine held_take 18 rby18 (some 42) ?_ rfl rfl (by kernel_rfl) (by kernel_rfl) (by kernel_rfl) (fun _ _ _ h => h) (Or.inl ⟨by rfl, ?_⟩) hS1 ?_
        rotate_left
        · intro w0 hy0; have e1 := hy0.1.cell; have e2 := hy0.2.cell; clear hy0; (go_simp <;> with_reducible rfl)
        simp only [Act.put, List.setIfInBounds_toArray, List.set_cons_zero, List.set_cons_succ]
        refine held_void 19 rby19 _ (by kernel_rfl) rfl (by rfl) (exec_store5 (.tmp 2) (.tmp 24) rfl w.heap.size hR1.b0.cell hR1.b0.froz v1 v2 v3 v4 v5 rfl rfl) (hR1.poke _ _ _ _ _) ?_
        simp only [Act.put, List.setIfInBounds_toArray, List.set_cons_zero, List.set_cons_succ]
        refine held_take 20 rby20 (some 3) ?_ rfl rfl (by kernel_rfl) (by kernel_rfl) (by kernel_rfl) (fun _ _ _ h => h) (Or.inl ⟨by rfl, ?_⟩) (hR1.poke _ _ _ _ _) ?_
        rotate_left
        · intro w0 hy0; have e1 := hy0.1.cell; have e2 := hy0.2.cell; clear hy0; (go_simp <;> with_reducible rfl)
        simp only [Act.put, List.setIfInBounds_toArray, List.set_cons_zero, List.set_cons_succ]
        refine wpAnyH_done (by kernel_rfl) ?_ _
        have e0 := hR1.b0.cell
        go_wp2
        refine bodyPost_ret (v := .tuple #[.agg #[.int .i64 v1, .int .i64 v2, .int .i64 v3, .int .i64 v4, .int .i64 v5], .bool false]) (by simp [results, Tryd.results32, go_sem, e0]) rfl ⟨⟨v1, v2, v3, v4, v5⟩, by rw [HG.out]; rfl, (by rw [HG.out]; intro c; cases c), hR1.end _ _ _ _ _⟩
    · have hz1 : (a5 == (s.size : Int)) = false := by simpa using hz
      have hG : tkG s = none := by rw [HY.out, if_neg (fun c => hz c.2.1)]
      have HG := Lib.hid hG
      clear hG HY HM hz
      refine region_held (S := fun X => Blk X (w.heap.size + 1) #[.string s, .int .i64 a5, .bool false] ∧ Blk X (w.heap.size + 1 + 1) #[.int .i64 v1, .int .i64 v2, .int .i64 v3, .int .i64 v4, .int .i64 v5]) 21 [false, false, false, false, false, false, false, false, false, false, false, false, false, false, false, false, false, false, false, false, false] rfl rfl (by kernel_rfl) fun V0 hW => ?_
      rw [← hW] at hR0
      clear hW
      have hS := And.intro hR0.b1 hR0.b2
      refine held_take 0 rby0 (some 24) ?_ rfl rfl (by kernel_rfl) (by kernel_rfl) (by kernel_rfl) (fun _ _ _ h => h) (Or.inl ⟨by rfl, ?_⟩) hS ?_
      rotate_left
      · intro w0 hy0; have e1 := hy0.1.cell; have e2 := hy0.2.cell; clear hy0; (go_simp <;> with_reducible rfl)
      simp only [Act.put, List.setIfInBounds_toArray, List.set_cons_zero, List.set_cons_succ]
      refine held_take 1 rby1 (some 25) ?_ rfl rfl (by kernel_rfl) (by kernel_rfl) (by kernel_rfl) (fun _ _ _ h => h) (Or.inl ⟨by rfl, ?_⟩) hS ?_
      rotate_left
      · intro w0 hy0; have e1 := hy0.1.cell; have e2 := hy0.2.cell; clear hy0; (go_simp <;> with_reducible rfl)
      simp only [Act.put, List.setIfInBounds_toArray, List.set_cons_zero, List.set_cons_succ]
      refine held_take 2 rby2 (some 26) ?_ rfl rfl (by kernel_rfl) (by kernel_rfl) (by kernel_rfl) (fun _ _ _ h => h) (Or.inl ⟨by rfl, ?_⟩) hS ?_
      rotate_left
      · intro w0 hy0; have e1 := hy0.1.cell; have e2 := hy0.2.cell; clear hy0; (go_simp <;> with_reducible rfl)
      simp only [Act.put, List.setIfInBounds_toArray, List.set_cons_zero, List.set_cons_succ]
      refine held_take 3 rby3 (some 27) ?_ rfl rfl (by kernel_rfl) (by kernel_rfl) (by kernel_rfl) (fun _ _ _ h => h) (Or.inl ⟨by rfl, ?_⟩) hS ?_
      rotate_left
      · intro w0 hy0; have e1 := hy0.1.cell; have e2 := hy0.2.cell; clear hy0; (go_simp <;> with_reducible rfl)
      simp only [Act.put, List.setIfInBounds_toArray, List.set_cons_zero, List.set_cons_succ]
      refine held_take 4 rby4 (some 28) ?_ rfl rfl (by kernel_rfl) (by kernel_rfl) (by kernel_rfl) (fun _ _ _ h => h) (Or.inl ⟨by rfl, ?_⟩) hS ?_
      rotate_left
      · intro w0 hy0; have e1 := hy0.1.cell; have e2 := hy0.2.cell; clear hy0; (go_simp <;> with_reducible rfl)
      simp only [Act.put, List.setIfInBounds_toArray, List.set_cons_zero, List.set_cons_succ]
      refine held_take 5 rby5 (some 29) ?_ rfl rfl (by kernel_rfl) (by kernel_rfl) (by kernel_rfl) (fun _ _ _ h => h) (Or.inl ⟨by rfl, ?_⟩) hS ?_
      rotate_left
      · intro w0 hy0; have e1 := hy0.1.cell; have e2 := hy0.2.cell; clear hy0; (go_simp <;> with_reducible rfl)
      simp only [Act.put, List.setIfInBounds_toArray, List.set_cons_zero, List.set_cons_succ]
      refine held_take 6 rby6 (some 30) ?_ rfl rfl (by kernel_rfl) (by kernel_rfl) (by kernel_rfl) (fun _ _ _ h => h) (Or.inl ⟨by rfl, ?_⟩) hS ?_
      rotate_left
      · intro w0 hy0; have e1 := hy0.1.cell; have e2 := hy0.2.cell; clear hy0; (go_simp <;> with_reducible rfl)
      simp only [Act.put, List.setIfInBounds_toArray, List.set_cons_zero, List.set_cons_succ]
      refine held_take 7 rby7 (some 31) ?_ rfl rfl (by kernel_rfl) (by kernel_rfl) (by kernel_rfl) (fun _ _ _ h => h) (Or.inl ⟨by rfl, ?_⟩) hS ?_
      rotate_left
      · intro w0 hy0; have e1 := hy0.1.cell; have e2 := hy0.2.cell; clear hy0; (go_simp <;> with_reducible rfl)
      simp only [Act.put, List.setIfInBounds_toArray, List.set_cons_zero, List.set_cons_succ]
      refine held_take 8 rby8 (some 32) ?_ rfl rfl (by kernel_rfl) (by kernel_rfl) (by kernel_rfl) (fun _ _ _ h => h) (Or.inl ⟨by rfl, ?_⟩) hS ?_
      rotate_left
      · intro w0 hy0; have e1 := hy0.1.cell; have e2 := hy0.2.cell; clear hy0; (go_simp <;> with_reducible rfl)
      simp only [Act.put, List.setIfInBounds_toArray, List.set_cons_zero, List.set_cons_succ]
      refine held_take 9 rby9 (some 33) ?_ rfl rfl (by kernel_rfl) (by kernel_rfl) (by kernel_rfl) (fun _ _ _ h => h) (Or.inl ⟨by rfl, ?_⟩) hS ?_
      rotate_left
      · intro w0 hy0; have e1 := hy0.1.cell; have e2 := hy0.2.cell; clear hy0; (go_simp <;> with_reducible rfl)
      simp only [Act.put, List.setIfInBounds_toArray, List.set_cons_zero, List.set_cons_succ]
      refine held_take 10 rby10 (some 34) ?_ rfl rfl (by kernel_rfl) (by kernel_rfl) (by kernel_rfl) (fun _ _ _ h => h) (Or.inl ⟨by rfl, ?_⟩) hS ?_
      rotate_left
      · intro w0 hy0; have e1 := hy0.1.cell; have e2 := hy0.2.cell; clear hy0; (go_simp <;> with_reducible rfl)
      simp only [Act.put, List.setIfInBounds_toArray, List.set_cons_zero, List.set_cons_succ]
      refine held_take 11 rby11 (some 35) ?_ rfl rfl (by kernel_rfl) (by kernel_rfl) (by kernel_rfl) (fun _ _ _ h => h) (Or.inl ⟨by rfl, ?_⟩) hS ?_
      rotate_left
      · intro w0 hy0; have e1 := hy0.1.cell; have e2 := hy0.2.cell; clear hy0; (go_simp <;> with_reducible rfl)
      simp only [Act.put, List.setIfInBounds_toArray, List.set_cons_zero, List.set_cons_succ]
      refine held_take 12 rby12 (some 36) ?_ rfl rfl (by kernel_rfl) (by kernel_rfl) (by kernel_rfl) (fun _ _ _ h => h) (Or.inl ⟨by rfl, ?_⟩) hS ?_
      rotate_left
      · intro w0 hy0; have e1 := hy0.1.cell; have e2 := hy0.2.cell; clear hy0; (go_simp <;> with_reducible rfl)
      simp only [Act.put, List.setIfInBounds_toArray, List.set_cons_zero, List.set_cons_succ]
      refine held_take 13 rby13 (some 37) ?_ rfl rfl (by kernel_rfl) (by kernel_rfl) (by kernel_rfl) (fun _ _ _ h => h) (Or.inl ⟨by rfl, ?_⟩) hS ?_
      rotate_left
      · intro w0 hy0; have e1 := hy0.1.cell; have e2 := hy0.2.cell; clear hy0; (go_simp <;> with_reducible rfl)
      simp only [Act.put, List.setIfInBounds_toArray, List.set_cons_zero, List.set_cons_succ]
      refine held_take 14 rby14 (some 38) ?_ rfl rfl (by kernel_rfl) (by kernel_rfl) (by kernel_rfl) (fun _ _ _ h => h) (Or.inl ⟨by rfl, ?_⟩) hS ?_
      rotate_left
      · intro w0 hy0; have e1 := hy0.1.cell; have e2 := hy0.2.cell; clear hy0; (go_simp <;> with_reducible rfl)
      simp only [Act.put, List.setIfInBounds_toArray, List.set_cons_zero, List.set_cons_succ]
      refine held_take 15 rby15 (some 39) ?_ rfl rfl (by kernel_rfl) (by kernel_rfl) (by kernel_rfl) (fun _ _ _ h => h) (Or.inl ⟨by rfl, ?_⟩) hS ?_
      rotate_left
      · intro w0 hy0; have e1 := hy0.1.cell; have e2 := hy0.2.cell; clear hy0; (go_simp <;> with_reducible rfl)
      simp only [Act.put, List.setIfInBounds_toArray, List.set_cons_zero, List.set_cons_succ]
      refine held_skip 16 rby16 (some 40) rfl rfl (by kernel_rfl) (by kernel_rfl) (by kernel_rfl) (fun _ _ _ h => h) (by rfl) hS ?_
      simp only [Act.put, List.setIfInBounds_toArray, List.set_cons_zero, List.set_cons_succ]
      refine held_skip 17 rby17 (some 41) rfl rfl (by kernel_rfl) (by kernel_rfl) (by kernel_rfl) (fun _ _ _ h => h) (by rfl) hS ?_
      simp only [Act.put, List.setIfInBounds_toArray, List.set_cons_zero, List.set_cons_succ]
      refine held_take 18 rby18 (some 42) ?_ rfl rfl (by kernel_rfl) (by kernel_rfl) (by kernel_rfl) (fun _ _ _ h => h) (Or.inl ⟨by rfl, ?_⟩) hS ?_
      rotate_left
      · intro w0 hy0; have e1 := hy0.1.cell; have e2 := hy0.2.cell; clear hy0; (go_simp <;> with_reducible rfl)
      simp only [Act.put, List.setIfInBounds_toArray, List.set_cons_zero, List.set_cons_succ]
      refine held_void 19 rby19 _ (by kernel_rfl) rfl (by rfl) (exec_store5 (.tmp 2) (.tmp 24) rfl w.heap.size hR0.b0.cell hR0.b0.froz v1 v2 v3 v4 v5 rfl rfl) (hR0.poke _ _ _ _ _) ?_
      simp only [Act.put, List.setIfInBounds_toArray, List.set_cons_zero, List.set_cons_succ]
      refine held_take 20 rby20 (some 3) ?_ rfl rfl (by kernel_rfl) (by kernel_rfl) (by kernel_rfl) (fun _ _ _ h => h) (Or.inl ⟨by rfl, ?_⟩) (hR0.poke _ _ _ _ _) ?_
      rotate_left
      · intro w0 hy0; have e1 := hy0.1.cell; have e2 := hy0.2.cell; clear hy0; (go_simp <;> with_reducible rfl)
      simp only [Act.put, List.setIfInBounds_toArray, List.set_cons_zero, List.set_cons_succ]
      refine wpAnyH_done (by kernel_rfl) ?_ _
      have e0 := hR0.b0.cell
      go_wp2
      refine bodyPost_ret (v := .tuple #[.agg #[.int .i64 v1, .int .i64 v2, .int .i64 v3, .int .i64 v4, .int .i64 v5], .bool false]) (by simp [results, Tryd.results32, go_sem, e0]) rfl ⟨⟨v1, v2, v3, v4, v5⟩, by rw [HG.out]; rfl, (by rw [HG.out]; intro c; cases c), hR0.end _ _ _ _ _⟩
end Go.Proofs.YtcakipojmkehgaaDoor
