/- StateAsks: events that may not come, one reason at a time. Conditions: the rows' sizes. -/
import Derived.Test.YtopkcaflmpjhgaaSparts
import Derived.Test.YtopkcaflmpjhgaaBpl
namespace Go.Proofs.Ytopkcaflmpjhgaa
open Go Go.RowKit

abbrev saa0 : Oper := { dst := some 58, op := Op.load 23 (Operand.tmp 5), type := 23, pos := "more.go:29", after := #[], guard := none }
abbrev saa1 : Oper := { dst := some 59, op := Op.load 32 (Operand.tmp 6), type := 32, pos := "more.go:29", after := #[], guard := none }
abbrev saa2 : Oper := { dst := some 60, op := Op.move (Operand.tmp 8), type := 24, pos := "more.go:29", after := #[], guard := none }
abbrev saa3 : Oper := { dst := some 61, op := Op.move (Operand.tmp 0), type := 3, pos := "more.go:29", after := #[], guard := none }
abbrev saa4 : Oper := { dst := some 62, op := Op.convert 3 26 (Operand.tmp 61), type := 26, pos := "more.go:29", after := #[{ on := 3, ground := Ground.data }], guard := none }
abbrev saa5 : Oper := { dst := some 63, op := Op.binOp BinOp.rem 26 (Operand.tmp 62) (Operand.const (Value.int IntKind.u64 15)) 26, type := 26, pos := "more.go:29", after := #[{ on := 4, ground := Ground.data }], guard := none }
abbrev saa6 : Oper := { dst := some 64, op := Op.convert 26 3 (Operand.tmp 63), type := 3, pos := "more.go:29", after := #[{ on := 5, ground := Ground.data }], guard := none }
abbrev saa7 : Oper := { dst := some 65, op := Op.indexAddr 24 (Operand.tmp 60) (Operand.tmp 64), type := 0, pos := "more.go:29", after := #[{ on := 2, ground := Ground.data }, { on := 6, ground := Ground.data }], guard := none }
abbrev saa8 : Oper := { dst := some 66, op := Op.load 40 (Operand.tmp 65), type := 40, pos := "more.go:29", after := #[{ on := 7, ground := Ground.data }], guard := none }
abbrev saa9 : Oper := { dst := some 67, op := Op.call { callee := Callee.value (Operand.func 13), args := #[Operand.tmp 58, Operand.tmp 59, Operand.tmp 66], argTypes := #[23, 32, 40] }, type := 34, pos := "more.go:29", after := #[{ on := 0, ground := Ground.data }, { on := 1, ground := Ground.data }, { on := 8, ground := Ground.data }], guard := none }
abbrev saa10 : Oper := { dst := some 57, op := Op.move (Operand.tmp 67), type := 34, pos := "more.go:29", after := #[{ on := 9, ground := Ground.data }], guard := none }
abbrev saa11 : Oper := { dst := some 68, op := Op.extract (Operand.tmp 57) 0, type := 32, pos := "more.go:29", after := #[{ on := 10, ground := Ground.data }], guard := none }
abbrev saa12 : Oper := { dst := some 69, op := Op.extract (Operand.tmp 57) 1, type := 33, pos := "more.go:29", after := #[{ on := 10, ground := Ground.data }, { on := 14, ground := Ground.gcOnly Departure.lateStores }], guard := none }
abbrev saa13 : Oper := { dst := some 9, op := Op.alloc 32, type := 0, pos := "more.go:29", after := #[], guard := none }
abbrev saa14 : Oper := { dst := none, op := Op.store 32 (Operand.tmp 9) (Operand.tmp 68), type := 0, pos := "more.go:29", after := #[{ on := 13, ground := Ground.data }, { on := 11, ground := Ground.data }, { on := 9, ground := Ground.chain }, { on := 0, ground := Ground.phase }, { on := 1, ground := Ground.phase }, { on := 2, ground := Ground.phase }, { on := 3, ground := Ground.phase }, { on := 4, ground := Ground.phase }, { on := 5, ground := Ground.phase }, { on := 6, ground := Ground.phase }, { on := 7, ground := Ground.phase }, { on := 8, ground := Ground.phase }, { on := 9, ground := Ground.phase }, { on := 10, ground := Ground.phase }, { on := 11, ground := Ground.phase }, { on := 12, ground := Ground.textOnly Departure.lateStores }, { on := 13, ground := Ground.phase }], guard := none }
abbrev saa15 : Oper := { dst := some 10, op := Op.assign (Operand.tmp 69), type := 33, pos := "more.go:29", after := #[{ on := 12, ground := Ground.data }, { on := 14, ground := Ground.chain }, { on := 0, ground := Ground.phase }, { on := 1, ground := Ground.phase }, { on := 2, ground := Ground.phase }, { on := 3, ground := Ground.phase }, { on := 4, ground := Ground.phase }, { on := 5, ground := Ground.phase }, { on := 6, ground := Ground.phase }, { on := 7, ground := Ground.phase }, { on := 8, ground := Ground.phase }, { on := 9, ground := Ground.phase }, { on := 10, ground := Ground.phase }, { on := 11, ground := Ground.phase }, { on := 12, ground := Ground.phase }, { on := 13, ground := Ground.phase }, { on := 14, ground := Ground.phase }], guard := none }
def asksM : List Ev := [⟨5, 0, 0, 1, 0, 0, 0, 0⟩, ⟨3, 0, 0, 0, 4, 0, 0, 0⟩, ⟨9, 0, 9, 0, 0, 0, 0, 0⟩, ⟨2, 1, 0, 0, 0, 0, 0, 10⟩, ⟨2, 1, 0, 0, 0, 0, 0, 10⟩]
theorem asksM_in (W : World) {p : Nat} (hp : W.heap.size = p) : MoreIn (W.alloc (.cells #[.int .i64 5, .int .i64 0, .int .i64 0, .int .i64 1, .int .i64 0, .int .i64 0, .int .i64 0, .int .i64 0, .int .i64 3, .int .i64 0, .int .i64 0, .int .i64 0, .int .i64 4, .int .i64 0, .int .i64 0, .int .i64 0, .int .i64 9, .int .i64 0, .int .i64 9, .int .i64 0, .int .i64 0, .int .i64 0, .int .i64 0, .int .i64 0, .int .i64 2, .int .i64 1, .int .i64 0, .int .i64 0, .int .i64 0, .int .i64 0, .int .i64 0, .int .i64 10, .int .i64 2, .int .i64 1, .int .i64 0, .int .i64 0, .int .i64 0, .int .i64 0, .int .i64 0, .int .i64 10] TEv)) (some ⟨p, 0, none⟩) 5 5 asksM := MoreIn.lit W asksM (by decide) hp rfl rfl
abbrev ask1 : St := ⟨1, 0, 1, [⟨0, 5, 6, 50, 0, 0, 0, 4, 0⟩, ⟨1, 7, 8, 60, 0, 2, 30, 0, 0⟩], [⟨0, 0, 1, 0⟩], [⟨false, -1, 0⟩, ⟨true, 0, 0⟩, ⟨false, -1, 0⟩], [9]⟩
theorem ask1_is : saS cfP (begB ++ asksM) = ask1 ∧ decide (saE cfP (begB ++ asksM) = 0) = true := by decide +kernel
theorem ask1_sm : ask1.sm 1 := by rw [← ask1_is.1]; exact saS_sm (by decide)
def asksB (m : Int) : List Ev := [⟨1, 0, 0, 0, 1, 0, 0, 0⟩, ⟨2, 2, 0, 0, 0, 0, 0, 0⟩, ⟨2, 1, 0, 0, 0, 0, 0, 29⟩, ⟨3, 3, 0, 0, 9, 0, 0, 0⟩, ⟨3, 0, 0, 0, 4, 0, 0, 0⟩, ⟨3, 0, 0, 0, m, 0, 0, 0⟩, ⟨4, 2, 0, 0, 0, 0, 0, 0⟩, ⟨5, 0, 2, 2, 0, 0, 0, 0⟩, ⟨5, 0, 0, 2, 0, 0, 0, 0⟩, ⟨5, 3, 1, 2, 0, 0, 0, 0⟩, ⟨5, 0, 1, 1, 0, 0, 0, 0⟩, ⟨5, 0, 1, 3, 0, 0, 0, 0⟩, ⟨6, 0, 1, 0, 0, 0, 0, 0⟩, ⟨7, 7, 0, 0, 0, 0, 0, 0⟩, ⟨9, 0, 9, 0, 0, 0, 0, 0⟩]
theorem asksB_hold {w0 V : World} {l : List Ob} {C : Ass} (hC : C.Good) (q : At w0 (OB l C) V) (m : Int) {p : Nat} (hp : V.heap.size = p) : At w0 (OB (l ++ [(p, (evCells (asksB m)).toArray, TEv)]) C) (V.alloc (.cells #[.int .i64 1, .int .i64 0, .int .i64 0, .int .i64 0, .int .i64 1, .int .i64 0, .int .i64 0, .int .i64 0, .int .i64 2, .int .i64 2, .int .i64 0, .int .i64 0, .int .i64 0, .int .i64 0, .int .i64 0, .int .i64 0, .int .i64 2, .int .i64 1, .int .i64 0, .int .i64 0, .int .i64 0, .int .i64 0, .int .i64 0, .int .i64 29, .int .i64 3, .int .i64 3, .int .i64 0, .int .i64 0, .int .i64 9, .int .i64 0, .int .i64 0, .int .i64 0, .int .i64 3, .int .i64 0, .int .i64 0, .int .i64 0, .int .i64 4, .int .i64 0, .int .i64 0, .int .i64 0, .int .i64 3, .int .i64 0, .int .i64 0, .int .i64 0, .int .i64 m, .int .i64 0, .int .i64 0, .int .i64 0, .int .i64 4, .int .i64 2, .int .i64 0, .int .i64 0, .int .i64 0, .int .i64 0, .int .i64 0, .int .i64 0, .int .i64 5, .int .i64 0, .int .i64 2, .int .i64 2, .int .i64 0, .int .i64 0, .int .i64 0, .int .i64 0, .int .i64 5, .int .i64 0, .int .i64 0, .int .i64 2, .int .i64 0, .int .i64 0, .int .i64 0, .int .i64 0, .int .i64 5, .int .i64 3, .int .i64 1, .int .i64 2, .int .i64 0, .int .i64 0, .int .i64 0, .int .i64 0, .int .i64 5, .int .i64 0, .int .i64 1, .int .i64 1, .int .i64 0, .int .i64 0, .int .i64 0, .int .i64 0, .int .i64 5, .int .i64 0, .int .i64 1, .int .i64 3, .int .i64 0, .int .i64 0, .int .i64 0, .int .i64 0, .int .i64 6, .int .i64 0, .int .i64 1, .int .i64 0, .int .i64 0, .int .i64 0, .int .i64 0, .int .i64 0, .int .i64 7, .int .i64 7, .int .i64 0, .int .i64 0, .int .i64 0, .int .i64 0, .int .i64 0, .int .i64 0, .int .i64 9, .int .i64 0, .int .i64 9, .int .i64 0, .int .i64 0, .int .i64 0, .int .i64 0, .int .i64 0] TEv)) := OB.hold hC q (evCells (asksB m)).toArray TEv hp.symm
theorem asks_no {m : Int} (m0 : 0 ≤ m) (m1 : m ≤ 3) {j : Nat} (hj : j < 15) : stAS cfP ask1 ((asksB m).getD j Ev.zero) = .none ∧ stAE cfP ask1 ((asksB m).getD j Ev.zero) = 2001 := by
  have hm : m = 0 ∨ m = 1 ∨ m = 2 ∨ m = 3 := by omega
  have hjj : j = 0 ∨ j = 1 ∨ j = 2 ∨ j = 3 ∨ j = 4 ∨ j = 5 ∨ j = 6 ∨ j = 7 ∨ j = 8 ∨ j = 9 ∨ j = 10 ∨ j = 11 ∨ j = 12 ∨ j = 13 ∨ j = 14 := by omega
  rcases hm with rfl | rfl | rfl | rfl <;> (rcases hjj with rfl | rfl | rfl | rfl | rfl | rfl | rfl | rfl | rfl | rfl | rfl | rfl | rfl | rfl | rfl <;> decide +kernel)
/-- An event of a row in a block that is known whole. -/
theorem Blk.ev {Z : World} {b : Nat} {es : List Ev} (h : Blk Z b (evCells es).toArray) {j : Nat} (hj : j < es.length) {e : Ev} (he : es.getD j Ev.zero = e) : Z.cell? ⟨b, j * 8, none⟩ = some (.int .i64 e.kind) ∧ Z.cell? ⟨b, j * 8 + 1, none⟩ = some (.int .i64 e.user) ∧ Z.cell? ⟨b, j * 8 + 2, none⟩ = some (.int .i64 e.session) ∧ Z.cell? ⟨b, j * 8 + 3, none⟩ = some (.int .i64 e.address) ∧ Z.cell? ⟨b, j * 8 + 4, none⟩ = some (.int .i64 e.a) ∧ Z.cell? ⟨b, j * 8 + 5, none⟩ = some (.int .i64 e.b) ∧ Z.cell? ⟨b, j * 8 + 6, none⟩ = some (.int .i64 e.c) ∧ Z.cell? ⟨b, j * 8 + 7, none⟩ = some (.int .i64 e.tick) := by
  subst he
  have key : ∀ i, i < 8 → Z.cell? ⟨b, j * 8 + i, none⟩ = (es.getD j Ev.zero).cs[i]? := fun i hi => by
    rw [h.cell, List.getElem?_toArray, evCells_at es hj hi]
  exact ⟨key 0 (by decide), key 1 (by decide), key 2 (by decide), key 3 (by decide), key 4 (by decide), key 5 (by decide), key 6 (by decide), key 7 (by decide)⟩
theorem cut15 (x : Int) : ∃ j : Nat, (IntKind.u64.wrap x).tmod 15 = (j : Int) ∧ j < 15 := by
  have h0 : 0 ≤ IntKind.u64.wrap x := by rw [IntKind.wrap_u64]; omega
  have h1 := Int.tmod_nonneg 15 h0
  have h2 := Int.tmod_lt_of_pos (IntKind.u64.wrap x) (show (0 : Int) < 15 by decide)
  exact ⟨((IntKind.u64.wrap x).tmod 15).toNat, by omega, by omega⟩
theorem obegun (P : StatesOk) {w0 w : World} {l : List Ob} {z : List (Sv × St)} {R : Ass} (hR : R.Good) (q : At w0 (OB l (STS z R)) w) {c : Cf} {ao : Option Addr} {m cap : Nat} {es : List Ev} {S : St} {b : Bool} (hm : MoreIn w ao m cap es) (hS : saS c (begB ++ es) = S) (hE : decide (saE c (begB ++ es) = 0) = b) :
    Calls Try.prog 15 #[.agg (cfC c), .slice ao m cap] w fun e Z => ∃ h : Sv, e = .returned (.tuple #[.agg (stC h S), .bool b]) ∧ At w0 (OB l (STS ((h, S) :: z) R)) Z :=
  (begun_ok P hm hS hE).mono fun _ _ ⟨h, e1, n⟩ => ⟨h, e1, STS.front hR q n⟩
theorem and3 (x : Int) : ∃ m : Int, bits .and .i64 x 3 = m ∧ 0 ≤ m ∧ m ≤ 3 := by
  have h := i64_mask x 2 (by decide)
  exact ⟨_, h, by omega, by omega⟩
set_option maxRecDepth 100000 in
set_option maxHeartbeats 16000000 in
theorem stasks (P : StatesOk) (w : World) (which x : Int) (m : Int) (hm : bits .and .i64 x 3 = m) (m0 : 0 ≤ m) (m1 : m ≤ 3) :
    Calls Try.prog 4 #[.int .i64 which, .int .i64 x] w fun e w' => e = .returned (.bool true) ∧ Below w.heap.size w w' := by
  obtain ⟨j, hj, hj15⟩ := cut15 which
  have hjI : (j : Int) < 15 := by omega
  have hw3 : IntKind.i64.wrap (j : Int) = (j : Int) := by rw [IntKind.wrap_i64]; omega
  have HN := Lib.hid (asks_no m0 m1 hj15)
  obtain ⟨ev, hev⟩ : ∃ ev, (asksB m).getD j Ev.zero = ev := ⟨_, rfl⟩
  rw [hev] at HN
  have HEV := Lib.hid hev
  obtain ⟨f0, f1, f2, f3, f4, f5, f6, f7⟩ := ev
  clear hev
  have q0 : At w (OB [] (STS [] emp)) w := OB.start (Below.refl w.heap.size w)
  go_enter Try.func4, Try.ntmps4
  go_wp2_with (first
    | (go_at_call 9; (with_reducible refine (awake20 P _).mono ?_); rintro r w1 ⟨rfl, hb⟩; have q1 := OB.lay (STS.good emp_good) q0 hb; clear hb)
    | (go_at_call 14; (with_reducible refine (lplain _).mono ?_); rintro e w2 ⟨rfl, hb⟩; have q2 : At w (OB [(w2.heap.size, cfC cfP, TCf)] (STS [] emp)) (w2.alloc (.cells (cfC cfP) TCf)) := OB.hold (STS.good emp_good) (OB.lay (STS.good emp_good) q1 hb) (cfC cfP) TCf rfl; clear hb)
    | (go_at_call 15; (with_reducible refine (obegun P emp_good (OB.lay1 (STS.good emp_good) q2 _) (asksM_in _ (by go_simp)) ask1_is.1 ask1_is.2).mono ?_); rintro e w3 ⟨⟨hu, huc, hs, hsc, hp, hpc, hi, hic⟩, rfl, qa⟩; have q3 : At w (OB [(w2.heap.size, cfC cfP, TCf), (w3.heap.size, (stN 1 0 1 ⟨hu, huc, hs, hsc, hp, hpc, hi, hic⟩ 2 1 3 1), TSt)] (STS [(⟨hu, huc, hs, hsc, hp, hpc, hi, hic⟩, ask1)] emp)) (w3.alloc (.cells (stN 1 0 1 ⟨hu, huc, hs, hsc, hp, hpc, hi, hic⟩ 2 1 3 1) TSt)) := OB.hold (STS.good emp_good) qa (stN 1 0 1 ⟨hu, huc, hs, hsc, hp, hpc, hi, hic⟩ 2 1 3 1) TSt rfl; clear qa))
  have q4 : At w (OB [(w2.heap.size, cfC cfP, TCf), (w3.heap.size, (stN 1 0 1 ⟨hu, huc, hs, hsc, hp, hpc, hi, hic⟩ 2 1 3 1), TSt), (w3.heap.size + 1, (evCells (asksB m)).toArray, TEv)] (STS [(⟨hu, huc, hs, hsc, hp, hpc, hi, hic⟩, ask1)] emp)) _ := asksB_hold (STS.good emp_good) q3 m (by simp)
  clear q0 q1 q2 q3
  obtain ⟨W4, hW4⟩ : ∃ W, (w3.alloc (.cells (stN 1 0 1 ⟨hu, huc, hs, hsc, hp, hpc, hi, hic⟩ 2 1 3 1) TSt)).alloc (.cells #[.int .i64 1, .int .i64 0, .int .i64 0, .int .i64 0, .int .i64 1, .int .i64 0, .int .i64 0, .int .i64 0, .int .i64 2, .int .i64 2, .int .i64 0, .int .i64 0, .int .i64 0, .int .i64 0, .int .i64 0, .int .i64 0, .int .i64 2, .int .i64 1, .int .i64 0, .int .i64 0, .int .i64 0, .int .i64 0, .int .i64 0, .int .i64 29, .int .i64 3, .int .i64 3, .int .i64 0, .int .i64 0, .int .i64 9, .int .i64 0, .int .i64 0, .int .i64 0, .int .i64 3, .int .i64 0, .int .i64 0, .int .i64 0, .int .i64 4, .int .i64 0, .int .i64 0, .int .i64 0, .int .i64 3, .int .i64 0, .int .i64 0, .int .i64 0, .int .i64 m, .int .i64 0, .int .i64 0, .int .i64 0, .int .i64 4, .int .i64 2, .int .i64 0, .int .i64 0, .int .i64 0, .int .i64 0, .int .i64 0, .int .i64 0, .int .i64 5, .int .i64 0, .int .i64 2, .int .i64 2, .int .i64 0, .int .i64 0, .int .i64 0, .int .i64 0, .int .i64 5, .int .i64 0, .int .i64 0, .int .i64 2, .int .i64 0, .int .i64 0, .int .i64 0, .int .i64 0, .int .i64 5, .int .i64 3, .int .i64 1, .int .i64 2, .int .i64 0, .int .i64 0, .int .i64 0, .int .i64 0, .int .i64 5, .int .i64 0, .int .i64 1, .int .i64 1, .int .i64 0, .int .i64 0, .int .i64 0, .int .i64 0, .int .i64 5, .int .i64 0, .int .i64 1, .int .i64 3, .int .i64 0, .int .i64 0, .int .i64 0, .int .i64 0, .int .i64 6, .int .i64 0, .int .i64 1, .int .i64 0, .int .i64 0, .int .i64 0, .int .i64 0, .int .i64 0, .int .i64 7, .int .i64 7, .int .i64 0, .int .i64 0, .int .i64 0, .int .i64 0, .int .i64 0, .int .i64 0, .int .i64 9, .int .i64 0, .int .i64 9, .int .i64 0, .int .i64 0, .int .i64 0, .int .i64 0, .int .i64 0] TEv) = W := ⟨_, rfl⟩
  rw [hW4] at q4 ⊢
  clear hW4
  generalize w2.heap.size = b1 at *
  generalize hb3 : w3.heap.size + 1 = b3 at *
  generalize w3.heap.size = b2 at *
  clear hb3
  refine st_merge (Φ := fun (p : Nat) (ht : Sv) Z => At w (OB [(b1, cfC cfP, TCf), (b2, (stN 1 0 1 ⟨hu, huc, hs, hsc, hp, hpc, hi, hic⟩ 2 1 3 1), TSt), (b3, (evCells (asksB m)).toArray, TEv), (p, stC ht St.none, TSt)] (STS [(ht, St.none), (⟨hu, huc, hs, hsc, hp, hpc, hi, hic⟩, ask1)] emp)) Z) (K := ?K1) ?h1 ?h2
  case h1 =>
    intro hK
    refine region_held (S := fun Z => Blk Z b1 (cfC cfP) ∧ Blk Z b2 (stN 1 0 1 ⟨hu, huc, hs, hsc, hp, hpc, hi, hic⟩ 2 1 3 1) ∧ Blk Z b3 (evCells (asksB m)).toArray) 16 [false, false, false, false, false, false, false, false, false, false, false, false, false, false, false, false] rfl rfl (by kernel_rfl) fun Y hW => ?_
    have q3 := OB.lay (STS.good emp_good) q4 (us_drew W4)
    rw [← hW] at q3
    have hSq3 := And.intro (OB.at q3 (i := 0) rfl) (And.intro (OB.at q3 (i := 1) rfl) (OB.at q3 (i := 2) rfl))
    clear hW
    refine run_go [(0, saa0, (some 58)), (1, saa1, (some 59)), (2, saa2, (some 60)), (3, saa3, (some 61)), (4, saa4, (some 62)), (5, saa5, (some 63)), (6, saa6, (some 64)), (7, saa7, (some 65)), (8, saa8, (some 66))] (by kernel_rfl) ?_
    iterate 9 (refine run_take ?_ rfl rfl (fun _ _ _ h => h) (Or.inl ⟨by rfl, ?_⟩) hSq3 ?_; rotate_left; (· (intro w0' hy0; obtain ⟨k0, k1, k2⟩ := hy0; have e0 := k0.cell; have e1 := k1.cell; obtain ⟨x0, x1, x2, x3, x4, x5, x6, x7⟩ := k2.ev hj15 HEV.out; clear k0 k1 k2; (go_simp <;> with_reducible rfl))); simp only [Act.put, List.setIfInBounds_toArray, List.set_cons_zero, List.set_cons_succ])
    refine run_end ?_
    refine jtwo 9 13 (by kernel_rfl) ?_ ?_
    · refine jop_callv 9 saa9 (some 67) (fun v Z => ∃ ht : Sv, v = .tuple #[.agg (stC ht St.none), .int .i64 2001] ∧ At w (OB [(b1, cfC cfP, TCf), (b2, (stN 1 0 1 ⟨hu, huc, hs, hsc, hp, hpc, hi, hic⟩ 2 1 3 1), TSt), (b3, (evCells (asksB m)).toArray, TEv)] (STS [(ht, St.none), (⟨hu, huc, hs, hsc, hp, hpc, hi, hic⟩, ask1)] emp)) Z) 13 #[.agg (cfC cfP), .agg (stN 1 0 1 ⟨hu, huc, hs, hsc, hp, hpc, hi, hic⟩ 2 1 3 1), .agg (evA ⟨f0, f1, f2, f3, f4, f5, f6, f7⟩)] rfl rfl (by rfl) (by go_simp <;> with_reducible rfl) ((P.oapplyA (e := ⟨f0, f1, f2, f3, f4, f5, f6, f7⟩) emp_good q3 (i := 0) rfl ask1_sm (stN 1 0 1 ⟨hu, huc, hs, hsc, hp, hpc, hi, hic⟩ 2 1 3 1) rfl HN.out.1 HN.out.2).mono fun _ _ ⟨ht, e1, z⟩ => ⟨_, e1, ht, rfl, z⟩) (fun v Z ⟨ht, _, z⟩ => And.intro (OB.at z (i := 0) rfl) (And.intro (OB.at z (i := 1) rfl) (OB.at z (i := 2) rfl))) ?_
      rintro v V4 ⟨ht, rfl, q4⟩
      simp only [Act.put, List.setIfInBounds_toArray, List.set_cons_zero, List.set_cons_succ]
      have hSq4 := And.intro (OB.at q4 (i := 0) rfl) (And.intro (OB.at q4 (i := 1) rfl) (OB.at q4 (i := 2) rfl))
      refine run_go [(10, saa10, (some 57)), (11, saa11, (some 68)), (12, saa12, (some 69))] (by kernel_rfl) ?_
      iterate 3 (refine run_take ?_ rfl rfl (fun _ _ _ h => h) (Or.inl ⟨by rfl, ?_⟩) hSq4 ?_; rotate_left; (· (intro w0' hy0; obtain ⟨k0, k1, k2⟩ := hy0; have e0 := k0.cell; have e1 := k1.cell; obtain ⟨x0, x1, x2, x3, x4, x5, x6, x7⟩ := k2.ev hj15 HEV.out; clear k0 k1 k2; (go_simp <;> with_reducible rfl))); simp only [Act.put, List.setIfInBounds_toArray, List.set_cons_zero, List.set_cons_succ])
      refine run_end ?_
      have q5 := OB.hold (STS.good emp_good) q4 stZ TSt rfl
      refine held_one 13 saa13 (some 9) (.pointer (some ⟨V4.heap.size, 0, none⟩)) (V4.alloc (.cells stZ TSt)) (by kernel_rfl) rfl rfl (by rfl) (by go_simp <;> with_reducible rfl) (And.intro (OB.at q5 (i := 0) rfl) (And.intro (OB.at q5 (i := 1) rfl) (OB.at q5 (i := 2) rfl))) ?_
      simp only [Act.put, List.setIfInBounds_toArray, List.set_cons_zero, List.set_cons_succ]
      generalize V4.alloc (.cells stZ TSt) = V5 at *
      generalize V4.heap.size = p at *
      have kp := OB.at q5 (i := 3) rfl
      have ep := kp.cell
      have gp := kp.froz
      obtain ⟨V6, hZ, q6⟩ : ∃ Z, (((((((V5.setCell ⟨p, 0, none⟩ (.int .i64 St.none.b)).setCell ⟨p, 1, none⟩ (.int .i64 St.none.e)).setCell ⟨p, 2, none⟩ (.int .i64 St.none.n)).setCell ⟨p, 3, none⟩ (.slice ht.u St.none.us.length ht.uc)).setCell ⟨p, 4, none⟩ (.slice ht.s St.none.ss.length ht.sc)).setCell ⟨p, 5, none⟩ (.slice ht.p St.none.ad.length ht.pc)).setCell ⟨p, 6, none⟩ (.slice ht.i St.none.sp.length ht.ic)) = Z ∧ At w (OB [(b1, cfC cfP, TCf), (b2, (stN 1 0 1 ⟨hu, huc, hs, hsc, hp, hpc, hi, hic⟩ 2 1 3 1), TSt), (b3, (evCells (asksB m)).toArray, TEv), (p, stC ht St.none, TSt)] (STS [(ht, St.none), (⟨hu, huc, hs, hsc, hp, hpc, hi, hic⟩, ask1)] emp)) Z := ⟨_, rfl, OB.put7 (STS.good emp_good) q5 (i := 3) rfl (.int .i64 St.none.b) (.int .i64 St.none.e) (.int .i64 St.none.n) (.slice ht.u St.none.us.length ht.uc) (.slice ht.s St.none.ss.length ht.sc) (.slice ht.p St.none.ad.length ht.pc) (.slice ht.i St.none.sp.length ht.ic)⟩
      refine held_void 14 saa14 V6 (by kernel_rfl) rfl (by rfl) (by go_simp <;> with_reducible rfl) (And.intro (OB.at q6 (i := 0) rfl) (And.intro (OB.at q6 (i := 1) rfl) (OB.at q6 (i := 2) rfl))) ?_
      simp only [Act.put, List.setIfInBounds_toArray, List.set_cons_zero, List.set_cons_succ]
      clear ep gp kp hZ
      refine run_go [(15, saa15, (some 10))] (by kernel_rfl) ?_
      iterate 1 (refine run_take ?_ rfl rfl (fun _ _ _ h => h) (Or.inl ⟨by rfl, ?_⟩) (And.intro (OB.at q6 (i := 0) rfl) (And.intro (OB.at q6 (i := 1) rfl) (OB.at q6 (i := 2) rfl))) ?_; rotate_left; (· (intro w0' hy0; obtain ⟨k0, k1, k2⟩ := hy0; have e0 := k0.cell; have e1 := k1.cell; obtain ⟨x0, x1, x2, x3, x4, x5, x6, x7⟩ := k2.ev hj15 HEV.out; clear k0 k1 k2; (go_simp <;> with_reducible rfl))); simp only [Act.put, List.setIfInBounds_toArray, List.set_cons_zero, List.set_cons_succ])
      refine run_end ?_
      refine wpAnyH_done (by kernel_rfl) ?_ _
      exact hK p ht V6 q6
    · have q4 := OB.hold (STS.good emp_good) q3 stZ TSt rfl
      refine jop_one 13 saa13 (some 9) (.pointer (some ⟨Y.heap.size, 0, none⟩)) (Y.alloc (.cells stZ TSt)) rfl rfl (by rfl) (by go_simp <;> with_reducible rfl) (And.intro (OB.at q4 (i := 0) rfl) (And.intro (OB.at q4 (i := 1) rfl) (OB.at q4 (i := 2) rfl))) ?_
      simp only [Act.put, List.setIfInBounds_toArray, List.set_cons_zero, List.set_cons_succ]
      generalize Y.alloc (.cells stZ TSt) = V4 at *
      generalize Y.heap.size = p at *
      refine held_callv 9 saa9 (some 67) (fun v Z => ∃ ht : Sv, v = .tuple #[.agg (stC ht St.none), .int .i64 2001] ∧ At w (OB [(b1, cfC cfP, TCf), (b2, (stN 1 0 1 ⟨hu, huc, hs, hsc, hp, hpc, hi, hic⟩ 2 1 3 1), TSt), (b3, (evCells (asksB m)).toArray, TEv), (p, stZ, TSt)] (STS [(ht, St.none), (⟨hu, huc, hs, hsc, hp, hpc, hi, hic⟩, ask1)] emp)) Z) 13 #[.agg (cfC cfP), .agg (stN 1 0 1 ⟨hu, huc, hs, hsc, hp, hpc, hi, hic⟩ 2 1 3 1), .agg (evA ⟨f0, f1, f2, f3, f4, f5, f6, f7⟩)] (by kernel_rfl) rfl rfl (by rfl) (by go_simp <;> with_reducible rfl) ((P.oapplyA (e := ⟨f0, f1, f2, f3, f4, f5, f6, f7⟩) emp_good q4 (i := 0) rfl ask1_sm (stN 1 0 1 ⟨hu, huc, hs, hsc, hp, hpc, hi, hic⟩ 2 1 3 1) rfl HN.out.1 HN.out.2).mono fun _ _ ⟨ht, e1, z⟩ => ⟨_, e1, ht, rfl, z⟩) (fun v Z ⟨ht, _, z⟩ => And.intro (OB.at z (i := 0) rfl) (And.intro (OB.at z (i := 1) rfl) (OB.at z (i := 2) rfl))) ?_
      rintro v V5 ⟨ht, rfl, q5⟩
      simp only [Act.put, List.setIfInBounds_toArray, List.set_cons_zero, List.set_cons_succ]
      have hSq5 := And.intro (OB.at q5 (i := 0) rfl) (And.intro (OB.at q5 (i := 1) rfl) (OB.at q5 (i := 2) rfl))
      refine run_go [(10, saa10, (some 57)), (11, saa11, (some 68)), (12, saa12, (some 69))] (by kernel_rfl) ?_
      iterate 3 (refine run_take ?_ rfl rfl (fun _ _ _ h => h) (Or.inl ⟨by rfl, ?_⟩) hSq5 ?_; rotate_left; (· (intro w0' hy0; obtain ⟨k0, k1, k2⟩ := hy0; have e0 := k0.cell; have e1 := k1.cell; obtain ⟨x0, x1, x2, x3, x4, x5, x6, x7⟩ := k2.ev hj15 HEV.out; clear k0 k1 k2; (go_simp <;> with_reducible rfl))); simp only [Act.put, List.setIfInBounds_toArray, List.set_cons_zero, List.set_cons_succ])
      refine run_end ?_
      have kp := OB.at q5 (i := 3) rfl
      have ep := kp.cell
      have gp := kp.froz
      obtain ⟨V6, hZ, q6⟩ : ∃ Z, (((((((V5.setCell ⟨p, 0, none⟩ (.int .i64 St.none.b)).setCell ⟨p, 1, none⟩ (.int .i64 St.none.e)).setCell ⟨p, 2, none⟩ (.int .i64 St.none.n)).setCell ⟨p, 3, none⟩ (.slice ht.u St.none.us.length ht.uc)).setCell ⟨p, 4, none⟩ (.slice ht.s St.none.ss.length ht.sc)).setCell ⟨p, 5, none⟩ (.slice ht.p St.none.ad.length ht.pc)).setCell ⟨p, 6, none⟩ (.slice ht.i St.none.sp.length ht.ic)) = Z ∧ At w (OB [(b1, cfC cfP, TCf), (b2, (stN 1 0 1 ⟨hu, huc, hs, hsc, hp, hpc, hi, hic⟩ 2 1 3 1), TSt), (b3, (evCells (asksB m)).toArray, TEv), (p, stC ht St.none, TSt)] (STS [(ht, St.none), (⟨hu, huc, hs, hsc, hp, hpc, hi, hic⟩, ask1)] emp)) Z := ⟨_, rfl, OB.put7 (STS.good emp_good) q5 (i := 3) rfl (.int .i64 St.none.b) (.int .i64 St.none.e) (.int .i64 St.none.n) (.slice ht.u St.none.us.length ht.uc) (.slice ht.s St.none.ss.length ht.sc) (.slice ht.p St.none.ad.length ht.pc) (.slice ht.i St.none.sp.length ht.ic)⟩
      refine held_void 14 saa14 V6 (by kernel_rfl) rfl (by rfl) (by go_simp <;> with_reducible rfl) (And.intro (OB.at q6 (i := 0) rfl) (And.intro (OB.at q6 (i := 1) rfl) (OB.at q6 (i := 2) rfl))) ?_
      simp only [Act.put, List.setIfInBounds_toArray, List.set_cons_zero, List.set_cons_succ]
      clear ep gp kp hZ
      refine run_go [(15, saa15, (some 10))] (by kernel_rfl) ?_
      iterate 1 (refine run_take ?_ rfl rfl (fun _ _ _ h => h) (Or.inl ⟨by rfl, ?_⟩) (And.intro (OB.at q6 (i := 0) rfl) (And.intro (OB.at q6 (i := 1) rfl) (OB.at q6 (i := 2) rfl))) ?_; rotate_left; (· (intro w0' hy0; obtain ⟨k0, k1, k2⟩ := hy0; have e0 := k0.cell; have e1 := k1.cell; obtain ⟨x0, x1, x2, x3, x4, x5, x6, x7⟩ := k2.ev hj15 HEV.out; clear k0 k1 k2; (go_simp <;> with_reducible rfl))); simp only [Act.put, List.setIfInBounds_toArray, List.set_cons_zero, List.set_cons_succ])
      refine run_end ?_
      refine wpAnyH_done (by kernel_rfl) ?_ _
      exact hK p ht V6 q6
  case h2 =>
    intro p ht Z qn
    clear q4
    have kp := OB.at qn (i := 3) rfl
    have ep := kp.cell
    clear kp
    go_wp2_with (first
    | (go_at_call 11; (with_reducible refine (lnum _ _).mono ?_); rintro r wn ⟨rfl, rfl⟩)
    | (go_at_call 12; (with_reducible refine (olnone (b := true) emp_good qn (STS.at qn (i := 0) rfl (St.none_sm (k := 0) (by decide))) (by decide)).mono ?_); rintro r wq ⟨rfl, qq, -⟩))
    go_ret
    exact ⟨rfl, qq.bel⟩
end Go.Proofs.Ytopkcaflmpjhgaa
