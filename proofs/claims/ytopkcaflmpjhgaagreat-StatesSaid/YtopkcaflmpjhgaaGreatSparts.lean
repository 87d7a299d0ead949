
/- StateParts: the state of events is that of their beginning, and the rest behind. Conditions: the rows' sizes. -/
import Derived.Test.YtopkcaflmpjhgaaGreatBtw
import Derived.Test.YtopkcaflmpjhgaaGreatBsn
namespace Go.Proofs.YtopkcaflmpjhgaaGreat
open Go Go.RowKit

abbrev spa0 : Oper := { dst := some 32, op := Op.load 23 (Operand.tmp 3), type := 23, pos := "law.go:65", after := #[], guard := none }
abbrev spa1 : Oper := { dst := some 33, op := Op.move (Operand.tmp 1), type := 30, pos := "law.go:65", after := #[], guard := none }
abbrev spa2 : Oper := { dst := some 34, op := Op.move (Operand.tmp 7), type := 3, pos := "law.go:65", after := #[], guard := none }
abbrev spa3 : Oper := { dst := some 35, op := Op.slice 30 (Operand.tmp 33) none (some (Operand.tmp 34)) none, type := 30, pos := "law.go:65", after := #[{ on := 1, ground := Ground.data }, { on := 2, ground := Ground.data }], guard := none }
abbrev spa4 : Oper := { dst := some 36, op := Op.call { callee := Callee.value (Operand.func 7), args := #[Operand.tmp 32, Operand.tmp 35], argTypes := #[23, 30] }, type := 32, pos := "law.go:65", after := #[{ on := 0, ground := Ground.data }, { on := 3, ground := Ground.data }], guard := none }
abbrev spa5 : Oper := { dst := some 31, op := Op.move (Operand.tmp 36), type := 32, pos := "law.go:65", after := #[{ on := 4, ground := Ground.data }], guard := none }
abbrev spa6 : Oper := { dst := some 37, op := Op.extract (Operand.tmp 31) 0, type := 29, pos := "law.go:65", after := #[{ on := 5, ground := Ground.data }], guard := none }
abbrev spa7 : Oper := { dst := some 38, op := Op.extract (Operand.tmp 31) 1, type := 31, pos := "law.go:65", after := #[{ on := 5, ground := Ground.data }, { on := 9, ground := Ground.gcOnly Departure.lateStores }], guard := none }
abbrev spa8 : Oper := { dst := some 10, op := Op.alloc 29, type := 0, pos := "law.go:65", after := #[], guard := none }
abbrev spa9 : Oper := { dst := none, op := Op.store 29 (Operand.tmp 10) (Operand.tmp 37), type := 0, pos := "law.go:65", after := #[{ on := 8, ground := Ground.data }, { on := 6, ground := Ground.data }, { on := 4, ground := Ground.chain }, { on := 0, ground := Ground.phase }, { on := 1, ground := Ground.phase }, { on := 2, ground := Ground.phase }, { on := 3, ground := Ground.phase }, { on := 4, ground := Ground.phase }, { on := 5, ground := Ground.phase }, { on := 6, ground := Ground.phase }, { on := 7, ground := Ground.textOnly Departure.lateStores }, { on := 8, ground := Ground.phase }], guard := none }
abbrev spa10 : Oper := { dst := some 11, op := Op.assign (Operand.tmp 38), type := 31, pos := "law.go:65", after := #[{ on := 7, ground := Ground.data }, { on := 9, ground := Ground.chain }, { on := 0, ground := Ground.phase }, { on := 1, ground := Ground.phase }, { on := 2, ground := Ground.phase }, { on := 3, ground := Ground.phase }, { on := 4, ground := Ground.phase }, { on := 5, ground := Ground.phase }, { on := 6, ground := Ground.phase }, { on := 7, ground := Ground.phase }, { on := 8, ground := Ground.phase }, { on := 9, ground := Ground.phase }], guard := none }
abbrev spb0 : Oper := { dst := some 60, op := Op.load 23 (Operand.tmp 3), type := 23, pos := "law.go:70", after := #[], guard := none }
abbrev spb1 : Oper := { dst := some 61, op := Op.load 29 (Operand.tmp 10), type := 29, pos := "law.go:70", after := #[], guard := none }
abbrev spb2 : Oper := { dst := some 62, op := Op.move (Operand.tmp 1), type := 30, pos := "law.go:70", after := #[], guard := none }
abbrev spb3 : Oper := { dst := some 63, op := Op.move (Operand.tmp 12), type := 3, pos := "law.go:70", after := #[], guard := none }
abbrev spb4 : Oper := { dst := some 64, op := Op.indexAddr 30 (Operand.tmp 62) (Operand.tmp 63), type := 0, pos := "law.go:70", after := #[{ on := 2, ground := Ground.data }, { on := 3, ground := Ground.data }], guard := none }
abbrev spb5 : Oper := { dst := some 65, op := Op.load 45 (Operand.tmp 64), type := 45, pos := "law.go:70", after := #[{ on := 4, ground := Ground.data }], guard := none }
abbrev spb6 : Oper := { dst := some 66, op := Op.call { callee := Callee.value (Operand.func 13), args := #[Operand.tmp 60, Operand.tmp 61, Operand.tmp 65], argTypes := #[23, 29, 45] }, type := 32, pos := "law.go:70", after := #[{ on := 0, ground := Ground.data }, { on := 1, ground := Ground.data }, { on := 5, ground := Ground.data }], guard := none }
abbrev spb7 : Oper := { dst := some 59, op := Op.move (Operand.tmp 66), type := 32, pos := "law.go:70", after := #[{ on := 6, ground := Ground.data }], guard := none }
abbrev spb8 : Oper := { dst := some 67, op := Op.extract (Operand.tmp 59) 0, type := 29, pos := "law.go:70", after := #[{ on := 7, ground := Ground.data }], guard := none }
abbrev spb9 : Oper := { dst := some 68, op := Op.extract (Operand.tmp 59) 1, type := 31, pos := "law.go:70", after := #[{ on := 7, ground := Ground.data }, { on := 11, ground := Ground.gcOnly Departure.lateStores }], guard := none }
abbrev spb10 : Oper := { dst := some 13, op := Op.alloc 29, type := 0, pos := "law.go:70", after := #[], guard := none }
abbrev spb11 : Oper := { dst := none, op := Op.store 29 (Operand.tmp 13) (Operand.tmp 67), type := 0, pos := "law.go:70", after := #[{ on := 10, ground := Ground.data }, { on := 8, ground := Ground.data }, { on := 6, ground := Ground.chain }, { on := 0, ground := Ground.phase }, { on := 1, ground := Ground.phase }, { on := 2, ground := Ground.phase }, { on := 3, ground := Ground.phase }, { on := 4, ground := Ground.phase }, { on := 5, ground := Ground.phase }, { on := 6, ground := Ground.phase }, { on := 7, ground := Ground.phase }, { on := 8, ground := Ground.phase }, { on := 9, ground := Ground.textOnly Departure.lateStores }, { on := 10, ground := Ground.phase }], guard := none }
abbrev spb12 : Oper := { dst := some 14, op := Op.assign (Operand.tmp 68), type := 31, pos := "law.go:70", after := #[{ on := 9, ground := Ground.data }, { on := 11, ground := Ground.chain }, { on := 0, ground := Ground.phase }, { on := 1, ground := Ground.phase }, { on := 2, ground := Ground.phase }, { on := 3, ground := Ground.phase }, { on := 4, ground := Ground.phase }, { on := 5, ground := Ground.phase }, { on := 6, ground := Ground.phase }, { on := 7, ground := Ground.phase }, { on := 8, ground := Ground.phase }, { on := 9, ground := Ground.phase }, { on := 10, ground := Ground.phase }, { on := 11, ground := Ground.phase }], guard := none }
theorem cut_nat (cut : Int) (n : Nat) : ∃ k : Nat, (IntKind.u64.wrap cut).tmod ((n : Int) + 1) = (k : Int) ∧ k ≤ n := by
  have h0 : 0 ≤ IntKind.u64.wrap cut := by rw [IntKind.wrap_u64]; omega
  have h1 := Int.tmod_nonneg ((n : Int) + 1) h0
  have h2 := Int.tmod_lt_of_pos (IntKind.u64.wrap cut) (show (0 : Int) < (n : Int) + 1 by omega)
  exact ⟨((IntKind.u64.wrap cut).tmod ((n : Int) + 1)).toNat, by omega, by omega⟩
/-- A row's beginning. -/
theorem ev_pre {w : World} {ao : Option Addr} {n k : Nat} {es : List Ev} (h : EvIn [] w ao n es) (hk : k ≤ n) : EvIn [] w ao k (es.take k) := by
  obtain ⟨h1, h2, h3⟩ := h
  refine ⟨by rw [List.length_take]; omega, ?_, by omega⟩
  rcases h2 with c | ⟨b, off, e1, e2, e3, e4⟩
  · exact .inl (by omega)
  · exact .inr ⟨b, off, e1, evAt_take e2 k, e3, e4⟩
theorem st_merge {Φ : Nat → Sv → World → Prop} {G : Prop} {K : Nat → Sv → World → Prop} (h1 : (∀ p h V, Φ p h V → K p h V) → G) (h2 : ∀ p h V, Φ p h V → K p h V) : G := h1 h2
theorem stp_next {w W : World} {c : Cf} {hs ht hu : Sv} {S T U : St} {b1 b2 p : Nat} (q : At w (OB [(w.heap.size, cfC c, TCf), (b1, stC hs S, TSt), (b2, stC ht T, TSt), (p, stC hu U, TSt)] (STS [(hu, U), (ht, T), (hs, S)] emp)) W) :
    At w (OB [(w.heap.size, cfC c, TCf), (b1, stC hs S, TSt), (b2, stC hu U, TSt)] (STS [(hu, U), (hs, S)] emp)) (((((((W.setCell ⟨b2, 0, none⟩ (.int .i64 U.b)).setCell ⟨b2, 1, none⟩ (.int .i64 U.e)).setCell ⟨b2, 2, none⟩ (.int .i64 U.n)).setCell ⟨b2, 3, none⟩ (.slice hu.u U.us.length hu.uc)).setCell ⟨b2, 4, none⟩ (.slice hu.s U.ss.length hu.sc)).setCell ⟨b2, 5, none⟩ (.slice hu.p U.ad.length hu.pc)).setCell ⟨b2, 6, none⟩ (.slice hu.i U.sp.length hu.ic)) := by
  have h1 := OB.put7 (STS.good emp_good) q (i := 2) rfl (.int .i64 U.b) (.int .i64 U.e) (.int .i64 U.n) (.slice hu.u U.us.length hu.uc) (.slice hu.s U.ss.length hu.sc) (.slice hu.p U.ad.length hu.pc) (.slice hu.i U.sp.length hu.ic)
  exact STS.drop 1 rfl (OB.drop 3 rfl h1)
end Go.Proofs.YtopkcaflmpjhgaaGreat
