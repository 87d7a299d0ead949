
/- Put together: Str5, Str6. Conditions: each theorem's own. -/
import Derived.Test.YtopkcaflmpjhgaaStr2
import Derived.Test.YtopkcaflmpjhgaaStr4
import Derived.Test.YtopkcaflmpjhgaaBpr
import Derived.Test.YtopkcaflmpjhgaaBsp
namespace Go.Proofs.Ytopkcaflmpjhgaa
open Go Go.RowKit

abbrev TEvt : TypeId := 40
/-- A new row is laid in front. -/
theorem pa_front {w0 w w' : World} {C : Ass} (hC : C.Good) (hS : At w0 C w) {v : Value} {n : Nat} {xs : List Value} (h : At w ((rowE TPa 3 v n xs).star emp) w') : At w0 ((rowE TPa 3 v n xs).star C) w' :=
  ((At.add hC hS (pa_made h)).imp (star_assoc _ _ _)).imp ((emp_left C).under _)
/-- A pool's answer, its length told. -/
def PaOn (w : World) (es : List Pa) (n : Nat) (x : Int) (e : Ending) (w' : World) : Prop := ∃ a2 c2, e = .returned (.tuple #[.slice a2 n c2, .int .i64 x]) ∧ At w ((rowE TPa 3 (.slice a2 n c2) n (paCells es)).star emp) w'
theorem PaOut.on {w : World} {es : List Pa} {x : Int} {n : Nat} (hn : es.length = n) {e : Ending} {w' : World} (h : PaOut w es x e w') : PaOn w es n x e w' := by
  subst hn
  exact h
theorem ixN_neg {o : Option Nat} : ixN o < 0 ↔ o = none := by
  cases o with
  | none => simp [ixN]
  | some k => simp [ixN]
/-- Under blocks: the first row and the second change places. -/
theorem OB.swap (l : List Ob) (A B R : Ass) : (OB l (A.star (B.star R))).imp (OB l (B.star (A.star R))) := OB.under (Ass.imp.swap A B R)
theorem OB.stIn {w0 w W : World} {l : List Ob} {h : Sv} {s : St} {C : Ass} (q : At w0 (OB l (StA h s C)) W) (hi : StIn w h s) : StIn W h s := At.stIn (OB.rest q) hi.fu hi.fs hi.fa hi.fi
theorem pt_yes {es : List Pa} {k x : Int} (h : ptOk es k x = true) : ptL es k x = es.set k.toNat ⟨true, x, 0⟩ ∧ ptE es k x = 0 := by unfold ptL ptE; rw [h]; exact ⟨rfl, rfl⟩
theorem pt_no {es : List Pa} {k x : Int} (h : ptOk es k x = false) : ptL es k x = [] ∧ ptE es k x = 1600 := by unfold ptL ptE; rw [h]; exact ⟨rfl, rfl⟩
theorem pf_yes {es : List Pa} {k n : Int} (h : pfOk es k n = true) : pfL es k n = es.set k.toNat ⟨false, (es.getD k.toNat .none).l, n⟩ ∧ pfE es k n = 0 := by unfold pfL pfE; rw [h]; exact ⟨rfl, rfl⟩
theorem pf_no {es : List Pa} {k n : Int} (h : pfOk es k n = false) : pfL es k n = [] ∧ pfE es k n = 1600 := by unfold pfL pfE; rw [h]; exact ⟨rfl, rfl⟩
end Go.Proofs.Ytopkcaflmpjhgaa

namespace Go.Proofs.Ytopkcaflmpjhgaa
open Go Go.RowKit

abbrev adr0 : Oper := { dst := some 32, op := Op.move (Operand.tmp 8), type := 4, pos := "ref.go:136", after := #[], guard := none }
abbrev adr1 : Oper := { dst := some 33, op := Op.unOp UnOp.not 4 (Operand.tmp 32), type := 4, pos := "ref.go:136", after := #[{ on := 0, ground := Ground.data }], guard := none }
abbrev adr2 : Oper := { dst := some 34, op := Op.move (Operand.tmp 33), type := 4, pos := "ref.go:136", after := #[{ on := 1, ground := Ground.data }], guard := none }
abbrev adr3 : Oper := { dst := some 35, op := Op.fieldAddr 32 (Operand.tmp 2) 3, type := 0, pos := "ref.go:136", after := #[{ on := 2, ground := Ground.guard }], guard := some (2, true) }
abbrev adr4 : Oper := { dst := some 36, op := Op.load 27 (Operand.tmp 35), type := 27, pos := "ref.go:136", after := #[{ on := 3, ground := Ground.data }, { on := 2, ground := Ground.guard }], guard := some (2, true) }
abbrev adr5 : Oper := { dst := some 37, op := Op.move (Operand.tmp 9), type := 3, pos := "ref.go:136", after := #[{ on := 2, ground := Ground.guard }], guard := some (2, true) }
abbrev adr6 : Oper := { dst := some 38, op := Op.indexAddr 27 (Operand.tmp 36) (Operand.tmp 37), type := 0, pos := "ref.go:136", after := #[{ on := 4, ground := Ground.data }, { on := 5, ground := Ground.data }, { on := 2, ground := Ground.guard }], guard := some (2, true) }
abbrev adr7 : Oper := { dst := some 39, op := Op.fieldAddr 49 (Operand.tmp 38) 0, type := 0, pos := "ref.go:136", after := #[{ on := 6, ground := Ground.data }, { on := 2, ground := Ground.guard }], guard := some (2, true) }
abbrev adr8 : Oper := { dst := some 40, op := Op.load 3 (Operand.tmp 39), type := 3, pos := "ref.go:136", after := #[{ on := 7, ground := Ground.data }, { on := 2, ground := Ground.guard }], guard := some (2, true) }
abbrev adr9 : Oper := { dst := some 41, op := Op.fieldAddr 40 (Operand.tmp 3) 1, type := 0, pos := "ref.go:136", after := #[{ on := 2, ground := Ground.guard }], guard := some (2, true) }
abbrev adr10 : Oper := { dst := some 42, op := Op.load 3 (Operand.tmp 41), type := 3, pos := "ref.go:136", after := #[{ on := 9, ground := Ground.data }, { on := 2, ground := Ground.guard }], guard := some (2, true) }
abbrev adr11 : Oper := { dst := some 43, op := Op.binOp BinOp.gtr 3 (Operand.tmp 40) (Operand.tmp 42) 3, type := 4, pos := "ref.go:136", after := #[{ on := 8, ground := Ground.data }, { on := 10, ground := Ground.data }, { on := 2, ground := Ground.guard }], guard := some (2, true) }
abbrev adr12 : Oper := { dst := some 44, op := Op.pick (Operand.tmp 34) (Operand.tmp 43) (Operand.const (Value.bool false)), type := 4, pos := "ref.go:136", after := #[{ on := 2, ground := Ground.data }, { on := 11, ground := Ground.data }], guard := none }
theorem stAdd_none {u : Us} {L : List Us} (h : L.any (fun x => decide (u.u < x.u)) = false) : stAdd u L = L ++ [u] := by
  induction L with
  | nil => rfl
  | cons x r ih =>
    simp only [List.any_cons, Bool.or_eq_false_iff, decide_eq_false_iff_not] at h
    rw [stAdd, if_neg h.1, ih h.2]
    rfl
theorem stAdd_some {u : Us} {L : List Us} (h : L.any (fun x => decide (u.u < x.u)) = true) (y : Us) : stAdd u (L ++ [y]) = stAdd u L ++ [y] := by
  induction L with
  | nil => cases h
  | cons x r ih =>
    by_cases c : u.u < x.u
    · rw [List.cons_append, stAdd, if_pos c, stAdd, if_pos c]; rfl
    · rw [List.any_cons, decide_eq_false c, Bool.false_or] at h
      rw [List.cons_append, stAdd, if_neg c, stAdd, if_neg c, ih h]; rfl
theorem stAdd_new {u : Us} {L : List Us} (h : L.any (fun x => decide (u.u < x.u)) = false) {y : Us} (hy : u.u < y.u) : stAdd u (L ++ [y]) = (L ++ [u]) ++ [y] := by
  induction L with
  | nil => rw [List.nil_append, stAdd, if_pos hy]; rfl
  | cons x r ih =>
    simp only [List.any_cons, Bool.or_eq_false_iff, decide_eq_false_iff_not] at h
    rw [List.cons_append, stAdd, if_neg h.1, ih h.2]
    rfl
/-- What has been laid down. -/
def adL (u : Us) (p : Bool) (L : List Us) : List Us := if p then stAdd u L else L
theorem adL_len (u : Us) (p : Bool) (L : List Us) : (adL u p L).length ≤ L.length + 1 := by
  unfold adL; split
  · rw [stAdd_len]; exact Nat.le_refl _
  · omega
/-- The walk's memory. -/
def AdS (w0 w : World) (p : Nat) (h : Sv) (s : St) (C : Ass) (E : Ev) (a : Option Addr) (n c : Nat) (L : List Us) (W : World) : Prop :=
  At w0 ((rowE TUs 9 (.slice a n c) L.length (usCells L)).star (OB [(w.heap.size, stC h s, TSt), (w.heap.size + 1, evA E, TEvt), (w.heap.size + 1 + 1, stZ, TSt), (p, #[.int .i64 E.user, .int .i64 E.a, .int .i64 E.b, .int .i64 E.c, .int .i64 0, .int .i64 0, .int .i64 0, .int .i64 0, .int .i64 0], TUs)] (StA h s C))) W
section
variable {w0 w W W' : World} {p : Nat} {h : Sv} {s : St} {C : Ass} {E : Ev} {a : Option Addr} {n c : Nat} {L : List Us}
theorem AdS.ob (q : AdS w0 w p h s C E a n c L W) : At w0 (OB [(w.heap.size, stC h s, TSt), (w.heap.size + 1, evA E, TEvt), (w.heap.size + 1 + 1, stZ, TSt), (p, #[.int .i64 E.user, .int .i64 E.a, .int .i64 E.b, .int .i64 E.c, .int .i64 0, .int .i64 0, .int .i64 0, .int .i64 0, .int .i64 0], TUs)] (StA h s C)) W := At.drop q
theorem AdS.lay (hC : C.Good) (q : AdS w0 w p h s C E a n c L W) (hb : Below W.heap.size W W') : AdS w0 w p h s C E a n c L W' := At.lay ((rowE_good _ _ _ _ _).star (OB.good (StA_good hC))) q hb
end
theorem us_el2 {w : World} {b off n : Nat} {es : List Us} (h : UsIn [] w (some ⟨b, off, Option.none⟩) n es) {k : Nat} (hk : k < n) {x : Us} (hx : es.getD k Us.none = x) : w.cell? ⟨b, off + k * 9, Option.none⟩ = some (.int .i64 x.u) ∧ w.cell? ⟨b, off + k * 9 + 1, Option.none⟩ = some (.int .i64 x.k) ∧ w.cell? ⟨b, off + k * 9 + 2, Option.none⟩ = some (.int .i64 x.s) ∧ w.cell? ⟨b, off + k * 9 + 3, Option.none⟩ = some (.int .i64 x.q) ∧ w.cell? ⟨b, off + k * 9 + 4, Option.none⟩ = some (.int .i64 x.used) ∧ w.cell? ⟨b, off + k * 9 + 5, Option.none⟩ = some (.int .i64 x.lf) ∧ w.cell? ⟨b, off + k * 9 + 6, Option.none⟩ = some (.int .i64 x.lu) ∧ w.cell? ⟨b, off + k * 9 + 7, Option.none⟩ = some (.int .i64 x.st) ∧ w.cell? ⟨b, off + k * 9 + 8, Option.none⟩ = some (.int .i64 x.g) := by
  obtain ⟨b', off', a, e, ha, hc⟩ := us_el h hk
  obtain ⟨rfl, rfl⟩ : b = b' ∧ off = off' := by simpa using e
  obtain rfl : x = a := hx.symm.trans ha
  exact hc w (Below.refl _ _)
theorem StIn.usOf {w w0 W : World} {l : List Ob} {h : Sv} {s : St} {C : Ass} (hi : StIn w h s) {b off : Nat} (hu : h.u = some ⟨b, off, Option.none⟩) (q : At w0 (OB l (StA h s C)) W) : UsIn [] W (some ⟨b, off, Option.none⟩) s.us.length s.us := by
  have := (OB.stIn q hi).us
  rwa [hu] at this
end Go.Proofs.Ytopkcaflmpjhgaa

