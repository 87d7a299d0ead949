
/- Put together: Str7, Str8. Conditions: each theorem's own. -/
import Derived.Test.YtopkcaflmpjhgaaBsa
import Derived.Test.YtopkcaflmpjhgaaBsp
namespace Go.Proofs.Ytopkcaflmpjhgaa
open Go Go.RowKit

/-- What lies behind a state's rows, to the front. -/
theorem st_out (h : Sv) (s : St) (A C : Ass) : (StA h s (A.star C)).imp (A.star (StA h s C)) :=
  (((((Ass.imp.swap _ A C).under _).under _).under _)).trans (((((Ass.imp.swap _ A _).under _).under _)).trans ((((Ass.imp.swap _ A _).under _)).trans (Ass.imp.swap _ A _)))
theorem st_in (h : Sv) (s : St) (A C : Ass) : (A.star (StA h s C)).imp (StA h s (A.star C)) :=
  (Ass.imp.swap A _ _).trans (((Ass.imp.swap A _ _).under _).trans ((((Ass.imp.swap A _ _).under _).under _).trans ((((Ass.imp.swap A _ C).under _).under _).under _)))
theorem st_drop1 {w0 w : World} {h : Sv} {s : St} {A C : Ass} (q : At w0 (StA h s (A.star C)) w) : At w0 (StA h s C) w := (q.imp (st_out h s A C)).drop
theorem mv_pa (N U S P I C : Ass) : (N.star (U.star (S.star (P.star (I.star C))))).imp (U.star (S.star (N.star (I.star (P.star C))))) :=
  (Ass.imp.swap N U _).trans (((Ass.imp.swap N S _).under U).trans ((((Ass.imp.swap P I C).under N).under S).under U))
theorem mv_se (N U S P I C : Ass) : (N.star (U.star (S.star (P.star (I.star C))))).imp (U.star (N.star (P.star (I.star (S.star C))))) :=
  (Ass.imp.swap N U _).trans ((((Ass.imp.swap S P _).trans ((Ass.imp.swap S I C).under P)).under N).under U)
theorem mv_us (N U S P I C : Ass) : (N.star (U.star (S.star (P.star (I.star C))))).imp (N.star (S.star (P.star (I.star (U.star C))))) :=
  (((Ass.imp.swap U S _).trans (((Ass.imp.swap U P _).trans ((Ass.imp.swap U I C).under P)).under S))).under N
/-- A new row of addresses takes the old one's place, which goes behind; likewise a row of sessions. -/
theorem st_newPa {h : Sv} {s : St} {C : Ass} {a : Option Addr} {c n : Nat} {ad : List Pa} (hn : ad.length = n) :
    ((rowE TPa 3 (.slice a n c) n (paCells ad)).star (StA h s C)).imp (StA { h with p := a, pc := c } { s with ad := ad } ((rowE TPa 3 (.slice h.p s.ad.length h.pc) s.ad.length (paCells s.ad)).star C)) := by
  subst hn
  exact mv_pa _ _ _ _ _ _
theorem st_newSe {h : Sv} {s : St} {C : Ass} {a : Option Addr} {c n : Nat} {ss : List Se} (hn : ss.length = n) :
    ((rowE TSe 4 (.slice a n c) n (seCells ss)).star (StA h s C)).imp (StA { h with s := a, sc := c } { s with ss := ss } ((rowE TSe 4 (.slice h.s s.ss.length h.sc) s.ss.length (seCells s.ss)).star C)) := by
  subst hn
  exact mv_se _ _ _ _ _ _
theorem drop5 {w0 w : World} {U S P I A C : Ass} (q : At w0 (U.star (S.star (P.star (I.star (A.star C))))) w) : At w0 (U.star (S.star (P.star (I.star C)))) w :=
  (q.imp ((((((Ass.imp.swap I A C).under P).under S).under U)).trans (((((Ass.imp.swap P A _).under S).under U)).trans ((((Ass.imp.swap S A _).under U)).trans (Ass.imp.swap U A _))))).drop
theorem seAt_nil {w : World} {g : Nat} : SeAt w g 0 [] := fun i u hu => by simp [seCells] at hu
/-- A session's cells in a row of one's own. -/
theorem seEl {w0 w : World} {C : Ass} {g n cap : Nat} {es : List Se} (h : At w0 ((rowE TSe 4 (.slice (some ⟨g, 0, Option.none⟩) n cap) es.length (seCells es)).star C) w) {k : Nat} (hk : k < es.length) {x : Se} (hx : es.getD k Se.none = x) :
    w.cell? ⟨g, k * 4, Option.none⟩ = some (.int .i64 x.s) ∧ w.cell? ⟨g, k * 4 + 1, Option.none⟩ = some (.int .i64 x.u) ∧ w.cell? ⟨g, k * 4 + 2, Option.none⟩ = some (.int .i64 x.a) ∧ w.cell? ⟨g, k * 4 + 3, Option.none⟩ = some (.int .i64 x.t) := by
  subst hx
  obtain ⟨h1, h2⟩ := seAt_row h
  have h3 := h1.elem hk
  simpa only [Nat.zero_add] using h3
/-- The first k of a row, handed on. -/
theorem seIn_take {w : World} {g n : Nat} {es : List Se} (h : SeIn [] w (some ⟨g, 0, Option.none⟩) n es) {k : Nat} (hk : k < es.length) : SeIn [] w (some ⟨g, 0, Option.none⟩) k (es.take k) := by
  have hl : k = (es.take k).length := by rw [List.length_take]; omega
  refine ⟨hl, ?_, by have := h.few; have := h.len; omega⟩
  rcases h.row with c | ⟨b, off, e, h1, h2, h3⟩
  · have := h.len; omega
  · exact .inr ⟨b, off, e, seAt_take h1 k, h2, h3⟩
end Go.Proofs.Ytopkcaflmpjhgaa

namespace Go.Proofs.Ytopkcaflmpjhgaa
open Go Go.RowKit

abbrev bor0 : Oper := { dst := some 32, op := Op.fieldAddr 32 (Operand.tmp 4) 5, type := 0, pos := "ref.go:117", after := #[], guard := none }
abbrev bor1 : Oper := { dst := some 33, op := Op.load 29 (Operand.tmp 32), type := 29, pos := "ref.go:117", after := #[{ on := 0, ground := Ground.data }], guard := none }
abbrev bor2 : Oper := { dst := some 34, op := Op.fieldAddr 32 (Operand.tmp 4) 4, type := 0, pos := "ref.go:117", after := #[], guard := none }
abbrev bor3 : Oper := { dst := some 35, op := Op.load 28 (Operand.tmp 34), type := 28, pos := "ref.go:117", after := #[{ on := 2, ground := Ground.data }], guard := none }
abbrev bor4 : Oper := { dst := some 36, op := Op.move (Operand.tmp 8), type := 3, pos := "ref.go:117", after := #[], guard := none }
abbrev bor5 : Oper := { dst := some 37, op := Op.indexAddr 28 (Operand.tmp 35) (Operand.tmp 36), type := 0, pos := "ref.go:117", after := #[{ on := 3, ground := Ground.data }, { on := 4, ground := Ground.data }], guard := none }
abbrev bor6 : Oper := { dst := some 38, op := Op.fieldAddr 54 (Operand.tmp 37) 2, type := 0, pos := "ref.go:117", after := #[{ on := 5, ground := Ground.data }], guard := none }
abbrev bor7 : Oper := { dst := some 39, op := Op.load 3 (Operand.tmp 38), type := 3, pos := "ref.go:117", after := #[{ on := 6, ground := Ground.data }], guard := none }
abbrev bor8 : Oper := { dst := some 40, op := Op.fieldAddr 40 (Operand.tmp 5) 7, type := 0, pos := "ref.go:117", after := #[], guard := none }
abbrev bor9 : Oper := { dst := some 41, op := Op.load 3 (Operand.tmp 40), type := 3, pos := "ref.go:117", after := #[{ on := 8, ground := Ground.data }], guard := none }
abbrev bor10 : Oper := { dst := some 42, op := Op.fieldAddr 23 (Operand.tmp 3) 9, type := 0, pos := "ref.go:117", after := #[], guard := none }
abbrev bor11 : Oper := { dst := some 43, op := Op.load 3 (Operand.tmp 42), type := 3, pos := "ref.go:117", after := #[{ on := 10, ground := Ground.data }], guard := none }
abbrev bor12 : Oper := { dst := some 44, op := Op.binOp BinOp.add 3 (Operand.tmp 41) (Operand.tmp 43) 3, type := 3, pos := "ref.go:117", after := #[{ on := 9, ground := Ground.data }, { on := 11, ground := Ground.data }], guard := none }
abbrev bor15 : Oper := { dst := some 46, op := Op.extract (Operand.tmp 31) 0, type := 29, pos := "ref.go:117", after := #[{ on := 14, ground := Ground.data }], guard := none }
abbrev bor16 : Oper := { dst := some 47, op := Op.extract (Operand.tmp 31) 1, type := 3, pos := "ref.go:117", after := #[{ on := 14, ground := Ground.data }, { on := 17, ground := Ground.gcOnly Departure.lateStores }], guard := none }
abbrev bor17 : Oper := { dst := some 9, op := Op.assign (Operand.tmp 46), type := 29, pos := "ref.go:117", after := #[{ on := 15, ground := Ground.data }, { on := 13, ground := Ground.chain }, { on := 0, ground := Ground.phase }, { on := 1, ground := Ground.phase }, { on := 2, ground := Ground.phase }, { on := 3, ground := Ground.phase }, { on := 4, ground := Ground.phase }, { on := 5, ground := Ground.phase }, { on := 6, ground := Ground.phase }, { on := 7, ground := Ground.phase }, { on := 8, ground := Ground.phase }, { on := 9, ground := Ground.phase }, { on := 10, ground := Ground.phase }, { on := 11, ground := Ground.phase }, { on := 12, ground := Ground.phase }, { on := 13, ground := Ground.phase }, { on := 14, ground := Ground.phase }, { on := 15, ground := Ground.phase }, { on := 16, ground := Ground.textOnly Departure.lateStores }], guard := none }
abbrev bor18 : Oper := { dst := some 10, op := Op.assign (Operand.tmp 47), type := 3, pos := "ref.go:117", after := #[{ on := 16, ground := Ground.data }, { on := 17, ground := Ground.chain }, { on := 0, ground := Ground.phase }, { on := 1, ground := Ground.phase }, { on := 2, ground := Ground.phase }, { on := 3, ground := Ground.phase }, { on := 4, ground := Ground.phase }, { on := 5, ground := Ground.phase }, { on := 6, ground := Ground.phase }, { on := 7, ground := Ground.phase }, { on := 8, ground := Ground.phase }, { on := 9, ground := Ground.phase }, { on := 10, ground := Ground.phase }, { on := 11, ground := Ground.phase }, { on := 12, ground := Ground.phase }, { on := 13, ground := Ground.phase }, { on := 14, ground := Ground.phase }, { on := 15, ground := Ground.phase }, { on := 16, ground := Ground.phase }, { on := 17, ground := Ground.phase }], guard := none }
theorem OB.stDrop1 {w0 w : World} {l : List Ob} {h : Sv} {s : St} {A C : Ass} (q : At w0 (OB l (StA h s (A.star C))) w) : At w0 (OB l (StA h s C)) w := (q.imp ((OB.under (st_out h s A C)).trans (OB.up _ _ _))).drop
/-- The walk's memory. -/
def BoS (w0 w : World) (c : Cf) (s : St) (C : Ass) (E : Ev) (hu : Option Addr) (huc : Nat) (hs : Option Addr) (hsc : Nat) (hi : Option Addr) (hic : Nat) (a : Option Addr) (cc : Nat) (ad : List Pa) (Z : World) : Prop :=
  At w0 (OB [(w.heap.size, cfC c, TCf), (w.heap.size + 1, #[.int .i64 (s.b + 1), .int .i64 s.e, .int .i64 s.n, .slice hu s.us.length huc, .slice hs s.ss.length hsc, .slice a s.ad.length cc, .slice hi s.sp.length hic], TSt), (w.heap.size + 1 + 1, evA E, TEvt), (w.heap.size + 1 + 1 + 1, stZ, TSt)] (StA ⟨hu, huc, hs, hsc, a, cc, hi, hic⟩ { s with b := s.b + 1, ad := ad } C)) Z
theorem stFree_step {t : Int} {ss : List Se} {k : Nat} (hk : k < ss.length) {x : Se} (hx : ss.getD k Se.none = x) (ad : List Pa) : stFreeAll t (ss.drop k) ad = if pfOk ad x.a t then stFreeAll t (ss.drop (k + 1)) (ad.set x.a.toNat ⟨false, (ad.getD x.a.toNat .none).l, t⟩) else none := by
  have e : ss.drop k = x :: ss.drop (k + 1) := by
    rw [List.drop_eq_getElem_cons hk, ← hx]; simp [List.getD, hk]
  rw [e, stFreeAll]
end Go.Proofs.Ytopkcaflmpjhgaa

