
/- Put together: Str12, Str13. Conditions: each theorem's own. -/
import Derived.Test.YtopkcaflmpjhgaaBsn
import Derived.Test.YtopkcaflmpjhgaaBrm
import Derived.Test.YtopkcaflmpjhgaaBsp
namespace Go.Proofs.Ytopkcaflmpjhgaa
open Go Go.RowKit

end Go.Proofs.Ytopkcaflmpjhgaa

namespace Go.Proofs.Ytopkcaflmpjhgaa
open Go Go.RowKit

abbrev apr0 : Oper := { dst := some 28, op := Op.load 23 (Operand.tmp 3), type := 23, pos := "ref.go:72", after := #[], guard := none }
abbrev apr1 : Oper := { dst := some 29, op := Op.load 32 (Operand.tmp 4), type := 32, pos := "ref.go:72", after := #[], guard := none }
abbrev apr3 : Oper := { dst := some 31, op := Op.load 40 (Operand.tmp 5), type := 40, pos := "ref.go:72", after := #[], guard := none }
abbrev apr5 : Oper := { dst := some 27, op := Op.move (Operand.tmp 32), type := 43, pos := "ref.go:72", after := #[{ on := 4, ground := Ground.data }], guard := none }
abbrev apr6 : Oper := { dst := some 33, op := Op.extract (Operand.tmp 27) 0, type := 32, pos := "ref.go:72", after := #[{ on := 5, ground := Ground.data }], guard := none }
abbrev apr7 : Oper := { dst := some 34, op := Op.extract (Operand.tmp 27) 1, type := 4, pos := "ref.go:72", after := #[{ on := 5, ground := Ground.data }, { on := 9, ground := Ground.gcOnly Departure.lateStores }], guard := none }
abbrev apr8 : Oper := { dst := some 8, op := Op.alloc 32, type := 0, pos := "ref.go:72", after := #[], guard := none }
abbrev apr9 : Oper := { dst := none, op := Op.store 32 (Operand.tmp 8) (Operand.tmp 33), type := 0, pos := "ref.go:72", after := #[{ on := 8, ground := Ground.data }, { on := 6, ground := Ground.data }, { on := 4, ground := Ground.chain }, { on := 0, ground := Ground.phase }, { on := 1, ground := Ground.phase }, { on := 2, ground := Ground.phase }, { on := 3, ground := Ground.phase }, { on := 4, ground := Ground.phase }, { on := 5, ground := Ground.phase }, { on := 6, ground := Ground.phase }, { on := 7, ground := Ground.textOnly Departure.lateStores }, { on := 8, ground := Ground.phase }], guard := none }
abbrev apr10 : Oper := { dst := some 9, op := Op.assign (Operand.tmp 34), type := 4, pos := "ref.go:72", after := #[{ on := 7, ground := Ground.data }, { on := 9, ground := Ground.chain }, { on := 0, ground := Ground.phase }, { on := 1, ground := Ground.phase }, { on := 2, ground := Ground.phase }, { on := 3, ground := Ground.phase }, { on := 4, ground := Ground.phase }, { on := 5, ground := Ground.phase }, { on := 6, ground := Ground.phase }, { on := 7, ground := Ground.phase }, { on := 8, ground := Ground.phase }, { on := 9, ground := Ground.phase }], guard := none }
/-- A state's block is written whole. -/
theorem OB.put7 {l : List Ob} {R : Ass} {w0 w : World} (hR : R.Good) (h : At w0 (OB l R) w) {i b : Nat} {T : TypeId} {z0 z1 z2 z3 z4 z5 z6 : Value} (hi : l[i]? = some (b, #[z0, z1, z2, z3, z4, z5, z6], T)) (v0 v1 v2 v3 v4 v5 v6 : Value) : At w0 (OB (l.set i (b, #[v0, v1, v2, v3, v4, v5, v6], T)) R) (((((((w.setCell ⟨b, 0, none⟩ v0).setCell ⟨b, 1, none⟩ v1).setCell ⟨b, 2, none⟩ v2).setCell ⟨b, 3, none⟩ v3).setCell ⟨b, 4, none⟩ v4).setCell ⟨b, 5, none⟩ v5).setCell ⟨b, 6, none⟩ v6) := by
  have h0 : At w0 ((ownA b #[z0, z1, z2, z3, z4, z5, z6] T).star (OB (l.eraseIdx i) R)) w := (h.imp (OB.pick R hi))
  have g := OB.good (l := l.eraseIdx i) hR
  have h1 : At w0 ((ownA b #[v0, z1, z2, z3, z4, z5, z6] T).star (OB (l.eraseIdx i) R)) (w.setCell ⟨b, 0, none⟩ v0) := h0.poke g 0 v0
  have h2 : At w0 ((ownA b #[v0, v1, z2, z3, z4, z5, z6] T).star (OB (l.eraseIdx i) R)) ((w.setCell ⟨b, 0, none⟩ v0).setCell ⟨b, 1, none⟩ v1) := h1.poke g 1 v1
  have h3 : At w0 ((ownA b #[v0, v1, v2, z3, z4, z5, z6] T).star (OB (l.eraseIdx i) R)) (((w.setCell ⟨b, 0, none⟩ v0).setCell ⟨b, 1, none⟩ v1).setCell ⟨b, 2, none⟩ v2) := h2.poke g 2 v2
  have h4 : At w0 ((ownA b #[v0, v1, v2, v3, z4, z5, z6] T).star (OB (l.eraseIdx i) R)) ((((w.setCell ⟨b, 0, none⟩ v0).setCell ⟨b, 1, none⟩ v1).setCell ⟨b, 2, none⟩ v2).setCell ⟨b, 3, none⟩ v3) := h3.poke g 3 v3
  have h5 : At w0 ((ownA b #[v0, v1, v2, v3, v4, z5, z6] T).star (OB (l.eraseIdx i) R)) (((((w.setCell ⟨b, 0, none⟩ v0).setCell ⟨b, 1, none⟩ v1).setCell ⟨b, 2, none⟩ v2).setCell ⟨b, 3, none⟩ v3).setCell ⟨b, 4, none⟩ v4) := h4.poke g 4 v4
  have h6 : At w0 ((ownA b #[v0, v1, v2, v3, v4, v5, z6] T).star (OB (l.eraseIdx i) R)) ((((((w.setCell ⟨b, 0, none⟩ v0).setCell ⟨b, 1, none⟩ v1).setCell ⟨b, 2, none⟩ v2).setCell ⟨b, 3, none⟩ v3).setCell ⟨b, 4, none⟩ v4).setCell ⟨b, 5, none⟩ v5) := h5.poke g 5 v5
  have h7 : At w0 ((ownA b #[v0, v1, v2, v3, v4, v5, v6] T).star (OB (l.eraseIdx i) R)) (((((((w.setCell ⟨b, 0, none⟩ v0).setCell ⟨b, 1, none⟩ v1).setCell ⟨b, 2, none⟩ v2).setCell ⟨b, 3, none⟩ v3).setCell ⟨b, 4, none⟩ v4).setCell ⟨b, 5, none⟩ v5).setCell ⟨b, 6, none⟩ v6) := h6.poke g 6 v6
  exact h7.imp (OB.put R (b, #[v0, v1, v2, v3, v4, v5, v6], T) hi)
end Go.Proofs.Ytopkcaflmpjhgaa

