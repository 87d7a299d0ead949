
/- The statements' own helpers over books: twin, sameBooks (chapter 9's). No condition. -/
import Derived.Test.YtcfibjfhmfdmkaaTws9
import Derived.Test.YtcfibjfhmfdmkaaSArg
namespace Go.Proofs.Ytcfibjfhmfdmkaa
open Go Go.RowKit Go.Maps

theorem At.made {A : Ass} {w w' : World} (h : At w A w') : Becomes [] A w w' := by
  obtain ⟨F, h1, h2, h3⟩ := h
  exact ⟨F, h1, Tn.ofBelow h3 [], fun k hk => .inr (h2 k hk)⟩

def NoneP (ss ts : List ByteArray) : Prop := ss = [] → ts = []
def TwinP (most : Int) (ss : List ByteArray) (w : World) (e : Ending) (w' : World) : Prop := ∃ (p q : Nat) (ts : List ByteArray), e = .returned (.tuple #[.pointer (some ⟨p, 0, none⟩), .pointer (some ⟨q, 0, none⟩)]) ∧ NoneP ss ts ∧ Becomes [] (two p q most ts) w w'

end Go.Proofs.Ytcfibjfhmfdmkaa
