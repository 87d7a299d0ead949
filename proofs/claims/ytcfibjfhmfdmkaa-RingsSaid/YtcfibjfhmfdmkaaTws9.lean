
/- The law's sameBooks answers true of a book and a reference's book with the same terms. No other condition. -/
import Derived.Test.YtcfibjfhmfdmkaaDoes
namespace Go.Proofs.Ytcfibjfhmfdmkaa
open Go Go.RowKit Go.Maps

theorem tmS_in {ts : List ByteArray} {k : Nat} (h : k < ts.length) : tmS ts ((k : Nat) : Int) = ts.getD k ⟨#[]⟩ := by rw [tmS, if_pos (by omega)]; rfl
theorem tmE_in {ts : List ByteArray} {k : Nat} (h : k < ts.length) : tmE ts ((k : Nat) : Int) = 0 := by rw [tmE, if_pos (by omega)]

end Go.Proofs.Ytcfibjfhmfdmkaa
