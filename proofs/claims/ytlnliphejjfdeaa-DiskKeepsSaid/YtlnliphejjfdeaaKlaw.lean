/- The statements' own helpers over package disk: sectorOf. Condition: the text's size. -/
import Derived.Test.YtlnliphejjfdeaaKref3
import Derived.Test.YtlnliphejjfdeaaKref2
namespace Go.Proofs.Ytlnliphejjfdeaa
open Go Go.RowKit

/-- A text, cut or filled. -/
def secOf (s : ByteArray) : ByteArray := (s ++ zer64).extract 0 64
theorem secOf_size (s : ByteArray) : (secOf s).size = 64 := by
  unfold secOf
  rw [ByteArray.size_extract, ByteArray.size_append, show zer64.size = 64 from rfl]
  omega
theorem lsector (s : ByteArray) (w : World) (hs : s.size ≤ 9223372036854770000) : Calls Try.prog 11 #[.string s] w fun e w' => e = .returned (.string (secOf s)) ∧ Below w.heap.size w w' := by
  have hmk := z_made
  have hcv := z_conv
  have hz : zer64.size = 64 := rfl
  have hq : (s ++ zer64).size = s.size + 64 := by rw [ByteArray.size_append, hz]
  have h1 : ¬ 9223372036854775807 < s.size + 64 := by omega
  unfold secOf
  go_enter Try.func11, Try.ntmps11
  go_wp2
  go_ret
  exact ⟨rfl, (Below.refl _ _).alloc (Nat.le_refl _) _⟩
end Go.Proofs.Ytlnliphejjfdeaa
