/- Package parts: Get, its count of places as a number. Conditions: the text's size, the place's, and errors.errorType holds the handle of the type error. -/
import Derived.Test.YtodngcpphnmphaaDoorParts3
namespace Go.Proofs.YtodngcpphnmphaaDoor
open Go Go.RowKit

theorem pGetN_no (s : ByteArray) (U n : Nat) (N a0 : Int) (w : World) (hn : n ≤ 32) (hN : N = (n : Int)) (hs : s.size ≤ 9223372036854770000) (h0 : 0 ≤ a0) (h1 : a0 ≤ s.size) (h : stP s U a0 n = none) (hg : Gd w) :
    Calls Tryd.prog 29 #[.int .u64 U, .string s, .int .i64 a0, .int .i64 N] w fun e w' => ∃ er : Int, (er != 0) = true ∧ e = .returned (.tuple #[.slice none 0 0, .int .i64 0, .int .i64 er]) ∧ Below w.heap.size w w' := by
  subst hN; exact pGet_no s U n a0 w hn hs h0 h1 h hg
theorem pGetN_yes (s : ByteArray) (U n : Nat) (N a0 : Int) (r : Nat → Int) (a : Int) (w : World) (hn : n ≤ 32) (hN : N = (n : Int)) (hs : s.size ≤ 9223372036854770000) (h0 : 0 ≤ a0) (h1 : a0 ≤ s.size) (h : stP s U a0 n = some (r, a)) (hg : Gd w) :
    Calls Tryd.prog 29 #[.int .u64 U, .string s, .int .i64 a0, .int .i64 N] w fun e w' => ∃ b, e = .returned (.tuple #[.slice (some ⟨b, 0, none⟩) n n, .int .i64 a, .int .i64 0]) ∧ Below w.heap.size w w' ∧ w.heap.size ≤ b ∧ Blk w' b (arrN n r) := by
  subst hN; exact pGet_yes s U n a0 r a w hn hs h0 h1 h hg
end Go.Proofs.YtodngcpphnmphaaDoor
