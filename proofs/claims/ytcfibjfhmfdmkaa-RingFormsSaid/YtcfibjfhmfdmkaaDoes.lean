
/- The books' calls as contracts on assertions. No condition. -/
import Derived.Test.YtcfibjfhmfdmkaaLnum
import Derived.Test.YtcfibjfhmfdmkaaSep2
import Derived.Test.YtcfibjfhmfdmkaaBref
namespace Go.Proofs.Ytcfibjfhmfdmkaa
open Go Go.RowKit Go.Maps

abbrev pt (p : Nat) : Value := .pointer (some ⟨p, 0, none⟩)
theorem dname (p : Nat) (most : Int) (ts : List ByteArray) (t : ByteArray) (ht : t.size ≤ maxLen) : Does Try.prog (bookA p most ts) 15 #[.pointer (some ⟨p, 0, none⟩), .string t] (.returned (.tuple #[.int .i64 (nmX most ts t), .int .i64 (nmE most ts t)])) (bookA p most (nmT most ts t)) :=
  fun w F h => bname p most ts t w F h ht
theorem dterm (p : Nat) (most : Int) (ts : List ByteArray) (n : Int) : Does Try.prog (bookA p most ts) 24 #[.pointer (some ⟨p, 0, none⟩), .int .i64 n] (.returned (.tuple #[.string (tmS ts n), .int .i64 (tmE ts n)])) (bookA p most ts) := by
  intro w F h
  refine (bterm p most ts n w F h).mono ?_
  rintro e w' ⟨he, hb⟩
  exact ⟨he, Becomes.same (bookA_good _ _ _) h hb⟩
theorem dlen (p : Nat) (most : Int) (ts : List ByteArray) : Does Try.prog (bookA p most ts) 23 #[.pointer (some ⟨p, 0, none⟩)] (.returned (.int .i64 ((ts.length : Nat) : Int))) (bookA p most ts) := by
  intro w F h
  refine (blen p most ts w F h).mono ?_
  rintro e w' ⟨he, rfl⟩
  exact ⟨he, Becomes.same (bookA_good _ _ _) h (Below.refl _ _)⟩
theorem drname (p : Nat) (most : Int) (ts : List ByteArray) (t : ByteArray) (ht : t.size ≤ maxLen) : Does Try.prog (refA p most ts) 16 #[.pointer (some ⟨p, 0, none⟩), .string t] (.returned (.tuple #[.int .i64 (nmX most ts t), .int .i64 (nmE most ts t)])) (refA p most (nmT most ts t)) :=
  fun w F h => rname p most ts t w F h ht
theorem drfind (p : Nat) (most : Int) (ts : List ByteArray) (t : ByteArray) : Does Try.prog (refA p most ts) 26 #[.pointer (some ⟨p, 0, none⟩), .string t] (.returned (.tuple #[.int .i64 (fnd ts t), .bool (isB ts t)])) (refA p most ts) := by
  intro w F h
  refine (rfind p most ts t w F h).mono ?_
  rintro e w' ⟨he, rfl⟩
  exact ⟨he, Becomes.same (refA_good _ _ _) h (Below.refl _ _)⟩
end Go.Proofs.Ytcfibjfhmfdmkaa
