/- The books' calls as contracts on assertions; and what the law's samples answer. No condition. -/
import Derived.Test.YtebmineddgpjjaaBref
namespace Go.Proofs.Ytebmineddgpjjaa
open Go Go.RowKit Go.Maps

abbrev pt (p : Nat) : Value := .pointer (some ⟨p, 0, none⟩)
theorem dname (p : Nat) (most : Int) (ts : List ByteArray) (t : ByteArray) (ht : t.size ≤ maxLen) : Does Try.prog (bookA p most ts) 13 #[.pointer (some ⟨p, 0, none⟩), .string t] (.returned (.tuple #[.int .i64 (nmX most ts t), .int .i64 (nmE most ts t)])) (bookA p most (nmT most ts t)) :=
  fun w F h => bname p most ts t w F h ht
theorem dfind (p : Nat) (most : Int) (ts : List ByteArray) (t : ByteArray) (ht : t.size ≤ maxLen) : Does Try.prog (bookA p most ts) 11 #[.pointer (some ⟨p, 0, none⟩), .string t] (.returned (.tuple #[.int .i64 (fnd ts t), .bool (isB ts t)])) (bookA p most ts) := by
  intro w F h
  refine (bfind p most ts t w F h ht).mono ?_
  rintro e w' ⟨he, rfl⟩
  exact ⟨he, Becomes.same (bookA_good _ _ _) h (Below.refl _ _)⟩
theorem dterm (p : Nat) (most : Int) (ts : List ByteArray) (n : Int) : Does Try.prog (bookA p most ts) 16 #[.pointer (some ⟨p, 0, none⟩), .int .i64 n] (.returned (.tuple #[.string (tmS ts n), .int .i64 (tmE ts n)])) (bookA p most ts) := by
  intro w F h
  refine (bterm p most ts n w F h).mono ?_
  rintro e w' ⟨he, hb⟩
  exact ⟨he, Becomes.same (bookA_good _ _ _) h hb⟩
theorem dlen (p : Nat) (most : Int) (ts : List ByteArray) : Does Try.prog (bookA p most ts) 18 #[.pointer (some ⟨p, 0, none⟩)] (.returned (.int .i64 ((ts.length : Nat) : Int))) (bookA p most ts) := by
  intro w F h
  refine (blen p most ts w F h).mono ?_
  rintro e w' ⟨he, rfl⟩
  exact ⟨he, Becomes.same (bookA_good _ _ _) h (Below.refl _ _)⟩
theorem drname (p : Nat) (most : Int) (ts : List ByteArray) (t : ByteArray) (ht : t.size ≤ maxLen) : Does Try.prog (refA p most ts) 14 #[.pointer (some ⟨p, 0, none⟩), .string t] (.returned (.tuple #[.int .i64 (nmX most ts t), .int .i64 (nmE most ts t)])) (refA p most (nmT most ts t)) :=
  fun w F h => rname p most ts t w F h ht
theorem drfind (p : Nat) (most : Int) (ts : List ByteArray) (t : ByteArray) : Does Try.prog (refA p most ts) 12 #[.pointer (some ⟨p, 0, none⟩), .string t] (.returned (.tuple #[.int .i64 (fnd ts t), .bool (isB ts t)])) (refA p most ts) := by
  intro w F h
  refine (rfind p most ts t w F h).mono ?_
  rintro e w' ⟨he, rfl⟩
  exact ⟨he, Becomes.same (refA_good _ _ _) h (Below.refl _ _)⟩
theorem drterm (p : Nat) (most : Int) (ts : List ByteArray) (n : Int) : Does Try.prog (refA p most ts) 17 #[.pointer (some ⟨p, 0, none⟩), .int .i64 n] (.returned (.tuple #[.string (tmS ts n), .int .i64 (tmE ts n)])) (refA p most ts) := by
  intro w F h
  refine (rbterm p most ts n w F h).mono ?_
  rintro e w' ⟨he, rfl⟩
  exact ⟨he, Becomes.same (refA_good _ _ _) h (Below.refl _ _)⟩

theorem Does.to {P : Program} {A A' A2 : Ass} {f : FuncId} {args : Array Value} {v v2 : Ending} (h : Does P A f args v A') (hv : v = v2) (hA : A' = A2) : Does P A f args v2 A2 := by subst hv; subst hA; exact h

theorem lnum (n : Int) (w : World) : Calls Try.prog 9 #[.int .i64 n] w fun e w' => e = .returned (.int .i64 n) ∧ w = w' := by
  go_enter Try.func9, Try.ntmps9
  go_wp2
  go_ret
  exact ⟨rfl, rfl⟩

/- The samples. -/
abbrev cP : ByteArray := ⟨#[112]⟩
abbrev cQ : ByteArray := ⟨#[113]⟩
theorem s1 (p : Nat) : Does Try.prog (bookA p 2 []) 13 #[.pointer (some ⟨p, 0, none⟩), .string ⟨#[112]⟩] (.returned (.tuple #[.int .i64 0, .int .i64 0])) (bookA p 2 [⟨#[112]⟩]) :=
  (dname p 2 [] ⟨#[112]⟩ (by decide)).to (by kernel_rfl) (by rw [show nmT 2 [] ⟨#[112]⟩ = [⟨#[112]⟩] by kernel_rfl])
theorem s2 (p : Nat) : Does Try.prog (bookA p 2 [⟨#[112]⟩]) 13 #[.pointer (some ⟨p, 0, none⟩), .string ⟨#[113]⟩] (.returned (.tuple #[.int .i64 1, .int .i64 0])) (bookA p 2 [⟨#[112]⟩, ⟨#[113]⟩]) :=
  (dname p 2 [⟨#[112]⟩] ⟨#[113]⟩ (by decide)).to (by kernel_rfl) (by rw [show nmT 2 [⟨#[112]⟩] ⟨#[113]⟩ = [⟨#[112]⟩, ⟨#[113]⟩] by kernel_rfl])
theorem s3 (p : Nat) : Does Try.prog (bookA p 2 [⟨#[112]⟩, ⟨#[113]⟩]) 13 #[.pointer (some ⟨p, 0, none⟩), .string ⟨#[112]⟩] (.returned (.tuple #[.int .i64 0, .int .i64 0])) (bookA p 2 [⟨#[112]⟩, ⟨#[113]⟩]) :=
  (dname p 2 [⟨#[112]⟩, ⟨#[113]⟩] ⟨#[112]⟩ (by decide)).to (by kernel_rfl) (by rw [show nmT 2 [⟨#[112]⟩, ⟨#[113]⟩] ⟨#[112]⟩ = [⟨#[112]⟩, ⟨#[113]⟩] by kernel_rfl])
theorem s4 (p : Nat) : Does Try.prog (bookA p 2 [⟨#[112]⟩, ⟨#[113]⟩]) 13 #[.pointer (some ⟨p, 0, none⟩), .string ⟨#[114]⟩] (.returned (.tuple #[.int .i64 0, .int .i64 201])) (bookA p 2 [⟨#[112]⟩, ⟨#[113]⟩]) :=
  (dname p 2 [⟨#[112]⟩, ⟨#[113]⟩] ⟨#[114]⟩ (by decide)).to (by kernel_rfl) (by rw [show nmT 2 [⟨#[112]⟩, ⟨#[113]⟩] ⟨#[114]⟩ = [⟨#[112]⟩, ⟨#[113]⟩] by kernel_rfl])
theorem s5 (p : Nat) : Does Try.prog (bookA p 2 [⟨#[112]⟩, ⟨#[113]⟩]) 13 #[.pointer (some ⟨p, 0, none⟩), .string ⟨#[]⟩] (.returned (.tuple #[.int .i64 0, .int .i64 200])) (bookA p 2 [⟨#[112]⟩, ⟨#[113]⟩]) :=
  (dname p 2 [⟨#[112]⟩, ⟨#[113]⟩] ⟨#[]⟩ (by decide)).to (by kernel_rfl) (by rw [show nmT 2 [⟨#[112]⟩, ⟨#[113]⟩] ⟨#[]⟩ = [⟨#[112]⟩, ⟨#[113]⟩] by kernel_rfl])
theorem s6 (p : Nat) : Does Try.prog (bookA p 2 [⟨#[112]⟩, ⟨#[113]⟩]) 11 #[.pointer (some ⟨p, 0, none⟩), .string ⟨#[113]⟩] (.returned (.tuple #[.int .i64 1, .bool true])) (bookA p 2 [⟨#[112]⟩, ⟨#[113]⟩]) :=
  (dfind p 2 [⟨#[112]⟩, ⟨#[113]⟩] ⟨#[113]⟩ (by decide)).to (by kernel_rfl) rfl
theorem s7 (p : Nat) : Does Try.prog (bookA p 2 [⟨#[112]⟩, ⟨#[113]⟩]) 11 #[.pointer (some ⟨p, 0, none⟩), .string ⟨#[114]⟩] (.returned (.tuple #[.int .i64 0, .bool false])) (bookA p 2 [⟨#[112]⟩, ⟨#[113]⟩]) :=
  (dfind p 2 [⟨#[112]⟩, ⟨#[113]⟩] ⟨#[114]⟩ (by decide)).to (by kernel_rfl) rfl
theorem s8 (p : Nat) : Does Try.prog (bookA p 2 [⟨#[112]⟩, ⟨#[113]⟩]) 16 #[.pointer (some ⟨p, 0, none⟩), .int .i64 1] (.returned (.tuple #[.string ⟨#[113]⟩, .int .i64 0])) (bookA p 2 [⟨#[112]⟩, ⟨#[113]⟩]) :=
  (dterm p 2 [⟨#[112]⟩, ⟨#[113]⟩] 1).to (by kernel_rfl) rfl
theorem s9 (p : Nat) : Does Try.prog (bookA p 2 [⟨#[112]⟩, ⟨#[113]⟩]) 16 #[.pointer (some ⟨p, 0, none⟩), .int .i64 2] (.returned (.tuple #[.string ⟨#[]⟩, .int .i64 202])) (bookA p 2 [⟨#[112]⟩, ⟨#[113]⟩]) :=
  (dterm p 2 [⟨#[112]⟩, ⟨#[113]⟩] 2).to (by kernel_rfl) rfl
theorem s10 (p : Nat) : Does Try.prog (bookA p 2 [⟨#[112]⟩, ⟨#[113]⟩]) 18 #[.pointer (some ⟨p, 0, none⟩)] (.returned (.int .i64 2)) (bookA p 2 [⟨#[112]⟩, ⟨#[113]⟩]) :=
  (dlen p 2 [⟨#[112]⟩, ⟨#[113]⟩]).to rfl rfl

set_option maxRecDepth 100000 in
set_option maxHeartbeats 4000000 in
theorem awake2 (w : World) : Calls Try.prog 10 #[] w fun e w' => e = .returned (.bool true) ∧ Below w.heap.size w w' := by
  have hS := At.none (Below.refl w.heap.size w)
  go_enter Try.func10, Try.ntmps10
  go_wp2_with (first
    | (go_at_call 7; first | ((with_reducible refine (bnew_ok 2 _ (by omega) (by omega)).mono ?_); rintro e w1 ⟨p, rfl, hb⟩; replace hS := At.add emp_good hS hb; clear hb) | ((with_reducible refine (bnew_bad 0 _ (by omega)).mono ?_); rintro e w1 ⟨rfl, rfl⟩))
    | (go_at_call 13; first | ((with_reducible refine (At.op0 (s1 _) emp_good hS).mono ?_); rintro e w1 ⟨rfl, hS1⟩; replace hS := hS1; clear hS1) | ((with_reducible refine (At.op0 (s2 _) emp_good hS).mono ?_); rintro e w1 ⟨rfl, hS1⟩; replace hS := hS1; clear hS1) | ((with_reducible refine (At.op0 (s3 _) emp_good hS).mono ?_); rintro e w1 ⟨rfl, hS1⟩; replace hS := hS1; clear hS1) | ((with_reducible refine (At.op0 (s4 _) emp_good hS).mono ?_); rintro e w1 ⟨rfl, hS1⟩; replace hS := hS1; clear hS1) | ((with_reducible refine (At.op0 (s5 _) emp_good hS).mono ?_); rintro e w1 ⟨rfl, hS1⟩; replace hS := hS1; clear hS1))
    | (go_at_call 11; first | ((with_reducible refine (At.op0 (s6 _) emp_good hS).mono ?_); rintro e w1 ⟨rfl, hS1⟩; replace hS := hS1; clear hS1) | ((with_reducible refine (At.op0 (s7 _) emp_good hS).mono ?_); rintro e w1 ⟨rfl, hS1⟩; replace hS := hS1; clear hS1))
    | (go_at_call 16; first | ((with_reducible refine (At.op0 (s8 _) emp_good hS).mono ?_); rintro e w1 ⟨rfl, hS1⟩; replace hS := hS1; clear hS1) | ((with_reducible refine (At.op0 (s9 _) emp_good hS).mono ?_); rintro e w1 ⟨rfl, hS1⟩; replace hS := hS1; clear hS1))
    | (go_at_call 18; (with_reducible refine (At.op0 (s10 _) emp_good hS).mono ?_); rintro e w1 ⟨rfl, hS1⟩; replace hS := hS1; clear hS1)
    | (go_at_call 9; refine (lnum _ _).mono ?_; rintro e w1 ⟨rfl, rfl⟩))
  go_ret
  exact ⟨rfl, hS.bel⟩
end Go.Proofs.Ytebmineddgpjjaa
