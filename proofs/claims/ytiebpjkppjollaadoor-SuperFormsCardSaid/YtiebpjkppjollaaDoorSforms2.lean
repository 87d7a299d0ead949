/- The walk of SuperForms, at any two numbers. Condition: the handle of the type error. -/
import Derived.Test.YtiebpjkppjollaaDoorSforms
import Derived.Test.YtiebpjkppjollaaDoorSup3
import Derived.Test.YtiebpjkppjollaaDoorBfp
namespace Go.Proofs.YtiebpjkppjollaaDoor
open Go Go.RowKit

def sfT : List ByteArray := suT 1 [] 1023
def sfS : ByteArray := suS 1 [] 1023
theorem sfT_eq : sfT = [suTm 1023] := by kernel_rfl
theorem sf_a (p : Nat) : DoesG Tryd.prog (bookA p 1 []) 24 #[.pointer (some ⟨p, 0, none⟩), .int .i64 1023] (.returned (.tuple #[.string sfS, .int .i64 0])) (bookA p 1 sfT) := (dsput p 1 [] 1023 (by decide)).g.to (by kernel_rfl) rfl
theorem sf_bad {b : Int} (h : suMay b = false) (p : Nat) : DoesG Tryd.prog (bookA p 1 sfT) 24 #[.pointer (some ⟨p, 0, none⟩), .int .i64 b] (.returned (.tuple #[.string ⟨#[]⟩, .int .i64 1000])) (bookA p 1 sfT) := by
  obtain ⟨h1, h2, h3⟩ := su_bad (most := 1) (ts := sfT) h
  have hd := (dsput p 1 sfT b (by rw [sfT_eq]; decide)).g
  rw [h1, h2, h3] at hd
  exact hd
theorem sf_d (p : Nat) : DoesG Tryd.prog (bookA p 1 sfT) 24 #[.pointer (some ⟨p, 0, none⟩), .int .i64 1] (.returned (.tuple #[.string ⟨#[]⟩, .int .i64 1000])) (bookA p 1 sfT) := by
  have hn : suTm 1 ∉ sfT := by
    rw [sfT_eq]
    intro h
    simp at h
    exact absurd (suTm_inj (by decide) (by decide) h) (by decide)
  obtain ⟨h1, h2, h3⟩ := su_full (most := 1) hn (by rw [sfT_eq]; decide)
  have hd := (dsput p 1 sfT 1 (by rw [sfT_eq]; decide)).g
  rw [h1, h2, h3] at hd
  exact hd
theorem sf_f (p : Nat) : DoesG Tryd.prog (bookA p 1 sfT) 26 #[.pointer (some ⟨p, 0, none⟩), .string sfS] (.returned (.tuple #[.int .i64 1023, .int .i64 0])) (bookA p 1 sfT) := (dsget p 1 sfT sfS (by decide +kernel)).to (by kernel_rfl) rfl
theorem sf_e {t : ByteArray} (ht : t.size ≤ 100) (h : sgE sfT t = 1000) (p : Nat) : DoesG Tryd.prog (bookA p 1 sfT) 26 #[.pointer (some ⟨p, 0, none⟩), .string t] (.returned (.tuple #[.int .i64 0, .int .i64 1000])) (bookA p 1 sfT) := by
  have hd := dsget p 1 sfT t (by omega)
  rcases sg_cases sfT t with ⟨a, _⟩ | ⟨a, b⟩
  · rw [a] at h; cases h
  · rw [a, b] at hd; exact hd
theorem sf_h {t : ByteArray} (ht : t.size ≤ 100) (h : sgE sfT t = 1000) (p : Nat) : DoesG Tryd.prog (bookA p 1 sfT) 28 #[.pointer (some ⟨p, 0, none⟩), .string t, .string sfS] (.returned (.tuple #[.int .i64 1023, .int .i64 0, .int .i64 0])) (bookA p 1 sfT) := by
  have hd := dspick p 1 sfT t sfS (by omega) (by decide +kernel)
  have g : sgE sfT sfS = 0 := by kernel_rfl
  have x : sgX sfT sfS = 1023 := by kernel_rfl
  obtain ⟨q1, q2, q3⟩ := pk_two h g
  rw [q1, q2, q3, x] at hd
  exact hd
theorem sforms_walk (n x : Int) (w : World) (hg : Gd w) : Calls Tryd.prog 10 #[.int .i64 n, .int .i64 x] w fun e w' => e = .returned (.bool true) ∧ Below w.heap.size w w' := by
  have hu0 : 0 ≤ IntKind.u64.wrap n := by rw [IntKind.wrap_u64]; omega
  have hm := i64_mask x 10 (by omega)
  rw [show ((2 ^ 10 - 1 : Nat) : Int) = 1023 from by decide, show ((2 ^ 10 : Nat) : Int) = 1024 from by decide] at hm
  obtain ⟨m, hmm⟩ : ∃ m : Nat, x % 1024 = (m : Int) := ⟨(x % 1024).toNat, by omega⟩
  rw [hmm] at hm
  have m1 : m ≤ 1023 := by omega
  have h64 : sfS.size = 64 := by decide +kernel
  have hT : sfT.length = 1 := by rw [sfT_eq]; rfl
  have hb := fun p => sf_bad (b := 1023 + (1 + (m : Int))) (by cases h : suMay (1023 + (1 + (m : Int))); rfl; have := (suMay_iff _).1 h; omega) p
  have hc := fun p => sf_bad (b := 1 - (1 + (m : Int))) (by cases h : suMay (1 - (1 + (m : Int))); rfl; have := (suMay_iff _).1 h; omega) p
  obtain ⟨j, hj, h7⟩ : ∃ j : Nat, (IntKind.u64.wrap n).tmod 7 = (j : Int) ∧ j < 7 := ⟨((IntKind.u64.wrap n) % 7).toNat, by rw [Int.tmod_eq_emod_of_nonneg hu0]; omega, by omega⟩
  match j, h7, hj with
  | 0, _, hj => exact sforms0 sfS sfT n x m m1 hm hj h64 hT sf_a hb hc sf_d (sf_e (by decide +kernel) (by kernel_rfl)) sf_f (sf_h (by decide +kernel) (by kernel_rfl)) w hg
  | 1, _, hj => exact sforms1 sfS sfT n x m m1 hm hj h64 hT sf_a hb hc sf_d (sf_e (by decide +kernel) (by kernel_rfl)) sf_f (sf_h (by decide +kernel) (by kernel_rfl)) w hg
  | 2, _, hj => exact sforms2 sfS sfT n x m m1 hm hj h64 hT sf_a hb hc sf_d (sf_e (by decide +kernel) (by kernel_rfl)) sf_f (sf_h (by decide +kernel) (by kernel_rfl)) w hg
  | 3, _, hj => exact sforms3 sfS sfT n x m m1 hm hj h64 hT sf_a hb hc sf_d (sf_e (by decide +kernel) (by kernel_rfl)) sf_f (sf_h (by decide +kernel) (by kernel_rfl)) w hg
  | 4, _, hj => exact sforms4 sfS sfT n x m m1 hm hj h64 hT sf_a hb hc sf_d (sf_e (by decide +kernel) (by kernel_rfl)) sf_f (sf_h (by decide +kernel) (by kernel_rfl)) w hg
  | 5, _, hj => exact sforms5 sfS sfT n x m m1 hm hj h64 hT sf_a hb hc sf_d (sf_e (by decide +kernel) (by kernel_rfl)) sf_f (sf_h (by decide +kernel) (by kernel_rfl)) w hg
  | 6, _, hj => exact sforms6 sfS sfT n x m m1 hm hj h64 hT sf_a hb hc sf_d (sf_e (by decide +kernel) (by kernel_rfl)) sf_f (sf_h (by decide +kernel) (by kernel_rfl)) w hg
end Go.Proofs.YtiebpjkppjollaaDoor
