/- The walk of DiskForms, at any two numbers. No condition. -/
import Derived.Test.YtlnliphejjfdeaaKforms
import Derived.Test.YtlnliphejjfdeaaFplain3
namespace Go.Proofs.Ytlnliphejjfdeaa
open Go Go.RowKit

theorem Dk.wr_bad {d : Dk} {i : Int} {s : ByteArray} (hd : d.down = false) (h : d.has i = false ∨ s.size ≠ 64) : d.wrE i s = 800 ∧ d.wr i s = d := by
  unfold Dk.wrE Dk.wr
  rw [hd]
  rcases h with h | h <;> simp [h]
theorem Dk.rd_bad {d : Dk} {i : Int} (hd : d.down = false) (h : d.has i = false) : d.rdE i = 800 ∧ d.rdS i = ⟨#[]⟩ := by
  unfold Dk.rdE Dk.rdS
  rw [hd, h]
  exact ⟨rfl, rfl⟩
theorem Dk.cr_bad {d : Dk} {m t : Int} (hd : d.down = false) (h : m < 0 ∨ t < 0) : d.crE m t = 800 ∧ d.cr m t = d := by
  have hb : (decide (0 ≤ m) && decide (0 ≤ t)) = false := by rcases h with h | h <;> simp <;> omega
  unfold Dk.crE Dk.cr
  rw [hd, hb]
  exact ⟨rfl, rfl⟩
def sKept : ByteArray := secOf ⟨#[107, 101, 112, 116]⟩
def kfK0 : Dk := Dk.new 3
def kfK1 : Dk := kfK0.wr 1 sKept
def kfK2 : Dk := kfK1.fl
def kfK3 : Dk := kfK2.cr 0 0
def kfK4 : Dk := kfK3.rs
theorem kf_down : kfK2.down = false := by kernel_rfl
theorem kf_few : kfK2.waits.length ≤ 1000000 := by decide +kernel
theorem kf_len : kfK2.kept.length = 3 := by kernel_rfl
theorem kf_out {i : Int} (h : i < 0 ∨ 3 ≤ i) : kfK2.has i = false := by
  unfold Dk.has
  rw [kf_len]
  simp
  omega
theorem kfb0 (m : Nat) (p : Nat) : Does Try.prog (dpA p kfK2) 12 #[.pointer (some ⟨p, 0, none⟩), .int .i64 (2 + (1 + (m : Int))), .string sNil] (.returned (.int .i64 800)) (dpA p kfK2) := by
  obtain ⟨h1, h2⟩ := Dk.wr_bad (i := (2 + (1 + (m : Int)))) (s := sNil) kf_down (.inl (kf_out (by omega)))
  have h := kpwrite p kfK2 (2 + (1 + (m : Int))) sNil kf_few
  rw [h1, h2] at h
  exact h
theorem kfb1 (m : Nat) (p : Nat) : Does Try.prog (dpA p kfK2) 12 #[.pointer (some ⟨p, 0, none⟩), .int .i64 (-(1 + (m : Int))), .string sNil] (.returned (.int .i64 800)) (dpA p kfK2) := by
  obtain ⟨h1, h2⟩ := Dk.wr_bad (i := (-(1 + (m : Int)))) (s := sNil) kf_down (.inl (kf_out (by omega)))
  have h := kpwrite p kfK2 (-(1 + (m : Int))) sNil kf_few
  rw [h1, h2] at h
  exact h
theorem kfb2 (p : Nat) : Does Try.prog (dpA p kfK2) 12 #[.pointer (some ⟨p, 0, none⟩), .int .i64 1, .string ⟨#[115, 104, 111, 114, 116]⟩] (.returned (.int .i64 800)) (dpA p kfK2) := by
  obtain ⟨h1, h2⟩ := Dk.wr_bad (i := 1) (s := ⟨#[115, 104, 111, 114, 116]⟩) kf_down (.inr (by decide))
  have h := kpwrite p kfK2 1 ⟨#[115, 104, 111, 114, 116]⟩ kf_few
  rw [h1, h2] at h
  exact h
theorem kfb3 (p : Nat) : Does Try.prog (dpA p kfK2) 12 #[.pointer (some ⟨p, 0, none⟩), .int .i64 1, .string (sNil ++ ⟨#[120]⟩)] (.returned (.int .i64 800)) (dpA p kfK2) := by
  obtain ⟨h1, h2⟩ := Dk.wr_bad (i := 1) (s := (sNil ++ ⟨#[120]⟩)) kf_down (.inr (by decide +kernel))
  have h := kpwrite p kfK2 1 (sNil ++ ⟨#[120]⟩) kf_few
  rw [h1, h2] at h
  exact h
theorem kfb4 (m : Nat) (p : Nat) : Does Try.prog (dpA p kfK2) 22 #[.pointer (some ⟨p, 0, none⟩), .int .i64 (2 + (1 + (m : Int)))] (.returned (.tuple #[.string ⟨#[]⟩, .int .i64 800])) (dpA p kfK2) := by
  obtain ⟨h1, h2⟩ := Dk.rd_bad (i := (2 + (1 + (m : Int)))) kf_down (kf_out (by omega))
  have h := kpread p kfK2 (2 + (1 + (m : Int)))
  rw [h1, h2] at h
  exact h
theorem kfb5 (m : Nat) (p : Nat) : Does Try.prog (dpA p kfK2) 22 #[.pointer (some ⟨p, 0, none⟩), .int .i64 (-(1 + (m : Int)))] (.returned (.tuple #[.string ⟨#[]⟩, .int .i64 800])) (dpA p kfK2) := by
  obtain ⟨h1, h2⟩ := Dk.rd_bad (i := (-(1 + (m : Int)))) kf_down (kf_out (by omega))
  have h := kpread p kfK2 (-(1 + (m : Int)))
  rw [h1, h2] at h
  exact h
theorem kfb6 (m : Nat) (p : Nat) : Does Try.prog (dpA p kfK2) 16 #[.pointer (some ⟨p, 0, none⟩), .int .i64 (-(1 + (m : Int))), .int .i64 0] (.returned (.int .i64 800)) (dpA p kfK2) := by
  obtain ⟨h1, h2⟩ := Dk.cr_bad (m := (-(1 + (m : Int)))) (t := 0) kf_down (.inl (by omega))
  have h := kpcrash p kfK2 (-(1 + (m : Int))) 0 (by omega) (by decide)
  rw [h1, h2] at h
  exact h
theorem kfb7 (m : Nat) (p : Nat) : Does Try.prog (dpA p kfK2) 16 #[.pointer (some ⟨p, 0, none⟩), .int .i64 0, .int .i64 (-(1 + (m : Int)))] (.returned (.int .i64 800)) (dpA p kfK2) := by
  obtain ⟨h1, h2⟩ := Dk.cr_bad (m := 0) (t := (-(1 + (m : Int)))) kf_down (.inr (by omega))
  have h := kpcrash p kfK2 0 (-(1 + (m : Int))) (by decide) (by omega)
  rw [h1, h2] at h
  exact h
theorem kfb8 (p : Nat) : Does Try.prog (dpA p kfK2) 18 #[.pointer (some ⟨p, 0, none⟩)] (.returned (.int .i64 800)) (dpA p kfK2) := by
  exact (kprestart p kfK2).to (by kernel_rfl) (by kernel_rfl)
theorem kforms_walk (n x : Int) (w : World) : Calls Try.prog 4 #[.int .i64 n, .int .i64 x] w fun e w' => e = .returned (.bool true) ∧ Below w.heap.size w w' := by
  have hu0 : 0 ≤ IntKind.u64.wrap n := by rw [IntKind.wrap_u64]; omega
  have hm := i64_mask x 10 (by omega)
  rw [show ((2 ^ 10 - 1 : Nat) : Int) = 1023 from by decide, show ((2 ^ 10 : Nat) : Int) = 1024 from by decide] at hm
  obtain ⟨m, hmm⟩ : ∃ m : Nat, x % 1024 = (m : Int) := ⟨(x % 1024).toNat, by omega⟩
  rw [hmm] at hm
  have m1 : m ≤ 1023 := by omega
  have c1 : ∀ p : Nat, _ := fun p => (kpwrite p kfK0 1 sKept (by decide)).to (v2 := .returned (.int .i64 0)) (A2 := dpA p kfK1) (by kernel_rfl) rfl
  have c2 : ∀ p : Nat, _ := fun p => (kpflush p kfK1).to (v2 := .returned (.int .i64 0)) (A2 := dpA p kfK2) (by kernel_rfl) rfl
  have c3 : ∀ p : Nat, _ := fun p => (kpread p kfK2 1).to (v2 := .returned (.tuple #[.string sKept, .int .i64 0])) (A2 := dpA p kfK2) (by kernel_rfl) rfl
  have c4 : ∀ p : Nat, _ := fun p => (kpcrash p kfK2 0 0 (by decide) (by decide)).to (v2 := .returned (.int .i64 0)) (A2 := dpA p kfK3) (by kernel_rfl) rfl
  have c5 : ∀ p : Nat, _ := fun p => (kpwrite p kfK3 1 sNil (by decide)).to (v2 := .returned (.int .i64 801)) (A2 := dpA p kfK3) (by kernel_rfl) (by kernel_rfl)
  have c6 : ∀ p : Nat, _ := fun p => (kpflush p kfK3).to (v2 := .returned (.int .i64 801)) (A2 := dpA p kfK3) (by kernel_rfl) (by kernel_rfl)
  have c7 : ∀ p : Nat, _ := fun p => (kpcrash p kfK3 0 0 (by decide) (by decide)).to (v2 := .returned (.int .i64 801)) (A2 := dpA p kfK3) (by kernel_rfl) (by kernel_rfl)
  have c8 : ∀ p : Nat, _ := fun p => (kprestart p kfK3).to (v2 := .returned (.int .i64 0)) (A2 := dpA p kfK4) (by kernel_rfl) rfl
  have c9 : ∀ p : Nat, _ := fun p => (kpread p kfK4 1).to (v2 := .returned (.tuple #[.string sKept, .int .i64 0])) (A2 := dpA p kfK4) (by kernel_rfl) rfl
  have l1 := fun w => lsector ⟨#[107, 101, 112, 116]⟩ w (by decide)
  have n1 := fun w => kpnew_bad (1 - (1 + (m : Int))) w (by omega)
  have n2 := fun w => kpnew_bad (256 + (1 + (m : Int))) w (by omega)
  have n3 := fun w => kpnew_ok 3 w (by decide) (by decide)
  obtain ⟨j, hj, h9⟩ : ∃ j : Nat, (IntKind.u64.wrap n).tmod 9 = (j : Int) ∧ j < 9 := ⟨((IntKind.u64.wrap n) % 9).toNat, by rw [Int.tmod_eq_emod_of_nonneg hu0]; omega, by omega⟩
  match j, h9, hj with
  | 0, _, hj => exact kforms0 kfK0 kfK1 kfK2 kfK3 kfK4 sKept sNil n x m m1 hm hj l1 lsec_sNil n1 n2 n3 c1 c2 c3 c4 c5 c6 c7 c8 c9 (fun p => kfb0 m p) w
  | 1, _, hj => exact kforms1 kfK0 kfK1 kfK2 kfK3 kfK4 sKept sNil n x m m1 hm hj l1 lsec_sNil n1 n2 n3 c1 c2 c3 c4 c5 c6 c7 c8 c9 (fun p => kfb1 m p) w
  | 2, _, hj => exact kforms2 kfK0 kfK1 kfK2 kfK3 kfK4 sKept sNil n x m m1 hm hj l1 lsec_sNil n1 n2 n3 c1 c2 c3 c4 c5 c6 c7 c8 c9 kfb2 w
  | 3, _, hj => exact kforms3 kfK0 kfK1 kfK2 kfK3 kfK4 sKept sNil (secOf_size _) n x m m1 hm hj l1 lsec_sNil n1 n2 n3 c1 c2 c3 c4 c5 c6 c7 c8 c9 kfb3 w
  | 4, _, hj => exact kforms4 kfK0 kfK1 kfK2 kfK3 kfK4 sKept sNil n x m m1 hm hj l1 lsec_sNil n1 n2 n3 c1 c2 c3 c4 c5 c6 c7 c8 c9 (fun p => kfb4 m p) w
  | 5, _, hj => exact kforms5 kfK0 kfK1 kfK2 kfK3 kfK4 sKept sNil n x m m1 hm hj l1 lsec_sNil n1 n2 n3 c1 c2 c3 c4 c5 c6 c7 c8 c9 (fun p => kfb5 m p) w
  | 6, _, hj => exact kforms6 kfK0 kfK1 kfK2 kfK3 kfK4 sKept sNil n x m m1 hm hj l1 lsec_sNil n1 n2 n3 c1 c2 c3 c4 c5 c6 c7 c8 c9 (fun p => kfb6 m p) w
  | 7, _, hj => exact kforms7 kfK0 kfK1 kfK2 kfK3 kfK4 sKept sNil n x m m1 hm hj l1 lsec_sNil n1 n2 n3 c1 c2 c3 c4 c5 c6 c7 c8 c9 (fun p => kfb7 m p) w
  | 8, _, hj => exact kforms8 kfK0 kfK1 kfK2 kfK3 kfK4 sKept sNil n x m m1 hm hj l1 lsec_sNil n1 n2 n3 c1 c2 c3 c4 c5 c6 c7 c8 c9 kfb8 w
end Go.Proofs.Ytlnliphejjfdeaa
