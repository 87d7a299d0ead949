/- The walk of SuperSlots, at any numbers. Condition: the handle of the type error. -/
import Derived.Test.YtiebpjkppjollaaDoorSslots
import Derived.Test.YtiebpjkppjollaaDoorSup3
import Derived.Test.YtiebpjkppjollaaDoorBfp
namespace Go.Proofs.YtiebpjkppjollaaDoor
open Go Go.RowKit

theorem sslots_walk (x y torn which : Int) (w : World) (hg : Gd w) : Calls Tryd.prog 9 #[.int .i64 x, .int .i64 y, .int .i64 torn, .int .i64 which] w fun e w' => e = .returned (.bool true) ∧ Below w.heap.size w w' := by
  obtain ⟨m1, hx, hm1⟩ : ∃ m : Nat, (IntKind.u64.wrap x).tmod 1023 = (m : Int) ∧ m ≤ 1022 := by
    have hu0 : 0 ≤ IntKind.u64.wrap x := by rw [IntKind.wrap_u64]; omega
    exact ⟨((IntKind.u64.wrap x) % 1023).toNat, by rw [Int.tmod_eq_emod_of_nonneg hu0]; omega, by omega⟩
  obtain ⟨m2, hy, hm2⟩ : ∃ m : Nat, (IntKind.u64.wrap y).tmod 1023 = (m : Int) ∧ m ≤ 1022 := by
    have hu0 : 0 ≤ IntKind.u64.wrap y := by rw [IntKind.wrap_u64]; omega
    exact ⟨((IntKind.u64.wrap y) % 1023).toNat, by rw [Int.tmod_eq_emod_of_nonneg hu0]; omega, by omega⟩
  have ht := i64_mask torn 1 (by omega)
  rw [show ((2 ^ 1 - 1 : Nat) : Int) = 1 from rfl, show ((2 ^ 1 : Nat) : Int) = 2 from rfl] at ht
  obtain ⟨k, hkk, hk⟩ : ∃ k : Nat, torn % 2 = (k : Int) ∧ k ≤ 1 := ⟨(torn % 2).toNat, by omega, by omega⟩
  rw [hkk] at ht
  have hw := i64_mask which 1 (by omega)
  rw [show ((2 ^ 1 - 1 : Nat) : Int) = 1 from rfl, show ((2 ^ 1 : Nat) : Int) = 2 from rfl] at hw
  have may1 : suMay (1 + (m1 : Int)) = true := (suMay_iff _).2 ⟨by omega, by omega⟩
  have may2 : suMay (1 + (m2 : Int)) = true := (suMay_iff _).2 ⟨by omega, by omega⟩
  have l1 : (suT 9 [] (1 + (m1 : Int))).length ≤ 1 := suT_len (most := 9) (ts := []) _
  have l2 : (suT 9 (suT 9 [] (1 + (m1 : Int))) (1 + (m2 : Int))).length ≤ 2 := Nat.le_trans (suT_len (most := 9) _) (by omega)
  have e1 : suE 9 [] (1 + (m1 : Int)) = 0 := su_room may1 (by decide)
  have e2 : suE 9 (suT 9 [] (1 + (m1 : Int))) (1 + (m2 : Int)) = 0 := su_room may2 (by omega)
  obtain ⟨g1, g2⟩ := su_stands e1 (fun t ht => suT_keep (most := 9) (1 + (m2 : Int)) ht) (by omega)
  obtain ⟨g3, g4⟩ := su_stands e2 (T := suT 9 (suT 9 [] (1 + (m1 : Int))) (1 + (m2 : Int))) (fun t ht => ⟨ht, rfl⟩) (by omega)
  have s64 := su_size e1
  have u64 := su_size e2
  have hv := su_torn (ts := suT 9 (suT 9 [] (1 + (m1 : Int))) (1 + (m2 : Int))) (by1_zer (suS 9 (suT 9 [] (1 + (m1 : Int))) (1 + (m2 : Int))) k hk (by omega))
  have hvs : (suS 9 (suT 9 [] (1 + (m1 : Int))) (1 + (m2 : Int)) |>.extract 0 k).size ≤ 64 := by rw [ByteArray.size_extract]; omega
  have hza := zerN_size (64 - k)
  have ha := fun p => (dsput p 9 [] (1 + (m1 : Int)) (by decide)).g
  have hb := fun p => (dsput p 9 (suT 9 [] (1 + (m1 : Int))) (1 + (m2 : Int)) (by omega)).g
  rw [e1] at ha
  rw [e2] at hb
  have hd := fun p => dspick p 9 (suT 9 (suT 9 [] (1 + (m1 : Int))) (1 + (m2 : Int))) (suS 9 [] (1 + (m1 : Int))) (suS 9 (suT 9 [] (1 + (m1 : Int))) (1 + (m2 : Int))) (by omega) (by omega)
  have he1 := fun p => dspick p 9 (suT 9 (suT 9 [] (1 + (m1 : Int))) (1 + (m2 : Int))) ((suS 9 (suT 9 [] (1 + (m1 : Int))) (1 + (m2 : Int))).extract 0 k ++ zerN (64 - k)) (suS 9 [] (1 + (m1 : Int))) (by rw [ByteArray.size_append]; omega) (by omega)
  have he0 := fun p => dspick p 9 (suT 9 (suT 9 [] (1 + (m1 : Int))) (1 + (m2 : Int))) (suS 9 [] (1 + (m1 : Int))) ((suS 9 (suT 9 [] (1 + (m1 : Int))) (1 + (m2 : Int))).extract 0 k ++ zerN (64 - k)) (by omega) (by rw [ByteArray.size_append]; omega)
  generalize suT 9 (suT 9 [] (1 + (m1 : Int))) (1 + (m2 : Int)) = T2 at *
  generalize suS 9 (suT 9 [] (1 + (m1 : Int))) (1 + (m2 : Int)) = U at *
  generalize suT 9 [] (1 + (m1 : Int)) = T1 at *
  generalize suS 9 [] (1 + (m1 : Int)) = S at *
  have hne : U.extract 0 k ++ zerN (64 - k) ≠ U := fun c => by rw [c, g4] at hv; exact absurd hv.2 (by decide)
  have x1 := bne9 hne
  have q1 := pk_two (t := S) hv.2 g2
  rw [q1.1, q1.2.1, q1.2.2, g1] at he1
  have q0 := pk_one (s := S) g2 hv.2
  rw [q0.1, q0.2.1, q0.2.2, g1] at he0
  by_cases hc : m2 ≤ m1
  · have qd := pk_ge g2 g4 (by rw [g1, g3]; omega)
    rw [qd.1, qd.2.1, qd.2.2, g1] at hd
    rcases Int.emod_two_eq which with h0 | h0
    · rw [h0] at hw
      exact sslots_ge0 x y torn which m1 m2 S U T1 T2 s64 u64 hx hy hm1 hm2 k hk ht hw hc x1 ha hb hd he0 w hg
    · rw [h0] at hw
      exact sslots_ge1 x y torn which m1 m2 S U T1 T2 s64 u64 hx hy hm1 hm2 k hk ht hw hc x1 ha hb hd he1 w hg
  · have qd := pk_lt g2 g4 (by rw [g1, g3]; omega)
    rw [qd.1, qd.2.1, qd.2.2, g3] at hd
    rcases Int.emod_two_eq which with h0 | h0
    · rw [h0] at hw
      exact sslots_lt0 x y torn which m1 m2 S U T1 T2 s64 u64 hx hy hm1 hm2 k hk ht hw (by omega) x1 ha hb hd he0 w hg
    · rw [h0] at hw
      exact sslots_lt1 x y torn which m1 m2 S U T1 T2 s64 u64 hx hy hm1 hm2 k hk ht hw (by omega) x1 ha hb hd he1 w hg
end Go.Proofs.YtiebpjkppjollaaDoor
