/- Package disk's Write, whole. Condition: not a million writes wait. -/
import Derived.Test.YtlnliphejjfdeaaKdp5
namespace Go.Proofs.Ytlnliphejjfdeaa
open Go Go.RowKit
set_option maxHeartbeats 4000000 in
theorem kpwrite (p : Nat) (d : Dk) (i : Int) (s : ByteArray) (hn : d.waits.length ≤ 1000000) : Does Try.prog (dpA p d) 12 #[.pointer (some ⟨p, 0, none⟩), .int .i64 i, .string s] (.returned (.int .i64 (d.wrE i s))) (dpA p (d.wr i s)) := by
  intro w F h
  have hs := dpA_same h (Below.refl _ _)
  obtain ⟨n, gk, gs, v, hi, rfl⟩ := h
  have Hu := Lib.hid (kup hi)
  have Hh := Lib.hid (khas hi i)
  have hkn := hi.kn
  cases hd : d.down with
  | true =>
    rw [show d.wrE i s = 801 by unfold Dk.wrE; rw [hd]; rfl, show d.wr i s = d by unfold Dk.wr; rw [hd]; rfl]
    rw [hd] at Hu
    clear hi
    go_enter Try.func12, Try.ntmps12
    go_wp2_with (go_at_call 25; (with_reducible refine (Hu.out).mono ?_); rintro e w1 ⟨rfl, rfl⟩)
    go_ret
    exact ⟨rfl, hs⟩
  | false =>
    rw [hd] at Hu
    cases hh : d.has i with
    | false =>
      rw [show d.wrE i s = 800 by unfold Dk.wrE; rw [hd, hh]; rfl, show d.wr i s = d by unfold Dk.wr; rw [hd, hh]; rfl]
      unfold Dk.has at hh
      rw [hkn] at hh
      rw [hh] at Hh
      clear hi
      go_enter Try.func12, Try.ntmps12
      go_wp2_with (first
        | (go_at_call 25; (with_reducible refine (Hu.out).mono ?_); rintro e w1 ⟨rfl, rfl⟩)
        | (go_at_call 26; (with_reducible refine (Hh.out).mono ?_); rintro e w1 ⟨rfl, rfl⟩))
      go_ret
      exact ⟨rfl, hs⟩
    | true =>
      obtain ⟨h0, h1⟩ := (d.has_iff i).1 hh
      by_cases h6 : s.size = 64
      · rw [show d.wrE i s = 0 by unfold Dk.wrE; rw [hd, hh]; simp [h6], show d.wr i s = { d with waits := d.waits ++ [(i.toNat, s)] } by unfold Dk.wr; rw [hd, hh]; simp [h6]]
        unfold Dk.has at hh
        rw [hkn] at hh h1
        rw [hh] at Hh
        obtain ⟨m, rfl⟩ := Int.eq_ofNat_of_zero_le h0
        rw [hd] at hi
        exact kpwrite1 p d m s hn hd h6 hi (by omega) Hu Hh
      · rw [show d.wrE i s = 800 by unfold Dk.wrE; rw [hd, hh]; simp [h6], show d.wr i s = d by unfold Dk.wr; rw [hd, hh]; simp [h6]]
        unfold Dk.has at hh
        rw [hkn] at hh
        rw [hh] at Hh
        have h6' : ((s.size : Int) != 64) = true := by simp; omega
        clear hi h6
        go_enter Try.func12, Try.ntmps12
        go_wp2_with (first
          | (go_at_call 25; (with_reducible refine (Hu.out).mono ?_); rintro e w1 ⟨rfl, rfl⟩)
          | (go_at_call 26; (with_reducible refine (Hh.out).mono ?_); rintro e w1 ⟨rfl, rfl⟩))
        go_ret
        exact ⟨rfl, hs⟩
end Go.Proofs.Ytlnliphejjfdeaa
