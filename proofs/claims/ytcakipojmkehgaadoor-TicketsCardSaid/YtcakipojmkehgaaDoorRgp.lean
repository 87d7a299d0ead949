/- Package ring's Key and Live: what they answer and leave. Condition: the numbers are of 64 bits. -/
import Derived.Test.YtcakipojmkehgaaDoorRg
import Derived.Test.YtcakipojmkehgaaDoorBbk
import Derived.Test.YtcakipojmkehgaaDoorBme
namespace Go.Proofs.YtcakipojmkehgaaDoor
open Go Go.RowKit

theorem pgnum (x : Int) (r : Bool) (h : r = okNum x) (w : World) : Calls Tryd.prog 61 #[.int .i64 x] w fun e w' => e = .returned (.bool r) ∧ w = w' := by
  subst h
  go_enter Tryd.func61, Tryd.ntmps61
  go_wp2
  all_goals (go_ret; refine ⟨?_, rfl⟩; congr 2; unfold okNum; simp [*] <;> omega)
set_option maxHeartbeats 1000000 in
theorem pglive (e n k : Int) (r : Bool) (h : r = rgL e n k) (w : World) : Calls Tryd.prog 48 #[.int .i64 e, .int .i64 n, .int .i64 k] w fun e w' => e = .returned (.bool r) ∧ w = w' := by
  subst h
  unfold rgL
  by_cases h1 : okNum e = true
  · obtain ⟨e0, e1⟩ := (okNum_iff e).1 h1
    by_cases h2 : okNum n = true
    · obtain ⟨n0, n1⟩ := (okNum_iff n).1 h2
      by_cases h3 : okNum k = true
      · obtain ⟨k0, k1⟩ := (okNum_iff k).1 h3
        go_enter Tryd.func48, Tryd.ntmps48
        go_wp2_with (go_at_call 61; (with_reducible refine (pgnum _ true (by simp [*]) _).mono ?_); rintro e w1 ⟨rfl, rfl⟩)
        all_goals (go_ret; refine ⟨?_, rfl⟩; congr 2; simp [*] <;> omega)
      · have h3' : okNum k = false := by simpa using h3
        go_enter Tryd.func48, Tryd.ntmps48
        go_wp2_with (go_at_call 61; (with_reducible refine (pgnum _ _ rfl _).mono ?_); rintro e w1 ⟨rfl, rfl⟩)
        all_goals (go_ret; refine ⟨?_, rfl⟩; congr 2; simp [*])
    · have h2' : okNum n = false := by simpa using h2
      go_enter Tryd.func48, Tryd.ntmps48
      go_wp2_with (go_at_call 61; (with_reducible refine (pgnum _ _ rfl _).mono ?_); rintro e w1 ⟨rfl, rfl⟩)
      all_goals (go_ret; refine ⟨?_, rfl⟩; congr 2; simp [*])
  · have h1' : okNum e = false := by simpa using h1
    go_enter Tryd.func48, Tryd.ntmps48
    go_wp2_with (go_at_call 61; (with_reducible refine (pgnum _ _ rfl _).mono ?_); rintro e w1 ⟨rfl, rfl⟩)
    all_goals (go_ret; refine ⟨?_, rfl⟩; congr 2; simp [*])

theorem pgkey_nil (k : Int) (w : World) : Calls Tryd.prog 38 #[.pointer none, .int .i64 k] w fun e w' => e = .returned (.tuple #[.int .i64 0, .int .i64 1]) ∧ w = w' := by
  go_enter Tryd.func38, Tryd.ntmps38
  go_wp2
  go_ret2
  exact ⟨rfl, rfl⟩

set_option maxHeartbeats 1000000 in
theorem pgkey (p : Nat) (most : Int) (ts : List ByteArray) (k : Int) (s0 : -9223372036854775808 ≤ k) (s1 : k ≤ 9223372036854775807) :
    Does Tryd.prog (bookA p most ts) 38 #[.pointer (some ⟨p, 0, none⟩), .int .i64 k] (.returned (.tuple #[.int .i64 (rgX most ts k), .int .i64 (rgE most ts k)])) (bookA p most (rgT most ts k)) := by
  intro w F h
  have hS := Becomes.refl h
  clear h
  have hN := fun w => fnum k w s0 s1
  have hn5 := numS_size5 k
  by_cases hk : okNum k = true
  · rw [show numE k = 0 by unfold numE; rw [if_pos hk]] at hN
    have hM := datom p most ts (epS k) (by have := epS_size k; omega)
    rw [show tmK cA none (epS k) = epK k from rfl, show okK none = true from rfl] at hM
    by_cases he : ckE most ts true (epK k) = 0
    · obtain ⟨g1, g2, g3⟩ := rg_ok hk he
      rw [g1, g2, g3]
      rw [he] at hM
      generalize ckX most ts true (epK k) = X at *
      generalize ckT most ts true (epK k) = T at *
      unfold epS epW at hM
      generalize numS k = S at *
      have HM := Lib.hid hM
      have HN := Lib.hid hN
      clear hM hN he hk g1 g2 g3
      go_enter Tryd.func38, Tryd.ntmps38
      go_wp2_with (first
        | (go_at_call 53; (with_reducible refine (HN.out _).mono ?_); rintro e w1 ⟨rfl, hb⟩; replace hS := hS.lay (bookA_good _ _ _) hb; clear hb)
        | (go_at_call 54; (with_reducible refine (Becomes.op HM.out hS).mono ?_); rintro e w1 ⟨rfl, hS1⟩))
      go_ret2
      exact ⟨rfl, hS1⟩
    · obtain ⟨g1, g2, g3⟩ := rg_no hk he
      rw [g1, g2, g3]
      obtain ⟨_, he3⟩ := rg_ckX_ne he
      rw [he3] at hM
      generalize ckX most ts true (epK k) = X at *
      generalize ckT most ts true (epK k) = T at *
      unfold epS epW at hM
      generalize numS k = S at *
      have HM := Lib.hid hM
      have HN := Lib.hid hN
      clear hM hN he he3 hk g1 g2 g3
      go_enter Tryd.func38, Tryd.ntmps38
      go_wp2_with (first
        | (go_at_call 53; (with_reducible refine (HN.out _).mono ?_); rintro e w1 ⟨rfl, hb⟩; replace hS := hS.lay (bookA_good _ _ _) hb; clear hb)
        | (go_at_call 54; (with_reducible refine (Becomes.op HM.out hS).mono ?_); rintro e w1 ⟨rfl, hS1⟩))
      go_ret2
      exact ⟨rfl, hS1⟩
  · have hk' : okNum k = false := by simpa using hk
    rw [show numE k = 100 by unfold numE; rw [if_neg hk]] at hN
    obtain ⟨g1, g2, g3⟩ := rg_bad (most := most) (ts := ts) hk'
    rw [g1, g2, g3]
    generalize numS k = S at *
    have HN := Lib.hid hN
    clear hN hk hk' g1 g2 g3
    go_enter Tryd.func38, Tryd.ntmps38
    go_wp2_with (go_at_call 53; (with_reducible refine (HN.out _).mono ?_); rintro e w1 ⟨rfl, hb⟩; replace hS := hS.lay (bookA_good _ _ _) hb; clear hb)
    go_ret2
    exact ⟨rfl, hS⟩
end Go.Proofs.YtcakipojmkehgaaDoor
