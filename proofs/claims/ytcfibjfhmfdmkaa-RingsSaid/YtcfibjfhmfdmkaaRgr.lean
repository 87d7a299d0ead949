/- The reference's RingKey and RingLive: what they answer and leave. Condition: the numbers are of 64 bits. -/
import Derived.Test.YtcfibjfhmfdmkaaRg
import Derived.Test.YtcfibjfhmfdmkaaCref
import Derived.Test.YtcfibjfhmfdmkaaSep2
namespace Go.Proofs.Ytcfibjfhmfdmkaa
open Go Go.RowKit Go.Maps

theorem rgnum (x : Int) (r : Bool) (h : r = okNum x) (w : World) : Calls Try.prog 19 #[.int .i64 x] w fun e w' => e = .returned (.bool r) ∧ w = w' := by
  subst h
  go_enter Try.func19, Try.ntmps19
  go_wp2
  all_goals (go_ret; refine ⟨?_, rfl⟩; congr 2; unfold okNum; simp [*] <;> omega)
set_option maxHeartbeats 1000000 in
theorem rglive (e n k : Int) (r : Bool) (h : r = rgL e n k) (w : World) : Calls Try.prog 11 #[.int .i64 e, .int .i64 n, .int .i64 k] w fun e w' => e = .returned (.bool r) ∧ w = w' := by
  subst h
  unfold rgL
  by_cases h1 : okNum e = true
  · obtain ⟨e0, e1⟩ := (okNum_iff e).1 h1
    by_cases h2 : okNum n = true
    · obtain ⟨n0, n1⟩ := (okNum_iff n).1 h2
      by_cases h3 : okNum k = true
      · obtain ⟨k0, k1⟩ := (okNum_iff k).1 h3
        go_enter Try.func11, Try.ntmps11
        go_wp2_with (go_at_call 19; (with_reducible refine (rgnum _ true (by simp [*]) _).mono ?_); rintro e w1 ⟨rfl, rfl⟩)
        all_goals (go_ret; refine ⟨?_, rfl⟩; congr 2; simp [*] <;> omega)
      · have h3' : okNum k = false := by simpa using h3
        go_enter Try.func11, Try.ntmps11
        go_wp2_with (go_at_call 19; (with_reducible refine (rgnum _ _ rfl _).mono ?_); rintro e w1 ⟨rfl, rfl⟩)
        all_goals (go_ret; refine ⟨?_, rfl⟩; congr 2; simp [*])
    · have h2' : okNum n = false := by simpa using h2
      go_enter Try.func11, Try.ntmps11
      go_wp2_with (go_at_call 19; (with_reducible refine (rgnum _ _ rfl _).mono ?_); rintro e w1 ⟨rfl, rfl⟩)
      all_goals (go_ret; refine ⟨?_, rfl⟩; congr 2; simp [*])
  · have h1' : okNum e = false := by simpa using h1
    go_enter Try.func11, Try.ntmps11
    go_wp2_with (go_at_call 19; (with_reducible refine (rgnum _ _ rfl _).mono ?_); rintro e w1 ⟨rfl, rfl⟩)
    all_goals (go_ret; refine ⟨?_, rfl⟩; congr 2; simp [*])

set_option maxRecDepth 100000 in
set_option maxHeartbeats 1000000 in
theorem rgkey (p : Nat) (most : Int) (ts : List ByteArray) (k : Int) (s0 : -9223372036854775808 ≤ k) (s1 : k ≤ 9223372036854775807) :
    Does Try.prog (refA p most ts) 8 #[.pointer (some ⟨p, 0, none⟩), .int .i64 k] (.returned (.tuple #[.int .i64 (rgX most ts k), .int .i64 (rgE most ts k)])) (refA p most (rgT most ts k)) := by
  intro w F h
  have hS := Becomes.refl h
  clear h
  have hn5 := numS_size5 k
  by_cases hk : okNum k = true
  · obtain ⟨k0, k1⟩ := (okNum_iff k).1 hk
    have hV := fun w => rgnum k true hk.symm w
    have hN := fun W => rnums1 k W (by omega) (by omega) 3
    have hM := dratom p most ts (epS k) (by have := epS_size k; omega)
    rw [show tmK cA none (epS k) = epK k from rfl, show okK none = true from rfl] at hM
    by_cases he : ckE most ts true (epK k) = 0
    · obtain ⟨g1, g2, g3⟩ := rg_ok hk he
      rw [g1, g2, g3]
      rw [he] at hM
      generalize ckX most ts true (epK k) = X at *
      generalize ckT most ts true (epK k) = T at *
      unfold epS epW at hM
      generalize numS k = S at *
      have HM := Lib.hid hM
      have HN := Lib.hid hN
      have HV := Lib.hid hV
      clear hM hN hV he hk g1 g2 g3
      go_enter Try.func8, Try.ntmps8
      go_wp2_with (first
        | (go_at_call 19; (with_reducible refine (HV.out _).mono ?_); rintro e w1 ⟨rfl, rfl⟩)
        | (go_at_call 21; (with_reducible refine (HN.out _).mono ?_); rintro e w1 ⟨rfl, hb⟩; replace hS := hS.lay (refA_good _ _ _) hb; clear hb)
        | (go_at_call 20; (with_reducible refine (Becomes.op HM.out hS).mono ?_); rintro e w1 ⟨rfl, hS1⟩))
      go_ret2
      exact ⟨rfl, hS1⟩
    · obtain ⟨g1, g2, g3⟩ := rg_no hk he
      rw [g1, g2, g3]
      obtain ⟨_, he3⟩ := rg_ckX_ne he
      rw [he3] at hM
      generalize ckX most ts true (epK k) = X at *
      generalize ckT most ts true (epK k) = T at *
      unfold epS epW at hM
      generalize numS k = S at *
      have HM := Lib.hid hM
      have HN := Lib.hid hN
      have HV := Lib.hid hV
      clear hM hN hV he he3 hk g1 g2 g3
      go_enter Try.func8, Try.ntmps8
      go_wp2_with (first
        | (go_at_call 19; (with_reducible refine (HV.out _).mono ?_); rintro e w1 ⟨rfl, rfl⟩)
        | (go_at_call 21; (with_reducible refine (HN.out _).mono ?_); rintro e w1 ⟨rfl, hb⟩; replace hS := hS.lay (refA_good _ _ _) hb; clear hb)
        | (go_at_call 20; (with_reducible refine (Becomes.op HM.out hS).mono ?_); rintro e w1 ⟨rfl, hS1⟩))
      go_ret2
      exact ⟨rfl, hS1⟩
  · have hk' : okNum k = false := by simpa using hk
    obtain ⟨g1, g2, g3⟩ := rg_bad (most := most) (ts := ts) hk'
    rw [g1, g2, g3]
    have HV := Lib.hid (fun w => rgnum k false hk'.symm w)
    clear hk hk' g1 g2 g3
    go_enter Try.func8, Try.ntmps8
    go_wp2_with (go_at_call 19; (with_reducible refine (HV.out _).mono ?_); rintro e w1 ⟨rfl, rfl⟩)
    go_ret2
    exact ⟨rfl, hS⟩
end Go.Proofs.Ytcfibjfhmfdmkaa
