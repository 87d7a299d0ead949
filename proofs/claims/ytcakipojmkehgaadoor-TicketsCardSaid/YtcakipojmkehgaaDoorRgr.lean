
/- The reference's RingKey and RingLive: what they answer and leave. Condition: the numbers are of 64 bits. -/
import Derived.Test.YtcakipojmkehgaaDoorRg
import Derived.Test.YtcakipojmkehgaaDoorBbk
import Derived.Test.YtcakipojmkehgaaDoorBme
namespace Go.Proofs.YtcakipojmkehgaaDoor
open Go Go.RowKit Go.Maps

theorem rgnum (x : Int) (r : Bool) (h : r = okNum x) (w : World) : Calls Tryd.prog 29 #[.int .i64 x] w fun e w' => e = .returned (.bool r) ∧ w = w' := by
  subst h
  go_enter Tryd.func29, Tryd.ntmps29
  go_wp2
  all_goals (go_ret; refine ⟨?_, rfl⟩; congr 2; unfold okNum; simp [*] <;> omega)
set_option maxRecDepth 100000 in
set_option maxHeartbeats 1000000 in
theorem rgkey (p : Nat) (most : Int) (ts : List ByteArray) (k : Int) (s0 : -9223372036854775808 ≤ k) (s1 : k ≤ 9223372036854775807) :
    Does Tryd.prog (refA p most ts) 26 #[.pointer (some ⟨p, 0, none⟩), .int .i64 k] (.returned (.tuple #[.int .i64 (rgX most ts k), .int .i64 (rgE most ts k)])) (refA p most (rgT most ts k)) := by
  intro w F h
  have hS := Becomes.refl h
  clear h
  have hn5 := numS_size5 k
  by_cases hk : okNum k = true
  · obtain ⟨k0, k1⟩ := (okNum_iff k).1 hk
    have hV := fun w => rgnum k true hk.symm w
    have hN := fun W => rnums1 k W (by omega) (by omega) 3
    have hM := dratom p most ts (epS k) (by have := epS_size k; omega)
    rw [show tmK cA none (epS k) = epK k from rfl, show okK none = true from rfl] at hM
    by_cases he : ckE most ts true (epK k) = 0
    · obtain ⟨g1, g2, g3⟩ := rg_ok hk he
      rw [g1, g2, g3]
      rw [he] at hM
      generalize ckX most ts true (epK k) = X at *
      generalize ckT most ts true (epK k) = T at *
      unfold epS epW at hM
      generalize numS k = S at *
      have HM := Lib.hid hM
      have HN := Lib.hid hN
      have HV := Lib.hid hV
      clear hM hN hV he hk g1 g2 g3
      go_enter Tryd.func26, Tryd.ntmps26
      go_wp2_with (first
        | (go_at_call 29; (with_reducible refine (HV.out _).mono ?_); rintro e w1 ⟨rfl, rfl⟩)
        | (go_at_call 18; (with_reducible refine (HN.out _).mono ?_); rintro e w1 ⟨rfl, hb⟩; replace hS := hS.lay (refA_good _ _ _) hb; clear hb)
        | (go_at_call 43; (with_reducible refine (Becomes.op HM.out hS).mono ?_); rintro e w1 ⟨rfl, hS1⟩))
      go_ret2
      exact ⟨rfl, hS1⟩
    · obtain ⟨g1, g2, g3⟩ := rg_no hk he
      rw [g1, g2, g3]
      obtain ⟨_, he3⟩ := rg_ckX_ne he
      rw [he3] at hM
      generalize ckX most ts true (epK k) = X at *
      generalize ckT most ts true (epK k) = T at *
      unfold epS epW at hM
      generalize numS k = S at *
      have HM := Lib.hid hM
      have HN := Lib.hid hN
      have HV := Lib.hid hV
      clear hM hN hV he he3 hk g1 g2 g3
      go_enter Tryd.func26, Tryd.ntmps26
      go_wp2_with (first
        | (go_at_call 29; (with_reducible refine (HV.out _).mono ?_); rintro e w1 ⟨rfl, rfl⟩)
        | (go_at_call 18; (with_reducible refine (HN.out _).mono ?_); rintro e w1 ⟨rfl, hb⟩; replace hS := hS.lay (refA_good _ _ _) hb; clear hb)
        | (go_at_call 43; (with_reducible refine (Becomes.op HM.out hS).mono ?_); rintro e w1 ⟨rfl, hS1⟩))
      go_ret2
      exact ⟨rfl, hS1⟩
  · have hk' : okNum k = false := by simpa using hk
    obtain ⟨g1, g2, g3⟩ := rg_bad (most := most) (ts := ts) hk'
    rw [g1, g2, g3]
    have HV := Lib.hid (fun w => rgnum k false hk'.symm w)
    clear hk hk' g1 g2 g3
    go_enter Tryd.func26, Tryd.ntmps26
    go_wp2_with (go_at_call 29; (with_reducible refine (HV.out _).mono ?_); rintro e w1 ⟨rfl, rfl⟩)
    go_ret2
    exact ⟨rfl, hS⟩
end Go.Proofs.YtcakipojmkehgaaDoor
