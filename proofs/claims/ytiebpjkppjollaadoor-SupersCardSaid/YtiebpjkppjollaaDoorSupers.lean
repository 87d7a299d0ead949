/- The walk of Supers: the program's superblocks against the reference's. Conditions: the book's size, the texts', the handle of the type error. -/
import Derived.Test.YtiebpjkppjollaaDoorSuaw
import Derived.Test.YtiebpjkppjollaaDoorSuget
import Derived.Test.YtiebpjkppjollaaDoorIArg
import Derived.IntWalk
import Derived.Laws.BitsLemmas
namespace Go.Proofs.YtiebpjkppjollaaDoor
open Go Go.RowKit

theorem suS_small (most : Int) (ts : List ByteArray) (b : Int) : (suS most ts b).size ≤ 9223372036854770000 := by
  unfold suS
  split
  · rw [suSec_size]; decide
  · exact Nat.zero_le _
set_option maxRecDepth 100000 in
set_option maxHeartbeats 8000000 in
theorem supers_ok (most : Int) (ao : Option Addr) (cap : Nat) (zs : List Int) (s t : ByteArray) (w : World) (hg : Gd w) (hA : IArg w ao zs) (h1 : 1 ≤ most) (h2 : most ≤ 65536) (hs : s.size ≤ 9223372036854770000) (ht : t.size ≤ 9223372036854770000) :
    Calls Tryd.prog 8 #[.int .i64 most, .slice ao zs.length cap, .string s, .string t] w fun e w' => e = .returned (.bool true) ∧ Below w.heap.size w w' := by
  have hfew := hA.few
  have HA := Lib.hid hA
  have HG := Lib.hid hg
  clear hA hg
  go_enter Tryd.func8, Tryd.ntmps8
  go_wp2_with (first
    | (go_at_call 22; (with_reducible refine (twin_none10 most _ h1 h2).mono ?_); rintro e w1 ⟨p, q, rfl, hb⟩; have hS := At.start hb; clear hb))
  go_loopw [11, 12, 13] (fun x y z wr => ∃ (k : Nat) (ts : List ByteArray) (one tw : ByteArray), k ≤ zs.length ∧ k ≤ 10 ∧ z = .int .i64 (k : Int) ∧ x = .string one ∧ y = .string tw ∧ one.size ≤ 9223372036854770000 ∧ tw.size ≤ 9223372036854770000 ∧ ts.length ≤ k ∧ At w (two p q most ts) wr) (fun _ _ z _ => zs.length - (intOf z).toNat)
  case atStart => exact ⟨0, [], s, t, Nat.zero_le _, Nat.zero_le _, rfl, rfl, rfl, hs, ht, Nat.le_refl _, hS⟩
  case round =>
    clear hS
    obtain ⟨k, ts, one, tw, hk, hk10, rfl, rfl, rfl, ho, hw, hts, hS⟩ := hrel
    have hgo : (k < zs.length ∧ k < 10) ∨ (¬ k < zs.length ∨ ¬ k < 10) := by omega
    rcases hgo with ⟨hlt, h10⟩ | hend
    · obtain ⟨b, off, z, rfl, _, _, hcw⟩ := HA.out.at hlt
      have HC := Lib.hid hcw
      have hc := hcw _ hS.bel
      clear hcw
      have hT : (suT most ts z).length ≤ k + 1 := Nat.le_trans (suT_len z) (by omega)
      have HP := dsput p most ts z (by omega)
      have HQ := drsput q most ts z (by omega)
      have HGP := fun u hu => dsget p most (suT most ts z) u hu
      have HGR := fun u hu => drsget q most (suT most ts z) u hu
      have HKP := fun u v hu hv => dspick p most (suT most ts z) u v hu hv
      have HKR := fun u v hu hv => drpick q most (suT most ts z) u v hu hv
      have hss := suS_small most ts z
      have hE : suE most ts z = 0 ∨ suE most ts z = 1000 := by unfold suE; split <;> simp
      have hpar := i64_mask (k : Int) 1 (by omega)
      rw [show ((2 ^ 1 - 1 : Nat) : Int) = 1 from rfl, show ((2 ^ 1 : Nat) : Int) = 2 from rfl] at hpar
      generalize sgX (suT most ts z) = gx at *
      generalize sgE (suT most ts z) = ge at *
      generalize pkX (suT most ts z) = kx at *
      generalize pkP (suT most ts z) = kp at *
      generalize pkE (suT most ts z) = ke at *
      generalize suS most ts z = S at *
      generalize suT most ts z = T at *
      replace HGP := Lib.hid HGP
      replace HGR := Lib.hid (fun u hu => (HGR u hu).g)
      replace HKP := Lib.hid HKP
      replace HKR := Lib.hid (fun u v hu hv => (HKR u v hu hv).g)
      rcases hE with hE | hE
      · rw [hE] at HP HQ
        clear hE
        replace HP := Lib.hid HP.g
        replace HQ := Lib.hid HQ.g
        rcases Int.emod_two_eq (k : Int) with h0 | h0
        · rw [h0] at hpar
          clear h0
          go_wp2_with (first
            | (go_at_call 24; (with_reducible refine (At.op1G HP.out (refA_good _ _ _) emp_good HG.out hS).mono ?_); rintro e w1 ⟨rfl, hS1⟩; replace hS := hS1; clear hS1; have hc := HC.out _ hS.bel)
            | (go_at_call 25; (with_reducible refine (At.op0G HQ.out (good1 _ _ _) HG.out hS).mono ?_); rintro e w1 ⟨rfl, hS1⟩; replace hS := hS1; clear hS1)
            | (go_at_call 26; (with_reducible refine (At.op1G (HGP.out _ hss) (refA_good _ _ _) emp_good HG.out hS).mono ?_); rintro e w1 ⟨rfl, hS1⟩; replace hS := hS1; clear hS1)
            | (go_at_call 27; (with_reducible refine (At.op0G (HGR.out _ hss) (good1 _ _ _) HG.out hS).mono ?_); rintro e w1 ⟨rfl, hS1⟩; replace hS := hS1; clear hS1)
            | (go_at_call 28; (with_reducible refine (At.op1G (HKP.out _ _ hss hw) (refA_good _ _ _) emp_good HG.out hS).mono ?_); rintro e w1 ⟨rfl, hS1⟩; replace hS := hS1; clear hS1)
            | (go_at_call 29; (with_reducible refine (At.op0G (HKR.out _ _ hss hw) (good1 _ _ _) HG.out hS).mono ?_); rintro e w1 ⟨rfl, hS1⟩; replace hS := hS1; clear hS1)
            | (go_at_call 16; (with_reducible refine (lnum _ _).mono ?_); rintro e w1 ⟨rfl, rfl⟩))
          go_roundw
          case rel => exact ⟨k + 1, T, S, tw, by omega, by omega, by go_num, rfl, rfl, hss, hw, by omega, hS⟩
          case measure => simp [intOf]; omega
        · rw [h0] at hpar
          clear h0
          go_wp2_with (first
            | (go_at_call 24; (with_reducible refine (At.op1G HP.out (refA_good _ _ _) emp_good HG.out hS).mono ?_); rintro e w1 ⟨rfl, hS1⟩; replace hS := hS1; clear hS1; have hc := HC.out _ hS.bel)
            | (go_at_call 25; (with_reducible refine (At.op0G HQ.out (good1 _ _ _) HG.out hS).mono ?_); rintro e w1 ⟨rfl, hS1⟩; replace hS := hS1; clear hS1)
            | (go_at_call 26; (with_reducible refine (At.op1G (HGP.out _ ho) (refA_good _ _ _) emp_good HG.out hS).mono ?_); rintro e w1 ⟨rfl, hS1⟩; replace hS := hS1; clear hS1)
            | (go_at_call 27; (with_reducible refine (At.op0G (HGR.out _ ho) (good1 _ _ _) HG.out hS).mono ?_); rintro e w1 ⟨rfl, hS1⟩; replace hS := hS1; clear hS1)
            | (go_at_call 28; (with_reducible refine (At.op1G (HKP.out _ _ ho hss) (refA_good _ _ _) emp_good HG.out hS).mono ?_); rintro e w1 ⟨rfl, hS1⟩; replace hS := hS1; clear hS1)
            | (go_at_call 29; (with_reducible refine (At.op0G (HKR.out _ _ ho hss) (good1 _ _ _) HG.out hS).mono ?_); rintro e w1 ⟨rfl, hS1⟩; replace hS := hS1; clear hS1)
            | (go_at_call 16; (with_reducible refine (lnum _ _).mono ?_); rintro e w1 ⟨rfl, rfl⟩))
          go_roundw
          case rel => exact ⟨k + 1, T, one, S, by omega, by omega, by go_num, rfl, rfl, ho, hss, by omega, hS⟩
          case measure => simp [intOf]; omega
      · rw [hE] at HP HQ
        clear hE hpar
        replace HP := Lib.hid HP.g
        replace HQ := Lib.hid HQ.g
        go_wp2_with (first
          | (go_at_call 24; (with_reducible refine (At.op1G HP.out (refA_good _ _ _) emp_good HG.out hS).mono ?_); rintro e w1 ⟨rfl, hS1⟩; replace hS := hS1; clear hS1; have hc := HC.out _ hS.bel)
          | (go_at_call 25; (with_reducible refine (At.op0G HQ.out (good1 _ _ _) HG.out hS).mono ?_); rintro e w1 ⟨rfl, hS1⟩; replace hS := hS1; clear hS1)
          | (go_at_call 26; (with_reducible refine (At.op1G (HGP.out _ ho) (refA_good _ _ _) emp_good HG.out hS).mono ?_); rintro e w1 ⟨rfl, hS1⟩; replace hS := hS1; clear hS1)
          | (go_at_call 27; (with_reducible refine (At.op0G (HGR.out _ ho) (good1 _ _ _) HG.out hS).mono ?_); rintro e w1 ⟨rfl, hS1⟩; replace hS := hS1; clear hS1)
          | (go_at_call 28; (with_reducible refine (At.op1G (HKP.out _ _ ho hw) (refA_good _ _ _) emp_good HG.out hS).mono ?_); rintro e w1 ⟨rfl, hS1⟩; replace hS := hS1; clear hS1)
          | (go_at_call 29; (with_reducible refine (At.op0G (HKR.out _ _ ho hw) (good1 _ _ _) HG.out hS).mono ?_); rintro e w1 ⟨rfl, hS1⟩; replace hS := hS1; clear hS1)
          | (go_at_call 16; (with_reducible refine (lnum _ _).mono ?_); rintro e w1 ⟨rfl, rfl⟩))
        go_roundw
        case rel => exact ⟨k + 1, T, one, tw, by omega, by omega, by go_num, rfl, rfl, ho, hw, by omega, hS⟩
        case measure => simp [intOf]; omega
    · have HKP := dspick p most ts s t hs ht
      have HKR := drpick q most ts s t hs ht
      generalize pkX ts s t = kx at *
      generalize pkP ts s t = kp at *
      generalize pkE ts s t = ke at *
      replace HKP := Lib.hid HKP
      replace HKR := Lib.hid HKR.g
      have hend2 : (k = zs.length ∧ k < 10) ∨ (k < zs.length ∧ k = 10) ∨ (k = zs.length ∧ k = 10) := by omega
      clear hend
      rcases hend2 with ⟨rfl, h10⟩ | ⟨hlt, rfl⟩ | ⟨rfl, h10⟩
      all_goals
        go_wp2_with (first
          | (go_at_call 28; (with_reducible refine (At.op1G HKP.out (refA_good _ _ _) emp_good HG.out hS).mono ?_); rintro e w1 ⟨rfl, hS1⟩; replace hS := hS1; clear hS1)
          | (go_at_call 29; (with_reducible refine (At.op0G HKR.out (good1 _ _ _) HG.out hS).mono ?_); rintro e w1 ⟨rfl, hS1⟩; replace hS := hS1; clear hS1)
          | (go_at_call 30; (with_reducible refine (asame10 p q most ts hS).mono ?_); rintro e w1 ⟨rfl, hS1⟩; replace hS := hS1; clear hS1)
          | (go_at_call 23; (with_reducible refine (awake10 _ (hS.gd HG.out)).mono ?_); rintro e w1 ⟨rfl, hb⟩; replace hS := hS.lay (two_good _ _ _ _) hb; clear hb)
          | (go_at_call 16; (with_reducible refine (lnum _ _).mono ?_); rintro e w1 ⟨rfl, rfl⟩))
        go_ret
        exact ⟨rfl, hS.bel⟩
set_option maxRecDepth 100000 in
theorem supers_bad (most : Int) (ao : Option Addr) (len cap : Nat) (s t : ByteArray) (w : World) (hg : Gd w) (h : most < 1 ∨ 65536 < most) :
    Calls Tryd.prog 8 #[.int .i64 most, .slice ao len cap, .string s, .string t] w fun e w' => e = .returned (.bool true) ∧ Below w.heap.size w w' := by
  have HW := Lib.hid (awake10 w hg)
  clear hg
  go_enter Tryd.func8, Tryd.ntmps8
  go_wp2_with (first
    | (go_at_call 22; (with_reducible refine (twin_bad10 most _ _ _ _ h).mono ?_); rintro e w1 ⟨rfl, rfl⟩)
    | (go_at_call 23; (with_reducible refine (HW.out).mono ?_); rintro e w1 ⟨rfl, hb⟩))
  go_ret
  exact ⟨rfl, hb⟩
theorem supers_walk (most : Int) (ao : Option Addr) (cap : Nat) (zs : List Int) (s t : ByteArray) (w : World) (hg : Gd w) (hA : IArg w ao zs) (hs : s.size ≤ 9223372036854770000) (ht : t.size ≤ 9223372036854770000) :
    Calls Tryd.prog 8 #[.int .i64 most, .slice ao zs.length cap, .string s, .string t] w fun e w' => e = .returned (.bool true) ∧ Below w.heap.size w w' := by
  by_cases h : most < 1 ∨ 65536 < most
  · exact supers_bad most ao zs.length cap s t w hg h
  · exact supers_ok most ao cap zs s t w hg hA (by omega) (by omega) hs ht
end Go.Proofs.YtiebpjkppjollaaDoor
