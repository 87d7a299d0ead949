/- The walk of BookRows: at every row of terms it answers true. No condition. -/
import Derived.Test.YtebmineddgpjjaaBarg
import Derived.Test.YtebmineddgpjjaaBplain2
import Derived.IntWalk
namespace Go.Proofs.Ytebmineddgpjjaa
open Go Go.RowKit Go.Maps Go.BigFrame

theorem lnum' (n : Int) (w : World) : Calls Try.prog 9 #[.int .i64 n] w fun e w' => e = .returned (.int .i64 n) ∧ w' = w :=
  (lnum n w).mono fun _ _ ⟨a, b⟩ => ⟨a, b.symm⟩
/-- What has been named forwards, and backwards. -/
def fwd (ss : List ByteArray) (i : Nat) (t : ByteArray) : Prop := ∃ j, j < i ∧ t = ss.getD j ⟨#[]⟩
def bwd (ss : List ByteArray) (K i : Nat) (t : ByteArray) : Prop := ∃ j, j < K ∧ K ≤ j + i ∧ t = ss.getD j ⟨#[]⟩
theorem fwd_zero (ss : List ByteArray) (t : ByteArray) : ¬ fwd ss 0 t := fun ⟨_, h, _⟩ => by omega
theorem bwd_zero (ss : List ByteArray) (K : Nat) (t : ByteArray) : ¬ bwd ss K 0 t := fun ⟨_, h, h', _⟩ => by omega
theorem fwd_succ (ss : List ByteArray) (i : Nat) (t : ByteArray) : fwd ss (i + 1) t ↔ fwd ss i t ∨ t = ss.getD i ⟨#[]⟩ := by
  constructor
  · rintro ⟨j, h, e⟩
    by_cases c : j = i
    · subst c; exact .inr e
    · exact .inl ⟨j, by omega, e⟩
  · rintro (⟨j, h, e⟩ | e)
    · exact ⟨j, by omega, e⟩
    · exact ⟨i, by omega, e⟩
theorem bwd_succ (ss : List ByteArray) (K i : Nat) (h : i < K) (t : ByteArray) : bwd ss K (i + 1) t ↔ bwd ss K i t ∨ t = ss.getD (K - 1 - i) ⟨#[]⟩ := by
  constructor
  · rintro ⟨j, h1, h2, e⟩
    by_cases c : j = K - 1 - i
    · subst c; exact .inr e
    · exact .inl ⟨j, h1, by omega, e⟩
  · rintro (⟨j, h1, h2, e⟩ | e)
    · exact ⟨j, h1, by omega, e⟩
    · exact ⟨K - 1 - i, by omega, by omega, e⟩
theorem fwd_bwd (ss : List ByteArray) (K : Nat) (t : ByteArray) : fwd ss K t ↔ bwd ss K K t :=
  ⟨fun ⟨j, h, e⟩ => ⟨j, h, by omega, e⟩, fun ⟨j, h, _, e⟩ => ⟨j, h, e⟩⟩

abbrev twoB (p q : Nat) (most : Int) (ta tb : List ByteArray) : Ass := (bookA q most tb).star ((bookA p most ta).star emp)
theorem twoB_good (p q : Nat) (most : Int) (ta tb : List ByteArray) : (twoB p q most ta tb).Good := (bookA_good _ _ _).star (good1 _ _ _)

set_option maxRecDepth 100000 in
set_option maxHeartbeats 8000000 in
theorem rows_walk (ao : Option Addr) (cap : Nat) (ss : List ByteArray) (w : World) (hA : SArg w ao ss) :
    Calls Try.prog 6 #[.slice ao ss.length cap] w fun e w' => e = .returned (.bool true) ∧ Below w.heap.size w w' := by
  have hfew := hA.few
  have HA := Lib.hid hA
  clear hA
  obtain ⟨K, hK, hK1, hK2⟩ : ∃ K : Nat, min (ss.length : Int) 20 = (K : Int) ∧ K ≤ ss.length ∧ K ≤ 20 := ⟨min ss.length 20, by omega, by omega, by omega⟩
  go_enter Try.func6, Try.ntmps6
  go_wp2_with (first
    | (go_at_call 10; (with_reducible refine (awake2 _).mono ?_); rintro e w1 ⟨rfl, hb1⟩; have hS := At.none hb1; clear hb1)
    | (go_at_call 7; first | ((with_reducible refine (bnew_ok 99 _ (by omega) (by omega)).mono ?_); rintro e w1 ⟨p, rfl, hb⟩; replace hS := At.add emp_good hS hb; clear hb) | ((with_reducible refine (bnew_ok 99 _ (by omega) (by omega)).mono ?_); rintro e w1 ⟨q, rfl, hb⟩; replace hS := At.add (good1 _ _ _) hS hb; clear hb))
    | (go_at_call 9; refine (lnum _ _).mono ?_; rintro e w1 ⟨rfl, rfl⟩))
  have HK := Lib.hid hK
  clear hK
  go_loopw [8] (fun i wr => ∃ (k : Nat) (ta tb : List ByteArray), k ≤ K ∧ i = .int .i64 k ∧ At w (twoB p q 99 ta tb) wr ∧ Fs ta (fwd ss k) k ∧ Fs tb (bwd ss K k) k) (fun i _ => K - (intOf i).toNat)
  case atStart => exact ⟨0, [], [], Nat.zero_le _, rfl, hS, Fs_nil (fwd_zero ss), Fs_nil (bwd_zero ss K)⟩
  case round =>
    clear hS
    obtain ⟨k, ta, tb, hk, rfl, hS, hfa, hfb⟩ := hrel
    by_cases hlt : k < K
    · obtain ⟨b, off, s, rfl, hs, hsz, hcw⟩ := HA.out.at (k := k) (by omega)
      obtain ⟨b2, off2, s2, hao, hs2, hsz2, hcw2⟩ := HA.out.at (k := K - 1 - k) (by omega)
      obtain ⟨rfl, rfl⟩ : b = b2 ∧ off = off2 := by simpa using hao
      have hfa' : Fs (nmT 99 ta s) (fwd ss (k + 1)) (k + 1) := Fs_step hfa (by omega) (fun t => by rw [fwd_succ, hs])
      have hfb' : Fs (nmT 99 tb s2) (bwd ss K (k + 1)) (k + 1) := Fs_step hfb (by omega) (fun t => by rw [bwd_succ ss K k hlt, hs2])
      have hca := nm_cases 99 ta s (by have := hfa.le; omega)
      have hcb := nm_cases 99 tb s2 (by have := hfb.le; omega)
      have hda := dname p 99 ta s hsz
      have hdb := dname q 99 tb s2 hsz2
      have hq0 : 0 ≤ (k : Int) := by omega
      have hq1 : (k : Int) < (ss.length : Int) := by omega
      have hz0 : 0 ≤ (K : Int) - 1 - (k : Int) := by omega
      have hz1 : (K : Int) - 1 - (k : Int) < (ss.length : Int) := by omega
      clear hao hs hs2
      generalize nmT 99 ta s = ta' at *
      generalize nmT 99 tb s2 = tb' at *
      generalize nmX 99 ta s = xa at *
      generalize nmX 99 tb s2 = xb at *
      generalize nmE 99 ta s = ea at *
      generalize nmE 99 tb s2 = eb at *
      have Hcw := Lib.hid hcw
      have Hcw2 := Lib.hid hcw2
      have Hda := Lib.hid hda
      have Hdb := Lib.hid hdb
      have Hfa := Lib.hid hfa'
      have Hfb := Lib.hid hfb'
      have hc := hcw _ hS.bel
      have hc2 := hcw2 _ hS.bel
      clear hcw hcw2 hda hdb hfa' hfb' hfa hfb
      rcases hca with ⟨ha1, ha2, -, rfl, ha3⟩ | ⟨ha1, -, rfl, rfl⟩ | ⟨ha1, -, rfl, rfl⟩ <;> rcases hcb with ⟨hb1, hb2, -, rfl, hb3⟩ | ⟨hb1, -, rfl, rfl⟩ | ⟨hb1, -, rfl, rfl⟩
      case inl.inl =>
        have hxb : decide (xb < 0) = false := by simp; omega
        have hxa : decide (xa < 0) = false := by simp; omega
        have da1 : decide ((1 : Int) ≤ (s.size : Int)) = true := by simp; omega
        have da2 : decide ((s.size : Int) ≤ 512) = true := by simp; omega
        have db1 : decide ((1 : Int) ≤ (s2.size : Int)) = true := by simp; omega
        have db2 : decide ((s2.size : Int) ≤ 512) = true := by simp; omega
        go_wp2_with (first
          | (go_at_call 13; first | ((with_reducible refine (At.op1 Hda.out (bookA_good _ _ _) emp_good hS).mono ?_); rintro e w1 ⟨rfl, hS1⟩; replace hS := hS1; clear hS1; have hc := Hcw.out _ hS.bel; have hc2 := Hcw2.out _ hS.bel) | ((with_reducible refine (At.op0 Hdb.out (good1 _ _ _) hS).mono ?_); rintro e w1 ⟨rfl, hS1⟩; replace hS := hS1; clear hS1; have hc := Hcw.out _ hS.bel; have hc2 := Hcw2.out _ hS.bel)))
        go_big_quiet ((go_at_call 9; exact Calls.quiet_of_same (lnum' _ _)))
        go_wp2
        go_roundw
        case rel => exact ⟨k + 1, ta', tb', by omega, by go_num, hS.lay (twoB_good _ _ _ _ _) (below_drewN _ _), Hfa.out, Hfb.out⟩
        case measure => simp [intOf]; omega
      case inl.inr.inl =>
        have hxa : decide (xa < 0) = false := by simp; omega
        have da1 : decide ((1 : Int) ≤ (s.size : Int)) = true := by simp; omega
        have da2 : decide ((s.size : Int) ≤ 512) = true := by simp; omega
        have db1 : decide ((1 : Int) ≤ (s2.size : Int)) = false := by simp; omega
        go_wp2_with (first
          | (go_at_call 13; first | ((with_reducible refine (At.op1 Hda.out (bookA_good _ _ _) emp_good hS).mono ?_); rintro e w1 ⟨rfl, hS1⟩; replace hS := hS1; clear hS1; have hc := Hcw.out _ hS.bel; have hc2 := Hcw2.out _ hS.bel) | ((with_reducible refine (At.op0 Hdb.out (good1 _ _ _) hS).mono ?_); rintro e w1 ⟨rfl, hS1⟩; replace hS := hS1; clear hS1; have hc := Hcw.out _ hS.bel; have hc2 := Hcw2.out _ hS.bel)))
        go_big_quiet ((go_at_call 9; exact Calls.quiet_of_same (lnum' _ _)))
        go_wp2
        go_roundw
        case rel => exact ⟨k + 1, ta', tb', by omega, by go_num, hS.lay (twoB_good _ _ _ _ _) (below_drewN _ _), Hfa.out, Hfb.out⟩
        case measure => simp [intOf]; omega
      case inl.inr.inr =>
        have hxa : decide (xa < 0) = false := by simp; omega
        have da1 : decide ((1 : Int) ≤ (s.size : Int)) = true := by simp; omega
        have da2 : decide ((s.size : Int) ≤ 512) = true := by simp; omega
        have db1 : decide ((1 : Int) ≤ (s2.size : Int)) = true := by simp; omega
        have db2 : decide ((s2.size : Int) ≤ 512) = false := by simp; omega
        go_wp2_with (first
          | (go_at_call 13; first | ((with_reducible refine (At.op1 Hda.out (bookA_good _ _ _) emp_good hS).mono ?_); rintro e w1 ⟨rfl, hS1⟩; replace hS := hS1; clear hS1; have hc := Hcw.out _ hS.bel; have hc2 := Hcw2.out _ hS.bel) | ((with_reducible refine (At.op0 Hdb.out (good1 _ _ _) hS).mono ?_); rintro e w1 ⟨rfl, hS1⟩; replace hS := hS1; clear hS1; have hc := Hcw.out _ hS.bel; have hc2 := Hcw2.out _ hS.bel)))
        go_big_quiet ((go_at_call 9; exact Calls.quiet_of_same (lnum' _ _)))
        go_wp2
        go_roundw
        case rel => exact ⟨k + 1, ta', tb', by omega, by go_num, hS.lay (twoB_good _ _ _ _ _) (below_drewN _ _), Hfa.out, Hfb.out⟩
        case measure => simp [intOf]; omega
      case inr.inl.inl =>
        have hxb : decide (xb < 0) = false := by simp; omega
        have da1 : decide ((1 : Int) ≤ (s.size : Int)) = false := by simp; omega
        have db1 : decide ((1 : Int) ≤ (s2.size : Int)) = true := by simp; omega
        have db2 : decide ((s2.size : Int) ≤ 512) = true := by simp; omega
        go_wp2_with (first
          | (go_at_call 13; first | ((with_reducible refine (At.op1 Hda.out (bookA_good _ _ _) emp_good hS).mono ?_); rintro e w1 ⟨rfl, hS1⟩; replace hS := hS1; clear hS1; have hc := Hcw.out _ hS.bel; have hc2 := Hcw2.out _ hS.bel) | ((with_reducible refine (At.op0 Hdb.out (good1 _ _ _) hS).mono ?_); rintro e w1 ⟨rfl, hS1⟩; replace hS := hS1; clear hS1; have hc := Hcw.out _ hS.bel; have hc2 := Hcw2.out _ hS.bel)))
        go_big_quiet ((go_at_call 9; exact Calls.quiet_of_same (lnum' _ _)))
        go_wp2
        go_roundw
        case rel => exact ⟨k + 1, ta', tb', by omega, by go_num, hS.lay (twoB_good _ _ _ _ _) (below_drewN _ _), Hfa.out, Hfb.out⟩
        case measure => simp [intOf]; omega
      case inr.inl.inr.inl =>
        have da1 : decide ((1 : Int) ≤ (s.size : Int)) = false := by simp; omega
        have db1 : decide ((1 : Int) ≤ (s2.size : Int)) = false := by simp; omega
        go_wp2_with (first
          | (go_at_call 13; first | ((with_reducible refine (At.op1 Hda.out (bookA_good _ _ _) emp_good hS).mono ?_); rintro e w1 ⟨rfl, hS1⟩; replace hS := hS1; clear hS1; have hc := Hcw.out _ hS.bel; have hc2 := Hcw2.out _ hS.bel) | ((with_reducible refine (At.op0 Hdb.out (good1 _ _ _) hS).mono ?_); rintro e w1 ⟨rfl, hS1⟩; replace hS := hS1; clear hS1; have hc := Hcw.out _ hS.bel; have hc2 := Hcw2.out _ hS.bel)))
        go_big_quiet ((go_at_call 9; exact Calls.quiet_of_same (lnum' _ _)))
        go_wp2
        go_roundw
        case rel => exact ⟨k + 1, ta', tb', by omega, by go_num, hS.lay (twoB_good _ _ _ _ _) (below_drewN _ _), Hfa.out, Hfb.out⟩
        case measure => simp [intOf]; omega
      case inr.inl.inr.inr =>
        have da1 : decide ((1 : Int) ≤ (s.size : Int)) = false := by simp; omega
        have db1 : decide ((1 : Int) ≤ (s2.size : Int)) = true := by simp; omega
        have db2 : decide ((s2.size : Int) ≤ 512) = false := by simp; omega
        go_wp2_with (first
          | (go_at_call 13; first | ((with_reducible refine (At.op1 Hda.out (bookA_good _ _ _) emp_good hS).mono ?_); rintro e w1 ⟨rfl, hS1⟩; replace hS := hS1; clear hS1; have hc := Hcw.out _ hS.bel; have hc2 := Hcw2.out _ hS.bel) | ((with_reducible refine (At.op0 Hdb.out (good1 _ _ _) hS).mono ?_); rintro e w1 ⟨rfl, hS1⟩; replace hS := hS1; clear hS1; have hc := Hcw.out _ hS.bel; have hc2 := Hcw2.out _ hS.bel)))
        go_big_quiet ((go_at_call 9; exact Calls.quiet_of_same (lnum' _ _)))
        go_wp2
        go_roundw
        case rel => exact ⟨k + 1, ta', tb', by omega, by go_num, hS.lay (twoB_good _ _ _ _ _) (below_drewN _ _), Hfa.out, Hfb.out⟩
        case measure => simp [intOf]; omega
      case inr.inr.inl =>
        have hxb : decide (xb < 0) = false := by simp; omega
        have da1 : decide ((1 : Int) ≤ (s.size : Int)) = true := by simp; omega
        have da2 : decide ((s.size : Int) ≤ 512) = false := by simp; omega
        have db1 : decide ((1 : Int) ≤ (s2.size : Int)) = true := by simp; omega
        have db2 : decide ((s2.size : Int) ≤ 512) = true := by simp; omega
        go_wp2_with (first
          | (go_at_call 13; first | ((with_reducible refine (At.op1 Hda.out (bookA_good _ _ _) emp_good hS).mono ?_); rintro e w1 ⟨rfl, hS1⟩; replace hS := hS1; clear hS1; have hc := Hcw.out _ hS.bel; have hc2 := Hcw2.out _ hS.bel) | ((with_reducible refine (At.op0 Hdb.out (good1 _ _ _) hS).mono ?_); rintro e w1 ⟨rfl, hS1⟩; replace hS := hS1; clear hS1; have hc := Hcw.out _ hS.bel; have hc2 := Hcw2.out _ hS.bel)))
        go_big_quiet ((go_at_call 9; exact Calls.quiet_of_same (lnum' _ _)))
        go_wp2
        go_roundw
        case rel => exact ⟨k + 1, ta', tb', by omega, by go_num, hS.lay (twoB_good _ _ _ _ _) (below_drewN _ _), Hfa.out, Hfb.out⟩
        case measure => simp [intOf]; omega
      case inr.inr.inr.inl =>
        have da1 : decide ((1 : Int) ≤ (s.size : Int)) = true := by simp; omega
        have da2 : decide ((s.size : Int) ≤ 512) = false := by simp; omega
        have db1 : decide ((1 : Int) ≤ (s2.size : Int)) = false := by simp; omega
        go_wp2_with (first
          | (go_at_call 13; first | ((with_reducible refine (At.op1 Hda.out (bookA_good _ _ _) emp_good hS).mono ?_); rintro e w1 ⟨rfl, hS1⟩; replace hS := hS1; clear hS1; have hc := Hcw.out _ hS.bel; have hc2 := Hcw2.out _ hS.bel) | ((with_reducible refine (At.op0 Hdb.out (good1 _ _ _) hS).mono ?_); rintro e w1 ⟨rfl, hS1⟩; replace hS := hS1; clear hS1; have hc := Hcw.out _ hS.bel; have hc2 := Hcw2.out _ hS.bel)))
        go_big_quiet ((go_at_call 9; exact Calls.quiet_of_same (lnum' _ _)))
        go_wp2
        go_roundw
        case rel => exact ⟨k + 1, ta', tb', by omega, by go_num, hS.lay (twoB_good _ _ _ _ _) (below_drewN _ _), Hfa.out, Hfb.out⟩
        case measure => simp [intOf]; omega
      case inr.inr.inr.inr =>
        have da1 : decide ((1 : Int) ≤ (s.size : Int)) = true := by simp; omega
        have da2 : decide ((s.size : Int) ≤ 512) = false := by simp; omega
        have db1 : decide ((1 : Int) ≤ (s2.size : Int)) = true := by simp; omega
        have db2 : decide ((s2.size : Int) ≤ 512) = false := by simp; omega
        go_wp2_with (first
          | (go_at_call 13; first | ((with_reducible refine (At.op1 Hda.out (bookA_good _ _ _) emp_good hS).mono ?_); rintro e w1 ⟨rfl, hS1⟩; replace hS := hS1; clear hS1; have hc := Hcw.out _ hS.bel; have hc2 := Hcw2.out _ hS.bel) | ((with_reducible refine (At.op0 Hdb.out (good1 _ _ _) hS).mono ?_); rintro e w1 ⟨rfl, hS1⟩; replace hS := hS1; clear hS1; have hc := Hcw.out _ hS.bel; have hc2 := Hcw2.out _ hS.bel)))
        go_big_quiet ((go_at_call 9; exact Calls.quiet_of_same (lnum' _ _)))
        go_wp2
        go_roundw
        case rel => exact ⟨k + 1, ta', tb', by omega, by go_num, hS.lay (twoB_good _ _ _ _ _) (below_drewN _ _), Hfa.out, Hfb.out⟩
        case measure => simp [intOf]; omega
    · obtain rfl : k = K := Nat.le_antisymm hk (by omega)
      have hlen := Fs_len hfb hfa (fun t => (fwd_bwd ss k t).symm)
      have hda : ∀ j, j < k → isB ta (ss.getD j ⟨#[]⟩) = okT (ss.getD j ⟨#[]⟩) := fun j hj => by
        rw [Bool.eq_iff_iff, isB_iff, hfa.mem]
        exact ⟨fun h => h.1, fun h => ⟨h, j, hj, rfl⟩⟩
      have hdb : ∀ j, j < k → isB tb (ss.getD j ⟨#[]⟩) = okT (ss.getD j ⟨#[]⟩) := fun j hj => by
        rw [Bool.eq_iff_iff, isB_iff, hfb.mem]
        exact ⟨fun h => h.1, fun h => ⟨h, j, hj, by omega, rfl⟩⟩
      have hdl := dlen q 99 tb
      rw [hlen] at hdl
      have Hda := Lib.hid hda
      have Hdb := Lib.hid hdb
      have Hdl := Lib.hid hdl
      clear hlen hda hdb hdl hfa hfb hlt
      go_wp2
      go_loopw [13] (fun i wr => ∃ (j : Nat), j ≤ k ∧ i = .int .i64 j ∧ At w (twoB p q 99 ta tb) wr) (fun i _ => k - (intOf i).toNat)
      case atStart => exact ⟨0, Nat.zero_le _, rfl, hS⟩
      case round =>
        clear hS
        obtain ⟨j, hj, rfl, hS⟩ := hrel
        by_cases hjl : j < k
        · obtain ⟨b, off, s, rfl, hs, hsz, hcw⟩ := HA.out.at (k := j) (by omega)
          have ea := Hda.out j hjl
          have eb := Hdb.out j hjl
          rw [hs] at ea eb
          have fa := dfind p 99 ta s hsz
          have fb := dfind q 99 tb s hsz
          have hc := hcw _ hS.bel
          have Hcw := Lib.hid hcw
          have hq1 : (j : Int) < (ss.length : Int) := by omega
          have hq2 : j < ss.length := by omega
          rw [ea] at fa
          rw [eb] at fb
          by_cases hok : okT s = true
          · rw [hok] at fa fb ea eb
            have ta1 := tmS_fnd ((isB_iff _ _).1 ea)
            have tb1 := tmS_fnd ((isB_iff _ _).1 eb)
            have ga := dterm p 99 ta (fnd ta s)
            have gb := dterm q 99 tb (fnd tb s)
            rw [ta1.1, ta1.2] at ga
            rw [tb1.1, tb1.2] at gb
            generalize fnd ta s = xa at *
            generalize fnd tb s = xb at *
            have Ha := Lib.hid fa
            have Hb := Lib.hid fb
            have Ga := Lib.hid ga
            have Gb := Lib.hid gb
            clear ta1 tb1 ea eb fa fb ga gb hcw hs hok
            go_wp2_with (first
              | (go_at_call 11; first | ((with_reducible refine (At.op1 Ha.out (bookA_good _ _ _) emp_good hS).mono ?_); rintro e w1 ⟨rfl, hS1⟩; replace hS := hS1; clear hS1; have hc := Hcw.out _ hS.bel) | ((with_reducible refine (At.op0 Hb.out (good1 _ _ _) hS).mono ?_); rintro e w1 ⟨rfl, hS1⟩; replace hS := hS1; clear hS1; have hc := Hcw.out _ hS.bel))
              | (go_at_call 16; first | ((with_reducible refine (At.op1 Ga.out (bookA_good _ _ _) emp_good hS).mono ?_); rintro e w1 ⟨rfl, hS1⟩; replace hS := hS1; clear hS1; have hc := Hcw.out _ hS.bel) | ((with_reducible refine (At.op0 Gb.out (good1 _ _ _) hS).mono ?_); rintro e w1 ⟨rfl, hS1⟩; replace hS := hS1; clear hS1; have hc := Hcw.out _ hS.bel))
              | (go_at_call 9; refine (lnum _ _).mono ?_; rintro e w1 ⟨rfl, rfl⟩))
            go_roundw
            case rel => exact ⟨j + 1, by omega, by go_num, hS⟩
            case measure => simp [intOf]; omega
          · have hok' : okT s = false := by simpa using hok
            rw [hok'] at fa fb
            have Ha := Lib.hid fa
            have Hb := Lib.hid fb
            clear ea eb fa fb hcw hs hok hok'
            go_wp2_with (first
              | (go_at_call 11; first | ((with_reducible refine (At.op1 Ha.out (bookA_good _ _ _) emp_good hS).mono ?_); rintro e w1 ⟨rfl, hS1⟩; replace hS := hS1; clear hS1; have hc := Hcw.out _ hS.bel) | ((with_reducible refine (At.op0 Hb.out (good1 _ _ _) hS).mono ?_); rintro e w1 ⟨rfl, hS1⟩; replace hS := hS1; clear hS1; have hc := Hcw.out _ hS.bel)))
            go_roundw
            case rel => exact ⟨j + 1, by omega, by go_num, hS⟩
            case measure => simp [intOf]; omega
        · go_wp2_with (first
            | (go_at_call 18; first | ((with_reducible refine (At.op1 (dlen p 99 ta) (bookA_good _ _ _) emp_good hS).mono ?_); rintro e w1 ⟨rfl, hS1⟩; replace hS := hS1; clear hS1) | ((with_reducible refine (At.op0 Hdl.out (good1 _ _ _) hS).mono ?_); rintro e w1 ⟨rfl, hS1⟩; replace hS := hS1; clear hS1)))
          go_ret
          exact ⟨rfl, hS.bel⟩
end Go.Proofs.Ytebmineddgpjjaa
