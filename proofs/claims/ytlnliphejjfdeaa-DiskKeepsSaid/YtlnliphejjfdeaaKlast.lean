/- The walk of DiskLast: what is read is what was written last. No condition. -/
import Derived.Test.YtlnliphejjfdeaaKaw
import Derived.Test.YtlnliphejjfdeaaOwnA
import Derived.Test.YtlnliphejjfdeaaIArg
import Derived.Test.YtlnliphejjfdeaaDec
import Derived.Test.YtlnliphejjfdeaaFplain3
import Derived.IntWalk
namespace Go.Proofs.Ytlnliphejjfdeaa
open Go Go.RowKit

/-- A disk that is up, of so many sectors, that shows these. -/
structure Dk.Up (d : Dk) (n : Nat) (ts : List ByteArray) : Prop where
  down : d.down = false
  len : d.kept.length = n
  see : d.see = ts
theorem Dk.Up.tlen {d : Dk} {n : Nat} {ts : List ByteArray} (h : d.Up n ts) : ts.length = n := by rw [← h.see, ← h.len]; exact keepAll_len _ _
theorem Dk.Up.has {d : Dk} {n : Nat} {ts : List ByteArray} (h : d.Up n ts) {i : Nat} (hi : i < n) : d.has (i : Int) = true := by
  rw [Dk.has_iff, h.len]; omega
theorem Dk.Up.read {d : Dk} {n : Nat} {ts : List ByteArray} (h : d.Up n ts) {i : Nat} (hi : i < n) : d.rdE (i : Int) = 0 ∧ d.rdS (i : Int) = ts.getD i ⟨#[]⟩ := by
  unfold Dk.rdE Dk.rdS
  rw [h.down, h.has hi, h.see]
  exact ⟨rfl, rfl⟩
theorem Dk.Up.write {d : Dk} {n : Nat} {ts : List ByteArray} (h : d.Up n ts) {i : Nat} (hi : i < n) {s : ByteArray} (hs : s.size = 64) : d.wrE (i : Int) s = 0 ∧ (d.wr (i : Int) s).Up n (ts.set i s) ∧ (d.wr (i : Int) s).waits.length = d.waits.length + 1 := by
  have e : d.wr (i : Int) s = { d with waits := d.waits ++ [(i, s)] } := by unfold Dk.wr; rw [h.down, h.has hi]; simp [hs]
  refine ⟨by unfold Dk.wrE; rw [h.down, h.has hi]; simp [hs], ?_, by rw [e]; simp⟩
  rw [e]
  refine ⟨h.down, h.len, ?_⟩
  have := keepAll_snoc d.kept d.waits (i, s)
  show keepAll d.kept (d.waits ++ [(i, s)]) = _
  rw [this, ← h.see]
  rfl
theorem Dk.Up.flush {d : Dk} {n : Nat} {ts : List ByteArray} (h : d.Up n ts) : d.flE = 0 ∧ d.fl.Up n ts ∧ d.fl.waits.length = 0 := by
  have e : d.fl = ⟨d.see, [], false⟩ := by unfold Dk.fl; rw [h.down]; rfl
  refine ⟨by unfold Dk.flE; rw [h.down]; rfl, ?_, by rw [e]; rfl⟩
  rw [e]
  exact ⟨rfl, by rw [← h.len]; exact keepAll_len _ _, h.see⟩
theorem Dk.Up.new (n : Nat) : (Dk.new n).Up n (List.replicate n zer64) := ⟨rfl, by simp [Dk.new], rfl⟩
theorem sNil_eq : sNil = zer64 := by decide +kernel
theorem knew8 (w : World) : Calls Try.prog 7 #[.int .i64 8] w fun e w' => ∃ p : Nat, e = .returned (.tuple #[.pointer (some ⟨p, 0, none⟩), .int .i64 0]) ∧ Becomes [] (dpA p (Dk.new 8)) w w' := kpnew_ok 8 w (by decide) (by decide)

theorem dec_size (n : Nat) : (decS n).size ≤ 21 := by
  have e : (decS n).size = (decL n).length := by simp [decS, strD, bytesD, ByteArray.size]
  rw [e]
  by_cases h : decL n = []
  · rw [h]; simp
  · exact DecR.len (n := n) (s := 0) (.inr ⟨h, 0, by decide, rfl⟩)
set_option maxRecDepth 100000 in
set_option maxHeartbeats 8000000 in
theorem klast_walk (ao : Option Addr) (cap : Nat) (cs : List Int) (w : World) (hA : IArg w ao cs) :
    Calls Try.prog 6 #[.slice ao cs.length cap] w fun e w' => e = .returned (.bool true) ∧ Below w.heap.size w w' := by
  have hB : Below w.heap.size w w := Below.refl _ _
  have HA := Lib.hid hA
  have hfew := hA.few
  clear hA
  go_enter Try.func6, Try.ntmps6
  go_wp2_with (first
    | (go_at_call 10; (with_reducible refine (awake8 _).mono ?_); rintro e w1 ⟨rfl, hb⟩; replace hB := hB.trans (hb.mono hB.size); clear hb)
    | (go_at_call 7; (with_reducible refine (knew8 _).mono ?_); rintro e w1 ⟨p, rfl, hb⟩; have hS : At w ((dpA p (Dk.new 8)).star emp) w1 := At.add emp_good (At.none hB) hb; clear hb)
    | (go_at_call 9; (with_reducible refine (lnum _ _).mono ?_); rintro e w2 ⟨rfl, rfl⟩))
  have hg : ((dpA p (Dk.new 8)).star emp).Good := (dpA_good _ _).star emp_good
  replace hS : At w ((ownA w1.heap.size (txs (List.replicate 8 ⟨#[]⟩)) 53).star ((dpA p (Dk.new 8)).star emp)) (w1.alloc (.cells (txs (List.replicate 8 ⟨#[]⟩)) 53)) := hS.hold hg _ _
  go_loopw [6] (fun x wr => ∃ (j : Nat) (ts : List ByteArray), j ≤ 8 ∧ x = .int .i64 (j : Int) ∧ ts.length = 8 ∧ (∀ i, i < j → ts.getD i ⟨#[]⟩ = zer64) ∧ At w ((ownA w1.heap.size (txs ts) 53).star ((dpA p (Dk.new 8)).star emp)) wr) (fun x _ => 8 - (intOf x).toNat)
  case atStart => exact ⟨0, _, by omega, rfl, rfl, fun i hi => by omega, hS⟩
  case round =>
    clear hS
    obtain ⟨j, ts, hj, rfl, hl, hts, hS⟩ := hrel
    by_cases hlt : j < 8
    · go_wp2_with (first
        | (go_at_call 11; (with_reducible refine (lsec_sNil _).mono ?_); rintro e w2 ⟨rfl, hb⟩; replace hS := hS.lay ((ownA_good _ _ _).star hg) hb; clear hb; obtain ⟨x1, x2⟩ := hS.text (i := j) (by omega)))
      go_round
      case rel => exact ⟨j + 1, _, by omega, by go_num, by rw [List.length_set]; exact hl, fun i hi => by
        by_cases e : i = j
        · subst e; simp [List.getD, hl, hlt, sNil_eq]
        · rw [List.getD, List.getElem?_set_ne (by omega), ← List.getD]; exact hts i (by omega), hS.setText hg j _⟩
      case measure => simp [intOf]; omega
    · obtain rfl : j = 8 := by omega
      obtain rfl : ts = List.replicate 8 zer64 := by
        refine List.ext_getElem (by simp [hl]) fun i h1 h2 => ?_
        have := hts i (by omega)
        rw [List.getD, List.getElem?_eq_getElem h1] at this
        rw [List.getElem_replicate]
        exact this
      clear hts hl hj hlt
      rw [show ((8 : Nat) : Int) = 8 from rfl]
      have hU := Dk.Up.new 8
      have hW : (Dk.new 8).waits.length = 0 := rfl
      generalize List.replicate 8 zer64 = ts at *
      generalize Dk.new 8 = d at *
      go_wp2
      go_loopw [7, 8] (fun y x wr => ∃ (k : Nat) (d : Dk) (ts : List ByteArray), k ≤ cs.length ∧ y = .int .i64 (d.waits.length : Int) ∧ x = .int .i64 (k : Int) ∧ d.waits.length ≤ k ∧ d.Up 8 ts ∧ At w ((ownA w1.heap.size (txs ts) 53).star ((dpA p d).star emp)) wr) (fun _ x _ => cs.length - (intOf x).toNat)
      case atStart => exact ⟨0, d, ts, Nat.zero_le _, by rw [hW]; rfl, rfl, by omega, hU, hS⟩
      case round =>
        clear hS hU hW hg
        obtain ⟨k, d, ts, hk, rfl, rfl, hdk, hU, hS⟩ := hrel
        have hg : ((dpA p d).star emp).Good := (dpA_good _ _).star emp_good
        by_cases hlt : k < cs.length
        · by_cases h50 : k < 50
          · obtain ⟨b, off, z, rfl, hz, hzb, hc⟩ := HA.out.at hlt
            have c0 := hc _ hS.bel
            clear hz hc
            obtain ⟨m, hm8, hm⟩ : ∃ m : Nat, m < 8 ∧ bits .and .i64 z 7 = (m : Int) := by
              have := i64_mask z 3 (by omega)
              exact ⟨(z % 8).toNat, by omega, this.trans (by show z % 8 = _; omega)⟩
            cases h7 : (bits .and .i64 (z / 8) 7 == 7) with
            | true =>
              obtain ⟨f1, f2, f3⟩ := hU.flush
              have hP := kpflush p d
              rw [f1] at hP
              have HP := Lib.hid hP
              clear hP f1 hU
              generalize d.fl = d2 at *
              have hWt := kpwaits p d2
              rw [f3, show ((0 : Nat) : Int) = 0 from rfl] at hWt
              have HWt := Lib.hid hWt
              clear hWt
              go_wp2_with (first
                | (go_at_call 14; (with_reducible refine (At.op1 HP.out (ownA_good _ _ _) emp_good hS).mono ?_); rintro e w2 ⟨rfl, hS1⟩; replace hS := hS1; clear hS1)
                | (go_at_call 9; (with_reducible refine (lnum _ _).mono ?_); rintro e w2 ⟨rfl, rfl⟩))
              go_loopw [12] (fun x wr2 => ∃ j : Nat, j ≤ 8 ∧ x = .int .i64 (j : Int) ∧ At w ((ownA w1.heap.size (txs ts) 53).star ((dpA p d2).star emp)) wr2) (fun x _ => 8 - (intOf x).toNat)
              case atStart => exact ⟨0, by omega, rfl, hS⟩
              case round =>
                clear hS
                obtain ⟨j, hj, rfl, hS⟩ := hrel
                by_cases hl8 : j < 8
                · obtain ⟨r1, r2⟩ := f2.read hl8
                  have hR := kpread p d2 (j : Int)
                  rw [r1, r2] at hR
                  have HR := Lib.hid hR
                  clear hR
                  have htl := f2.tlen
                  go_wp2_with (first
                    | (go_at_call 22; (with_reducible refine (At.op1 HR.out (ownA_good _ _ _) emp_good hS).mono ?_); rintro e w2 ⟨rfl, hS1⟩; replace hS := hS1; clear hS1; obtain ⟨x1, x2⟩ := hS.text (i := j) (by omega))
                    | (go_at_call 9; (with_reducible refine (lnum _ _).mono ?_); rintro e w2 ⟨rfl, rfl⟩))
                  go_round
                  case rel => exact ⟨j + 1, by omega, by go_num, hS⟩
                  case measure => simp [intOf]; omega
                · go_wp2_with (first
                    | (go_at_call 20; (with_reducible refine (At.op1 HWt.out (ownA_good _ _ _) emp_good hS).mono ?_); rintro e w2 ⟨rfl, hS1⟩; replace hS := hS1; clear hS1))
                  go_roundw
                  case rel => exact ⟨k + 1, d2, _, by omega, by rw [f3]; rfl, by go_num, by omega, f2, hS⟩
                  case measure => simp [intOf]; omega
            | false =>
              have hz := dec_size k
              have hz2 : (⟨#[118]⟩ ++ decS k : ByteArray).size ≤ 9223372036854770000 := by rw [ByteArray.size_append]; show 1 + _ ≤ _; omega
              have HT := Lib.hid fun W => lsector (⟨#[118]⟩ ++ decS k) W hz2
              have hs64 := secOf_size (⟨#[118]⟩ ++ decS k)
              generalize secOf (⟨#[118]⟩ ++ decS k) = t at *
              obtain ⟨f1, f2, f3⟩ := hU.write hm8 hs64
              have hP := kpwrite p d (m : Int) t (by omega)
              rw [f1] at hP
              have HP := Lib.hid hP
              clear hP f1
              generalize d.wr (m : Int) t = d2 at *
              have hWt := kpwaits p d2
              rw [f3, show ((d.waits.length + 1 : Nat) : Int) = (d.waits.length : Int) + 1 by omega] at hWt
              have HWt := Lib.hid hWt
              clear hWt
              have htl := hU.tlen
              have hset := fun W (h : At w ((ownA w1.heap.size (txs ts) 53).star ((dpA p d).star emp)) W) => h.setText hg m t
              have HSet := Lib.hid hset
              clear hset hU
              go_wp2_with (first
                | (go_at_call 24; (with_reducible refine (dec_any k _ (by omega)).mono ?_); rintro e w2 ⟨rfl, hb⟩; replace hS := hS.lay ((ownA_good _ _ _).star hg) hb; clear hb)
                | (go_at_call 11; (with_reducible refine (HT.out _).mono ?_); rintro e w2 ⟨rfl, hb⟩; replace hS := hS.lay ((ownA_good _ _ _).star hg) hb; clear hb; obtain ⟨x1, x2⟩ := hS.text (i := m) (by omega); replace hS := HSet.out _ hS)
                | (go_at_call 12; (with_reducible refine (At.op1 HP.out (ownA_good _ _ _) emp_good hS).mono ?_); rintro e w2 ⟨rfl, hS1⟩; replace hS := hS1; clear hS1)
                | (go_at_call 9; (with_reducible refine (lnum _ _).mono ?_); rintro e w2 ⟨rfl, rfl⟩))
              go_loopw [12] (fun x wr2 => ∃ j : Nat, j ≤ 8 ∧ x = .int .i64 (j : Int) ∧ At w ((ownA w1.heap.size (txs (ts.set m t)) 53).star ((dpA p d2).star emp)) wr2) (fun x _ => 8 - (intOf x).toNat)
              case atStart => exact ⟨0, by omega, rfl, hS⟩
              case round =>
                clear hS
                obtain ⟨j, hj, rfl, hS⟩ := hrel
                by_cases hl8 : j < 8
                · obtain ⟨r1, r2⟩ := f2.read hl8
                  have hR := kpread p d2 (j : Int)
                  rw [r1, r2] at hR
                  have HR := Lib.hid hR
                  clear hR
                  have htl := f2.tlen
                  go_wp2_with (first
                    | (go_at_call 22; (with_reducible refine (At.op1 HR.out (ownA_good _ _ _) emp_good hS).mono ?_); rintro e w2 ⟨rfl, hS1⟩; replace hS := hS1; clear hS1; obtain ⟨x1, x2⟩ := hS.text (i := j) (by omega))
                    | (go_at_call 9; (with_reducible refine (lnum _ _).mono ?_); rintro e w2 ⟨rfl, rfl⟩))
                  go_round
                  case rel => exact ⟨j + 1, by omega, by go_num, hS⟩
                  case measure => simp [intOf]; omega
                · go_wp2_with (first
                    | (go_at_call 20; (with_reducible refine (At.op1 HWt.out (ownA_good _ _ _) emp_good hS).mono ?_); rintro e w2 ⟨rfl, hS1⟩; replace hS := hS1; clear hS1))
                  go_roundw
                  case rel => exact ⟨k + 1, d2, _, by omega, by rw [f3]; go_num, by go_num, by omega, f2, hS⟩
                  case measure => simp [intOf]; omega
          · go_wp2
            go_ret
            exact ⟨rfl, hS.bel⟩
        · go_wp2
          go_ret
          exact ⟨rfl, hS.bel⟩
end Go.Proofs.Ytlnliphejjfdeaa
