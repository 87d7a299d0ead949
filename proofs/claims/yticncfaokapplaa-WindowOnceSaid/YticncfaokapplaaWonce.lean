/- The walk of WindowOnce, where the program's calls answer as the chapter says: a number is new once, if it is not too far behind. No condition. -/
import Derived.Test.YticncfaokapplaaWdo
import Derived.Deep.QuietTactic
import Derived.Deep.RegionWith
namespace Go.Proofs.Yticncfaokapplaa
open Go Go.RowKit

theorem zero_of {P : Program} {t : TypeId} {z : Value} (h : (P.info? t).map (fun i => i.zero) = some (some z)) (W : World) : (zeroValue t).run P W = .ok z W := by
  cases e : P.info? t with
  | none => rw [e] at h; cases h
  | some i =>
    rw [e] at h
    have hz : i.zero = some z := by simpa using h
    simp [zeroValue, typeInfo, e, hz]
theorem zero256 (W : World) : (zeroValue 34).run Try.prog W = .ok (.agg (bools (List.replicate 256 false))) W := zero_of (by kernel_rfl) W
set_option maxRecDepth 100000 in
set_option maxHeartbeats 16000000 in
theorem wonce_walk (P : WinsOk) (ao : Option Addr) (cap : Nat) (cs : List Int) (w : World) (hA : IArg w ao cs) :
    Calls Try.prog 4 #[.slice ao cs.length cap] w fun e w' => e = .returned (.bool true) ∧ Below w.heap.size w w' := by
  have HA := Lib.hid hA
  have hfew := hA.few
  have hz := zero256
  have hl0 : (List.replicate 256 false).length = 256 := List.length_replicate
  have hn0 := seenC_none 256
  generalize List.replicate 256 false = ls0 at *
  clear hA
  go_enter Try.func4, Try.ntmps4
  go_wp2_with (go_at_call 13; (with_reducible refine (awake17 P _).mono ?_); rintro e w1 ⟨rfl, hB⟩; have hW := Wo.start hB (-1) 0 ls0 34; have hBa := hB; clear hB)
  clear hz
  go_loopw [5, 6] (fun y i wr => ∃ (k : Nat) (h : Int) (B : Nat) (ls : List Bool), k ≤ cs.length ∧ k ≤ 60 ∧ i = .int .i64 (k : Int) ∧ y = .int .i64 h ∧ ls.length = 256 ∧ Win (seenC ls) h B ∧ Wo w w1.heap.size 34 h (B : Int) ls wr) (fun _ i _ => cs.length - (intOf i).toNat)
  case atStart => exact ⟨0, -1, 0, _, Nat.zero_le _, by omega, rfl, rfl, hl0, Win.none.to (fun n => (hn0 n).symm), hW⟩
  case round =>
    clear hW hBa hl0 hn0
    obtain ⟨k, h, B, ls, hk, hk6, rfl, rfl, hl, hN, hW⟩ := hrel
    by_cases hlt : k < cs.length
    · by_cases h60 : k < 60
      · obtain ⟨b0, off0, z, rfl, hz, hzb, hcz⟩ := HA.out.at hlt
        have c0 := hcz _ hW.below
        clear hcz hz
        obtain ⟨s, hs, hs2⟩ := wmask255 z
        have hsI : (s : Int) < 256 := by omega
        have hsl : s < ls.length := by omega
        obtain ⟨hh0, hh1⟩ := hN.high
        have ew0 := hW.blk.cell
        generalize w1.heap.size = p at *
        by_cases hnew : ls.getD s false = false ∧ h - 32 < (s : Int)
        · obtain ⟨hn1, hn2⟩ := hnew
          obtain ⟨n1, n2, B', n3, n4⟩ := hN.new (s := (s : Int)) (by omega) (by omega) (by rw [seenC_nat]; exact hn1) hn2
          have hN2 := n4.to (seenC_set hsl)
          have hMay := hN2.may
          have hmx : max h (s : Int) = (if h < (s : Int) then (s : Int) else h) := by split <;> omega
          generalize (if h < (s : Int) then (s : Int) else h) = h' at *
          have HAd := Lib.hid (fun w => P.adds n2 n3 n1 w)
          have HMy := Lib.hid (fun w => P.mays hMay w)
          have HN := Lib.hid hN2
          clear n1 n2 n3 n4 hN hN2 hMay
          go_wp2_with (first
            | (go_at_call 8; (with_reducible refine (HAd.out _).mono ?_); rintro r w3 ⟨rfl, hb⟩; have hW1 := (hW.lay hb).alloc (.cells #[.int .i64 h', .int .i64 (B' : Int)] TWd); have kx := Blk.new w3 #[.int .i64 h', .int .i64 (B' : Int)] TWd; have ex := kx.cell; have ew := hW1.blk.cell; have gw := hW1.blk.froz; have es0 : (w3.alloc (.cells #[.int .i64 h', .int .i64 (B' : Int)] TWd)).cell? ⟨p + 1, s, none⟩ = some (.bool false) := (hW1.row.cell s).trans (by rw [bools_at hsl, hn1]); have hW2 := (hW1.setH h').setB (B' : Int); have es1 : (((w3.alloc (.cells #[.int .i64 h', .int .i64 (B' : Int)] TWd)).setCell ⟨p, 0, none⟩ (.int .i64 h')).setCell ⟨p, 1, none⟩ (.int .i64 (B' : Int))).cell? ⟨p + 1, s, none⟩ = some (.bool false) := (hW2.row.cell s).trans (by rw [bools_at hsl, hn1]); have gs := hW2.row.froz; have hW3 := hW2.setS s true; have ez := hW3.blk.cell; clear hb hW2 hW1)
            | (go_at_call 11; (with_reducible refine (HMy.out _).mono ?_); rintro r w4 ⟨rfl, hb⟩; have hW4 := hW3.lay hb; have ez4 := hW4.blk.cell; clear hb)
            | (go_at_call 10; (with_reducible refine (lnum _ _).mono ?_); rintro e wn ⟨rfl, rfl⟩))
          go_roundw
          case rel => exact ⟨k + 1, h', B', ls.set s true, by omega, by omega, by go_num, rfl, by rw [List.length_set]; exact hl, HN.out, hW4⟩
          case measure => simp [intOf]; omega
        · cases hse : ls.getD s false with
          | true =>
            obtain ⟨n1, n2, n3⟩ := hN.old (s := (s : Int)) (by omega) (by omega) (.inl (by rw [seenC_nat]; exact hse))
            have HAd := Lib.hid (fun w => P.adds n2 n3 n1 w)
            have HN := Lib.hid hN
            clear n1 n2 n3 hN
            go_wp2_with (first
              | (go_at_call 8; (with_reducible refine (HAd.out _).mono ?_); rintro r w3 ⟨rfl, hb⟩; have hW1 := (hW.lay hb).alloc (.cells #[.int .i64 0, .int .i64 0] TWd); have es0 : (w3.alloc (.cells #[.int .i64 0, .int .i64 0] TWd)).cell? ⟨p + 1, s, none⟩ = some (.bool true) := (hW1.row.cell s).trans (by rw [bools_at hsl, hse]); clear hb)
              | (go_at_call 10; (with_reducible refine (lnum _ _).mono ?_); rintro e wn ⟨rfl, rfl⟩))
            go_roundw
            case rel => exact ⟨k + 1, h, B, ls, by omega, by omega, by go_num, rfl, hl, HN.out, hW1⟩
            case measure => simp [intOf]; omega
          | false =>
            have hfar : ¬ h - 32 < (s : Int) := fun c => hnew ⟨hse, c⟩
            obtain ⟨n1, n2, n3⟩ := hN.old (s := (s : Int)) (by omega) (by omega) (.inr (by omega))
            have HAd := Lib.hid (fun w => P.adds n2 n3 n1 w)
            have HN := Lib.hid hN
            clear n1 n2 n3 hN
            go_wp2_with (first
              | (go_at_call 8; (with_reducible refine (HAd.out _).mono ?_); rintro r w3 ⟨rfl, hb⟩; have hW1 := (hW.lay hb).alloc (.cells #[.int .i64 0, .int .i64 0] TWd); have es0 : (w3.alloc (.cells #[.int .i64 0, .int .i64 0] TWd)).cell? ⟨p + 1, s, none⟩ = some (.bool false) := (hW1.row.cell s).trans (by rw [bools_at hsl, hse]); clear hb)
              | (go_at_call 10; (with_reducible refine (lnum _ _).mono ?_); rintro e wn ⟨rfl, rfl⟩))
            go_roundw
            case rel => exact ⟨k + 1, h, B, ls, by omega, by omega, by go_num, rfl, hl, HN.out, hW1⟩
            case measure => simp [intOf]; omega
      · go_wp2
        go_ret
        exact ⟨rfl, hW.below⟩
    · go_wp2
      go_ret
      exact ⟨rfl, hW.below⟩
end Go.Proofs.Yticncfaokapplaa
