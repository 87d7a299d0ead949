/- The walk of MeterWalks: what is delivered is at most the quota and one frame more; behind the limits all is over. No condition. -/
import Derived.Test.YtjkcimeeagmmeaaMel
import Derived.Test.YtjkcimeeagmmeaaFplain3
import Derived.Test.YtjkcimeeagmmeaaIArg
import Derived.Deep.RegionWith
namespace Go.Proofs.Ytjkcimeeagmmeaa
open Go Go.RowKit

theorem mw_mask (z : Int) (k : Nat) (hk : k ≤ 62) : ∃ q : Nat, bits .and .i64 z ((2 ^ k - 1 : Nat) : Int) = (q : Int) ∧ q < 2 ^ k := by
  have h := i64_mask z k hk
  have h0 : (0 : Int) < ((2 ^ k : Nat) : Int) := by have := Nat.two_pow_pos k; omega
  refine ⟨(z % ((2 ^ k : Nat) : Int)).toNat, ?_, ?_⟩
  · rw [h]; have := Int.emod_nonneg z (show ((2 ^ k : Nat) : Int) ≠ 0 by omega); omega
  · have := Int.emod_lt_of_pos z h0; have := Int.emod_nonneg z (show ((2 ^ k : Nat) : Int) ≠ 0 by omega); omega
theorem mw15 (z : Int) : ∃ q : Nat, bits .and .i64 z 15 = (q : Int) ∧ q < 16 := mw_mask z 4 (by decide)
theorem mw31 (z : Int) : ∃ q : Nat, bits .and .i64 z 31 = (q : Int) ∧ q < 32 := mw_mask z 5 (by decide)
theorem mw63 (z : Int) : ∃ q : Nat, bits .and .i64 z 63 = (q : Int) ∧ q < 64 := mw_mask z 6 (by decide)
theorem mw127 (z : Int) : ∃ q : Nat, bits .and .i64 z 127 = (q : Int) ∧ q < 128 := mw_mask z 7 (by decide)
theorem mw511 (z : Int) : ∃ q : Nat, bits .and .i64 z 511 = (q : Int) ∧ q < 512 := mw_mask z 9 (by decide)
/-- The law's own meter. -/
structure Mo (w : World) (p : Nat) (s l b : Int) (W : World) : Prop where
  below : Below w.heap.size w W
  from0 : w.heap.size ≤ p
  x : W.heap[p]? = some (.cells (meA s l b) TMe (0, 0))
section
variable {w W W' : World} {p : Nat} {s l b : Int}
theorem Mo.lt (o : Mo w p s l b W) : p < W.heap.size := (Array.getElem?_eq_some_iff.1 o.x).1
theorem Mo.lay (o : Mo w p s l b W) (hb : Below W.heap.size W W') : Mo w p s l b W' := ⟨mab o.below hb, o.from0, (hb.block p o.lt).trans o.x⟩
theorem Mo.alloc (o : Mo w p s l b W) (ob : Obj) : Mo w p s l b (W.alloc ob) := o.lay ((Below.refl _ _).alloc (Nat.le_refl _) ob)
theorem Mo.blk (o : Mo w p s l b W) : Blk W p (meA s l b) := ⟨fun i => cell_of_row W p i _ _ _ o.x, fun i => frozen_of_row W p i _ _ o.x, o.lt⟩
theorem Mo.set (o : Mo w p s l b W) (s' l' b' : Int) : Mo w p s' l' b' (((W.setCell ⟨p, 0, none⟩ (.int .i64 s')).setCell ⟨p, 1, none⟩ (.int .i64 l')).setCell ⟨p, 2, none⟩ (.int .i64 b')) := by
  refine ⟨((o.below.setCell (p := ⟨p, 0, none⟩) o.from0 _).setCell (p := ⟨p, 1, none⟩) o.from0 _).setCell (p := ⟨p, 2, none⟩) o.from0 _, o.from0, ?_⟩
  have h1 := heap_setCell_same W p 0 _ _ (.int .i64 s') o.x
  have h2 := heap_setCell_same _ p 1 _ _ (.int .i64 l') h1
  exact heap_setCell_same _ p 2 _ _ (.int .i64 b') h2
end
theorem Mo.start {w W : World} (hb : Below w.heap.size w W) (s l b : Int) : Mo w W.heap.size s l b (W.alloc (.cells (meA s l b) TMe)) := ⟨mal hb _, hb.size, heap_alloc_new W _⟩
theorem mw_may {la sm : Int} (h0 : 0 ≤ la) (h1 : la ≤ 1073741823) (h2 : 0 ≤ sm) (h3 : sm ≤ 1073741823) : meMay 0 la sm = true := meMay_iff.2 ⟨by decide, ⟨h0, h1⟩, ⟨h2, h3⟩, h0⟩
set_option maxRecDepth 100000 in
set_option maxHeartbeats 32000000 in
theorem mewalks_walk (P : MetersOk) (ao : Option Addr) (cap : Nat) (cs : List Int) (quota idle abs : Int) (w : World) (hA : IArg w ao cs) :
    Calls Try.prog 4 #[.slice ao cs.length cap, .int .i64 quota, .int .i64 idle, .int .i64 abs] w fun e w' => e = .returned (.bool true) ∧ Below w.heap.size w w' := by
  have HA := Lib.hid hA
  have hfew := hA.few
  clear hA
  obtain ⟨q, hq, q9⟩ := mw511 quota
  obtain ⟨n, hn, n9⟩ := mw31 idle
  obtain ⟨m, hm, m9⟩ := mw127 abs
  go_enter Try.func4, Try.ntmps4
  go_wp2_with (go_at_call 12; (with_reducible refine (awake19 P _).mono ?_); rintro e w1 ⟨rfl, hB⟩; have hW := Mo.start hB 0 0 0; clear hB)
  go_loopw [13, 14, 15, 16] (fun at' sum last i wr => ∃ (k : Nat) (t sm la : Int), k ≤ cs.length ∧ k ≤ 60 ∧ i = .int .i64 (k : Int) ∧ at' = .int .i64 t ∧ sum = .int .i64 sm ∧ last = .int .i64 la ∧ 0 ≤ la ∧ la ≤ t ∧ t ≤ 15 * (k : Int) ∧ 0 ≤ sm ∧ sm ≤ (q : Int) + 64 ∧ Aside (Mo w w1.heap.size 0 la sm wr)) (fun _ _ _ i _ => cs.length - (intOf i).toNat)
  case atStart => exact ⟨0, 0, 0, 0, Nat.zero_le _, by omega, rfl, rfl, rfl, rfl, by omega, by omega, by omega, by omega, by omega, (show Aside _ from hW)⟩
  case round =>
    clear hW
    obtain ⟨k, t, sm, la, hk, hk6, rfl, rfl, rfl, rfl, la0, la1, t1, s0, s1, hall⟩ := hrel
    have hW := hall.out
    clear hall
    by_cases hlt : k < cs.length
    · by_cases h60 : k < 60
      · obtain ⟨b0, off0, z, rfl, hz, hzb, hcz⟩ := HA.out.at hlt
        have c0 := hcz _ hW.below
        have HZ := Lib.hid hcz
        clear hcz hz
        obtain ⟨d, hd, d9⟩ := mw15 z
        obtain ⟨x, hx, x9⟩ := mw63 (z / 16)
        obtain ⟨t2, ht2⟩ : ∃ t2, t + (d : Int) = t2 := ⟨_, rfl⟩
        have u0 : t ≤ t2 := by omega
        have u1 : t2 ≤ 15 * ((k : Int) + 1) := by omega
        have ez := hW.blk.cell
        generalize w1.heap.size = p at *
        have hmay := mw_may la0 (by omega) s0 (show sm ≤ 1073741823 by omega)
        have hov : meOv 0 la sm t2 (1 + (n : Int)) (1 + (m : Int)) = true := meOv_iff.2 ⟨hmay, ⟨by omega, by omega⟩, ⟨by omega, by omega⟩, ⟨by omega, by omega⟩⟩
        obtain ⟨o1, o2⟩ := me_ov_yes hov
        have hok : meOk 0 la sm t2 (x : Int) sm (q : Int) = true := meOk_iff.2 ⟨hmay, ⟨by omega, by omega⟩, ⟨by omega, by omega⟩, ⟨by omega, by omega⟩, ⟨by omega, by omega⟩, by omega, by omega⟩
        rw [Int.sub_zero] at o1 o2
        by_cases c1 : 1 + (m : Int) < t2
        · rw [if_pos c1] at o1
          rw [decide_eq_true c1, Bool.true_or] at o2
          have HO := Lib.hid (fun W => P.overs o1 o2 W)
          clear hov o1 o2 hok hmay
          go_wp2_with (go_at_call 7; (with_reducible refine (HO.out _).mono ?_); rintro r w2 ⟨rfl, hb⟩; replace hW := hW.lay hb; clear hb)
          go_ret
          exact ⟨rfl, hW.below⟩
        · rw [if_neg c1] at o1
          rw [decide_eq_false c1, Bool.false_or] at o2
          by_cases c2 : 1 + (n : Int) < t2 - la
          · rw [if_pos c2] at o1
            rw [decide_eq_true c2] at o2
            have HO := Lib.hid (fun W => P.overs o1 o2 W)
            clear hov o1 o2 hok hmay
            go_wp2_with (go_at_call 7; (with_reducible refine (HO.out _).mono ?_); rintro r w2 ⟨rfl, hb⟩; replace hW := hW.lay hb; clear hb)
            go_ret
            exact ⟨rfl, hW.below⟩
          · rw [if_neg c2] at o1
            rw [decide_eq_false c2] at o2
            have HO := Lib.hid (fun W => P.overs o1 o2 W)
            clear hov o1 o2 hmay
            by_cases c3 : sm < (q : Int)
            · obtain ⟨e1, e2, e3, e4, e5⟩ := me_yes hok c3 (by omega)
              have HD := Lib.hid (fun W => P.delivers e3 e4 e5 e2 e1 W)
              clear e1 e2 e3 e4 e5 hok
              obtain ⟨s2, hs2⟩ : ∃ s2, sm + (x : Int) = s2 := ⟨_, rfl⟩
              rw [hs2] at HD
              have v0 : s2 ≤ (q : Int) + 64 := by omega
              have v1 : 0 ≤ s2 := by omega
              go_wp2_with (first
                | (go_at_call 7; (with_reducible refine (HO.out _).mono ?_); rintro r w2 ⟨rfl, hb⟩; replace hW := hW.lay hb; have c1' := HZ.out _ hW.below; replace ez := hW.blk.cell; clear hb)
                | (go_at_call 9; (with_reducible refine (HD.out _).mono ?_); rintro r w3 ⟨rfl, hb⟩; replace hW := (hW.lay hb).alloc (.cells (meA 0 t2 s2) TMe); have ex := (Blk.new w3 (meA 0 t2 s2) TMe).cell; have lx := hW.lt; have gz := hW.blk.froz; have hW2 := Lib.hid (hW.set 0 t2 s2); replace ez := hW.blk.cell; have ez2 := (hW.set 0 t2 s2).blk.cell; clear hb)
                | (go_at_call 11; (with_reducible refine (lnum _ _).mono ?_); rintro e wn ⟨rfl, rfl⟩))
              go_roundw
              case rel => exact ⟨k + 1, t2, s2, t2, by omega, by omega, by go_num, rfl, rfl, rfl, by omega, by omega, by omega, by omega, by omega, (show Aside _ from hW2.out)⟩
              case measure => simp [intOf]; omega
            · obtain ⟨e1, e2, e3, e4, e5⟩ := me_full hok (.inl (by omega))
              have HD := Lib.hid (fun W => P.delivers e3 e4 e5 e2 e1 W)
              clear e1 e2 e3 e4 e5 hok
              go_wp2_with (first
                | (go_at_call 7; (with_reducible refine (HO.out _).mono ?_); rintro r w2 ⟨rfl, hb⟩; replace hW := hW.lay hb; have c1' := HZ.out _ hW.below; replace ez := hW.blk.cell; clear hb)
                | (go_at_call 9; (with_reducible refine (HD.out _).mono ?_); rintro r w3 ⟨rfl, hb⟩; replace hW := (hW.lay hb).alloc (.cells (meA 0 0 0) TMe); replace ez := hW.blk.cell; clear hb)
                | (go_at_call 11; (with_reducible refine (lnum _ _).mono ?_); rintro e wn ⟨rfl, rfl⟩))
              go_roundw
              case rel => exact ⟨k + 1, t2, sm, la, by omega, by omega, by go_num, rfl, rfl, rfl, by omega, by omega, by omega, by omega, by omega, (show Aside _ from hW)⟩
              case measure => simp [intOf]; omega
      · have hB := hW.below
        go_wp2
        go_ret
        exact ⟨rfl, hB⟩
    · have hB := hW.below
      go_wp2
      go_ret
      exact ⟨rfl, hB⟩
end Go.Proofs.Ytjkcimeeagmmeaa
