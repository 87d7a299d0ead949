/- The walk of Packets: at every packet and every bytes package packet answers as the reference. Condition: errors.errorType holds the handle of the type error. -/
import Derived.Test.YthbnkejjipiaaaaDoorPaw
import Derived.Deep.RegionWith
namespace Go.Proofs.YthbnkejjipiaaaaDoor
open Go Go.RowKit

set_option maxRecDepth 100000 in
set_option maxHeartbeats 8000000 in
theorem packets_walk (p : Pk) (t : ByteArray) (w : World) (hs : t.size ≤ 140737488351232) (hg : Gd w) :
    Calls Tryd.prog 3 #[p.val, .string t] w fun e w' => e = .returned (.bool true) ∧ Gr w w' := by
  have hs' : t.size ≤ 9223372036854770000 := by omega
  have P1 := Lib.hid (fun w => ppput p w)
  have P2 := Lib.hid (fun w => rpput p w)
  have P3 := Lib.hid (fun w hg => ppget t w hs' hg)
  have P4 := Lib.hid (fun w => rpget t w hs')
  have P5 := Lib.hid (fun w => ppmay p w)
  have P6 := Lib.hid (fun w => rpmay p w)
  generalize Pk.putS p = ps at *
  generalize Pk.putE p = pe at *
  generalize Pk.getE t = ge at *
  generalize Pk.may p = pm at *
  generalize Pk.getP t = gp at *
  obtain ⟨k, u, n, h, tg, c, s, q, d⟩ := p
  obtain ⟨k2, u2, n2, h2, t2, c2, s2, q2, d2⟩ := gp
  unfold Pk.val at P1 P2 P3 P4 P5 P6
  unfold Pk.val
  have hr := Gr.refl hg
  clear hs hs' hg
  go_enter Tryd.func3, Tryd.ntmps3
  go_wp2_with (first
    | (go_at_call 11; (with_reducible refine (P1.out _).mono ?_); rintro e w1 ⟨rfl, hb⟩; replace hr := (hr.alloc _).step hb; have kp := (Blk.new _ _ _).step hb; have e1 := kp.cell; have g1 := kp.froz; have l1 := kp.lt; clear hb)
    | (go_at_call 12; (with_reducible refine (P2.out _).mono ?_); rintro e w1 ⟨rfl, hb⟩; replace hr := hr.step hb; replace kp := kp.step hb; have e1 := kp.cell; have g1 := kp.froz; have l1 := kp.lt; clear hb)
    | (go_at_call 13; (with_reducible refine (P3.out _ hr.good).mono ?_); rintro e w1 ⟨rfl, hb⟩; replace hr := hr.step hb; replace kp := kp.step hb; have e1 := kp.cell; have g1 := kp.froz; have l1 := kp.lt; clear hb)
    | (go_at_call 14; (with_reducible refine (P4.out _).mono ?_); rintro e w1 ⟨rfl, hb⟩; replace hr := (hr.alloc _).step hb; replace kp := (kp.alloc _).step hb; have kc := (Blk.new _ _ _).step hb; have e1 := kp.cell; have g1 := kp.froz; have l1 := kp.lt; have e2 := kc.cell; have g2 := kc.froz; have l2 := kc.lt; clear hb))
  have hr5 := (hr.alloc (.cells #[.int .i64 k2, .int .i64 u2, .int .i64 n2, .int .i64 h2, .int .i64 t2, .int .i64 c2, .int .i64 s2, .int .i64 q2, .string d2] 23)).drew
  have kp5 := (kp.alloc (.cells #[.int .i64 k2, .int .i64 u2, .int .i64 n2, .int .i64 h2, .int .i64 t2, .int .i64 c2, .int .i64 s2, .int .i64 q2, .string d2] 23)).drew
  go_region_with (first
    | (go_at_call 15; (with_reducible refine (lnum _ _).mono ?_); rintro e w1 ⟨rfl, rfl⟩)
    | (go_at_call 16; (with_reducible refine (P5.out _).mono ?_); rintro e w1 ⟨rfl, hb⟩; replace hr5 := hr5.step hb; replace kp5 := kp5.step hb; have e1 := kp5.cell; clear hb)
    | (go_at_call 17; (with_reducible refine (P6.out _).mono ?_); rintro e w1 ⟨rfl, hb⟩; replace hr5 := hr5.step hb; replace kp5 := kp5.step hb; have e1 := kp5.cell; clear hb)
    | (go_at_call 18; (with_reducible refine (awake4 _ hr5.good).mono ?_); rintro e w1 ⟨rfl, hb⟩; replace hr5 := hr5.step hb))
  all_goals
    go_wp2
    go_ret
    exact ⟨rfl, hr5⟩
end Go.Proofs.YthbnkejjipiaaaaDoor
