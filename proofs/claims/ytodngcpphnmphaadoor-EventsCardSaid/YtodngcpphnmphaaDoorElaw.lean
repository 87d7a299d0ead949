/- The walk of Events: at every event and every bytes package event answers as the reference. Condition: errors.errorType holds the handle of the type error. -/
import Derived.Test.YtodngcpphnmphaaDoorEaw
import Derived.Deep.RegionWith
namespace Go.Proofs.YtodngcpphnmphaaDoor
open Go Go.RowKit

set_option maxRecDepth 100000 in
set_option maxHeartbeats 8000000 in
theorem events_walk (p : Ev) (t : ByteArray) (w : World) (hs : t.size ≤ 140737488351232) (hg : Gd w) :
    Calls Tryd.prog 3 #[p.val, .string t] w fun e w' => e = .returned (.bool true) ∧ Gr w w' := by
  have hs' : t.size ≤ 9223372036854770000 := by omega
  have P1 := Lib.hid (fun w => epput p w)
  have P2 := Lib.hid (fun w => reput p w)
  have P3 := Lib.hid (fun w hg => epget t w hs' hg)
  have P4 := Lib.hid (fun w => reget t w hs')
  have P5 := Lib.hid (fun w => epmay p w)
  have P6 := Lib.hid (fun w => remay p w)
  generalize Ev.putS p = ps at *
  generalize Ev.putE p = pe at *
  generalize Ev.getE t = ge at *
  generalize Ev.may p = pm at *
  generalize Ev.getP t = gp at *
  obtain ⟨k, x1, x2, x3, x4, x5, x6, x7⟩ := p
  obtain ⟨k2, y1, y2, y3, y4, y5, y6, y7⟩ := gp
  unfold Ev.val at P1 P2 P3 P4 P5 P6
  unfold Ev.val
  have hr := Gr.refl hg
  clear hs hs' hg
  go_enter Tryd.func3, Tryd.ntmps3
  go_wp2_with (first
    | (go_at_call 7; (with_reducible refine (P1.out _).mono ?_); rintro e w1 ⟨rfl, hb⟩; replace hr := (hr.alloc _).step hb; have kp := (Blk.new _ _ _).step hb; have e1 := kp.cell; have g1 := kp.froz; have l1 := kp.lt; clear hb)
    | (go_at_call 8; (with_reducible refine (P2.out _).mono ?_); rintro e w1 ⟨rfl, hb⟩; replace hr := hr.step hb; replace kp := kp.step hb; have e1 := kp.cell; have g1 := kp.froz; have l1 := kp.lt; clear hb)
    | (go_at_call 9; (with_reducible refine (P3.out _ hr.good).mono ?_); rintro e w1 ⟨rfl, hb⟩; replace hr := hr.step hb; replace kp := kp.step hb; have e1 := kp.cell; have g1 := kp.froz; have l1 := kp.lt; clear hb)
    | (go_at_call 10; (with_reducible refine (P4.out _).mono ?_); rintro e w1 ⟨rfl, hb⟩; replace hr := (hr.alloc _).step hb; replace kp := (kp.alloc _).step hb; have kc := (Blk.new _ _ _).step hb; have e1 := kp.cell; have g1 := kp.froz; have l1 := kp.lt; have e2 := kc.cell; have g2 := kc.froz; have l2 := kc.lt; clear hb))
  have hr5 := (hr.alloc (.cells #[.int .i64 k2, .int .i64 y1, .int .i64 y2, .int .i64 y3, .int .i64 y4, .int .i64 y5, .int .i64 y6, .int .i64 y7] 23)).drew
  have kp5 := (kp.alloc (.cells #[.int .i64 k2, .int .i64 y1, .int .i64 y2, .int .i64 y3, .int .i64 y4, .int .i64 y5, .int .i64 y6, .int .i64 y7] 23)).drew
  go_region_with (first
    | (go_at_call 11; (with_reducible refine (lnum _ _).mono ?_); rintro e w1 ⟨rfl, rfl⟩)
    | (go_at_call 12; (with_reducible refine (P5.out _).mono ?_); rintro e w1 ⟨rfl, hb⟩; replace hr5 := hr5.step hb; replace kp5 := kp5.step hb; have e1 := kp5.cell; clear hb)
    | (go_at_call 13; (with_reducible refine (P6.out _).mono ?_); rintro e w1 ⟨rfl, hb⟩; replace hr5 := hr5.step hb; replace kp5 := kp5.step hb; have e1 := kp5.cell; clear hb)
    | (go_at_call 14; (with_reducible refine (awake7 _ hr5.good).mono ?_); rintro e w1 ⟨rfl, hb⟩; replace hr5 := hr5.step hb))
  all_goals
    go_wp2
    go_ret
    exact ⟨rfl, hr5⟩
end Go.Proofs.YtodngcpphnmphaaDoor
