/- The walk of EventUnlike: of unlike events the bytes are unlike. Condition: errors.errorType holds the handle of the type error. -/
import Derived.Test.YtodngcpphnmphaaDoorEaw
namespace Go.Proofs.YtodngcpphnmphaaDoor
open Go Go.RowKit

theorem str_ne' {s t : ByteArray} (h : s ≠ t) : (s.toList == t.toList) = false := by
  cases c : (s.toList == t.toList)
  · rfl
  · exfalso
    refine h ?_
    have h1 : s.toList = t.toList := by simpa using c
    obtain ⟨⟨a⟩⟩ := s
    obtain ⟨⟨b⟩⟩ := t
    rw [ByteArray.toList_mk, ByteArray.toList_mk] at h1
    exact congrArg (fun l => (⟨⟨l⟩⟩ : ByteArray)) h1
theorem toL_inj {s t : ByteArray} (h : s.toList = t.toList) : s = t := by
  obtain ⟨⟨a⟩⟩ := s
  obtain ⟨⟨b⟩⟩ := t
  rw [ByteArray.toList_mk, ByteArray.toList_mk] at h
  exact congrArg (fun l => (⟨⟨l⟩⟩ : ByteArray)) h

set_option maxRecDepth 100000 in
set_option maxHeartbeats 8000000 in
theorem unlike_eq (k x1 x2 x3 x4 x5 x6 x7 : Int) (w : World) (hg : Gd w) (hm1 : (Ev.mk k x1 x2 x3 x4 x5 x6 x7).may = true) :
    Calls Tryd.prog 5 #[(Ev.mk k x1 x2 x3 x4 x5 x6 x7).val, (Ev.mk k x1 x2 x3 x4 x5 x6 x7).val] w fun e w' => e = .returned (.bool true) ∧ Gr w w' := by
  have hr := Gr.refl hg
  clear hg
  have P1 := Lib.hid (fun w => epput (Ev.mk k x1 x2 x3 x4 x5 x6 x7) w)
  rw [show (Ev.mk k x1 x2 x3 x4 x5 x6 x7).putS = (Ev.mk k x1 x2 x3 x4 x5 x6 x7).put by unfold Ev.putS; rw [hm1]; rfl, show (Ev.mk k x1 x2 x3 x4 x5 x6 x7).putE = 0 by unfold Ev.putE; rw [hm1]; rfl] at P1
  generalize (Ev.mk k x1 x2 x3 x4 x5 x6 x7).put = sa at *
  unfold Ev.val at P1
  unfold Ev.val
  clear hm1
  go_enter Tryd.func5, Tryd.ntmps5
  go_wp2_with (first
    | (go_at_call 14; (with_reducible refine (awake7 _ ((hr.alloc _).alloc _).good).mono ?_); rintro e w1 ⟨rfl, hb⟩; replace hr := ((hr.alloc _).alloc _).step hb; have ka := ((Blk.new _ _ _).alloc _).step hb; have kb := (Blk.new' _ (w.heap.size + 1) (by simp) _ _).step hb; have e1 := ka.cell; have e2 := kb.cell; clear hb)
    | (go_at_call 7; ((with_reducible refine (P1.out _).mono ?_); rintro e w1 ⟨rfl, hb⟩; replace hr := hr.step hb; replace ka := ka.step hb; replace kb := kb.step hb; have e1 := ka.cell; have e2 := kb.cell; clear hb))
    | (go_at_call 11; (with_reducible refine (lnum _ _).mono ?_); rintro e w1 ⟨rfl, rfl⟩))
  go_ret
  exact ⟨rfl, hr⟩

set_option maxRecDepth 100000 in
set_option maxHeartbeats 8000000 in
theorem unlike_ne (k x1 x2 x3 x4 x5 x6 x7 k2 y1 y2 y3 y4 y5 y6 y7 : Int) (w : World) (hg : Gd w) (hm1 : (Ev.mk k x1 x2 x3 x4 x5 x6 x7).may = true) (hm2 : (Ev.mk k2 y1 y2 y3 y4 y5 y6 y7).may = true) (hne : (Ev.mk k x1 x2 x3 x4 x5 x6 x7) ≠ (Ev.mk k2 y1 y2 y3 y4 y5 y6 y7)) :
    Calls Tryd.prog 5 #[(Ev.mk k x1 x2 x3 x4 x5 x6 x7).val, (Ev.mk k2 y1 y2 y3 y4 y5 y6 y7).val] w fun e w' => e = .returned (.bool true) ∧ Gr w w' := by
  have hr := Gr.refl hg
  clear hg
  have P1 := Lib.hid (fun w => epput (Ev.mk k x1 x2 x3 x4 x5 x6 x7) w)
  rw [show (Ev.mk k x1 x2 x3 x4 x5 x6 x7).putS = (Ev.mk k x1 x2 x3 x4 x5 x6 x7).put by unfold Ev.putS; rw [hm1]; rfl, show (Ev.mk k x1 x2 x3 x4 x5 x6 x7).putE = 0 by unfold Ev.putE; rw [hm1]; rfl] at P1
  have P2 := Lib.hid (fun w => epput (Ev.mk k2 y1 y2 y3 y4 y5 y6 y7) w)
  rw [show (Ev.mk k2 y1 y2 y3 y4 y5 y6 y7).putS = (Ev.mk k2 y1 y2 y3 y4 y5 y6 y7).put by unfold Ev.putS; rw [hm2]; rfl, show (Ev.mk k2 y1 y2 y3 y4 y5 y6 y7).putE = 0 by unfold Ev.putE; rw [hm2]; rfl] at P2
  have hs : (Ev.mk k x1 x2 x3 x4 x5 x6 x7).put ≠ (Ev.mk k2 y1 y2 y3 y4 y5 y6 y7).put := fun e => hne (Ev.codec.inj hm1 hm2 e)
  have HN : Hid (k = k2 → x1 = y1 → x2 = y2 → x3 = y3 → x4 = y4 → x5 = y5 → x6 = y6 → x7 = y7 → False) := fun e0 e1 e2 e3 e4 e5 e6 e7 => hne (by rw [e0, e1, e2, e3, e4, e5, e6, e7])
  generalize (Ev.mk k x1 x2 x3 x4 x5 x6 x7).put = sa at *
  generalize (Ev.mk k2 y1 y2 y3 y4 y5 y6 y7).put = sb at *
  have hs2 := str_ne' hs
  unfold Ev.val at P1 P2
  unfold Ev.val
  clear hm1 hm2 hne hs
  go_enter Tryd.func5, Tryd.ntmps5
  go_wp2_with (first
    | (go_at_call 14; (with_reducible refine (awake7 _ ((hr.alloc _).alloc _).good).mono ?_); rintro e w1 ⟨rfl, hb⟩; replace hr := ((hr.alloc _).alloc _).step hb; have ka := ((Blk.new _ _ _).alloc _).step hb; have kb := (Blk.new' _ (w.heap.size + 1) (by simp) _ _).step hb; have e1 := ka.cell; have e2 := kb.cell; clear hb)
    | (go_at_call 7; first | ((with_reducible refine (P1.out _).mono ?_); rintro e w1 ⟨rfl, hb⟩; replace hr := hr.step hb; replace ka := ka.step hb; replace kb := kb.step hb; have e1 := ka.cell; have e2 := kb.cell; clear hb) | ((with_reducible refine (P2.out _).mono ?_); rintro e w1 ⟨rfl, hb⟩; replace hr := hr.step hb; replace ka := ka.step hb; replace kb := kb.step hb; have e1 := ka.cell; have e2 := kb.cell; clear hb))
    | (go_at_call 11; (with_reducible refine (lnum _ _).mono ?_); rintro e w1 ⟨rfl, rfl⟩))
  all_goals
    go_ret
    first
      | exact ⟨rfl, hr⟩
      | exact (HN.out (by assumption) (by assumption) (by assumption) (by assumption) (by assumption) (by assumption) (by assumption) (by assumption)).elim

set_option maxRecDepth 100000 in
set_option maxHeartbeats 8000000 in
theorem unlike_no1 (k x1 x2 x3 x4 x5 x6 x7 k2 y1 y2 y3 y4 y5 y6 y7 : Int) (w : World) (hg : Gd w) (hm1 : (Ev.mk k x1 x2 x3 x4 x5 x6 x7).may = false) :
    Calls Tryd.prog 5 #[(Ev.mk k x1 x2 x3 x4 x5 x6 x7).val, (Ev.mk k2 y1 y2 y3 y4 y5 y6 y7).val] w fun e w' => e = .returned (.bool true) ∧ Gr w w' := by
  have hr := Gr.refl hg
  clear hg
  have P1 := Lib.hid (fun w => epput (Ev.mk k x1 x2 x3 x4 x5 x6 x7) w)
  rw [show (Ev.mk k x1 x2 x3 x4 x5 x6 x7).putS = ⟨#[]⟩ by unfold Ev.putS; rw [hm1]; rfl, show (Ev.mk k x1 x2 x3 x4 x5 x6 x7).putE = 700 by unfold Ev.putE; rw [hm1]; rfl] at P1
  have P2 := Lib.hid (fun w => epput (Ev.mk k2 y1 y2 y3 y4 y5 y6 y7) w)
  have hc : ((Ev.mk k2 y1 y2 y3 y4 y5 y6 y7).putE = 0) ∨ ((Ev.mk k2 y1 y2 y3 y4 y5 y6 y7).putS = ⟨#[]⟩ ∧ (Ev.mk k2 y1 y2 y3 y4 y5 y6 y7).putE = 700) := by
    unfold Ev.putE Ev.putS
    cases (Ev.mk k2 y1 y2 y3 y4 y5 y6 y7).may
    · exact .inr ⟨rfl, rfl⟩
    · exact .inl rfl
  generalize (Ev.mk k2 y1 y2 y3 y4 y5 y6 y7).putS = sb at *
  generalize (Ev.mk k2 y1 y2 y3 y4 y5 y6 y7).putE = eb at *
  unfold Ev.val at P1 P2
  unfold Ev.val
  clear hm1
  rcases hc with rfl | ⟨rfl, rfl⟩
  · go_enter Tryd.func5, Tryd.ntmps5
    go_wp2_with (first
      | (go_at_call 14; (with_reducible refine (awake7 _ ((hr.alloc _).alloc _).good).mono ?_); rintro e w1 ⟨rfl, hb⟩; replace hr := ((hr.alloc _).alloc _).step hb; have ka := ((Blk.new _ _ _).alloc _).step hb; have kb := (Blk.new' _ (w.heap.size + 1) (by simp) _ _).step hb; have e1 := ka.cell; have e2 := kb.cell; clear hb)
      | (go_at_call 7; first | ((with_reducible refine (P1.out _).mono ?_); rintro e w1 ⟨rfl, hb⟩; replace hr := hr.step hb; replace ka := ka.step hb; replace kb := kb.step hb; have e1 := ka.cell; have e2 := kb.cell; clear hb) | ((with_reducible refine (P2.out _).mono ?_); rintro e w1 ⟨rfl, hb⟩; replace hr := hr.step hb; replace ka := ka.step hb; replace kb := kb.step hb; have e1 := ka.cell; have e2 := kb.cell; clear hb))
      | (go_at_call 11; (with_reducible refine (lnum _ _).mono ?_); rintro e w1 ⟨rfl, rfl⟩))
    all_goals
      go_ret
      exact ⟨rfl, hr⟩
  · go_enter Tryd.func5, Tryd.ntmps5
    go_wp2_with (first
      | (go_at_call 14; (with_reducible refine (awake7 _ ((hr.alloc _).alloc _).good).mono ?_); rintro e w1 ⟨rfl, hb⟩; replace hr := ((hr.alloc _).alloc _).step hb; have ka := ((Blk.new _ _ _).alloc _).step hb; have kb := (Blk.new' _ (w.heap.size + 1) (by simp) _ _).step hb; have e1 := ka.cell; have e2 := kb.cell; clear hb)
      | (go_at_call 7; first | ((with_reducible refine (P1.out _).mono ?_); rintro e w1 ⟨rfl, hb⟩; replace hr := hr.step hb; replace ka := ka.step hb; replace kb := kb.step hb; have e1 := ka.cell; have e2 := kb.cell; clear hb) | ((with_reducible refine (P2.out _).mono ?_); rintro e w1 ⟨rfl, hb⟩; replace hr := hr.step hb; replace ka := ka.step hb; replace kb := kb.step hb; have e1 := ka.cell; have e2 := kb.cell; clear hb))
      | (go_at_call 11; (with_reducible refine (lnum _ _).mono ?_); rintro e w1 ⟨rfl, rfl⟩))
    all_goals
      go_ret
      exact ⟨rfl, hr⟩

set_option maxRecDepth 100000 in
set_option maxHeartbeats 8000000 in
theorem unlike_no2 (k x1 x2 x3 x4 x5 x6 x7 k2 y1 y2 y3 y4 y5 y6 y7 : Int) (w : World) (hg : Gd w) (hm1 : (Ev.mk k x1 x2 x3 x4 x5 x6 x7).may = true) (hm2 : (Ev.mk k2 y1 y2 y3 y4 y5 y6 y7).may = false) :
    Calls Tryd.prog 5 #[(Ev.mk k x1 x2 x3 x4 x5 x6 x7).val, (Ev.mk k2 y1 y2 y3 y4 y5 y6 y7).val] w fun e w' => e = .returned (.bool true) ∧ Gr w w' := by
  have hr := Gr.refl hg
  clear hg
  have P1 := Lib.hid (fun w => epput (Ev.mk k x1 x2 x3 x4 x5 x6 x7) w)
  rw [show (Ev.mk k x1 x2 x3 x4 x5 x6 x7).putS = (Ev.mk k x1 x2 x3 x4 x5 x6 x7).put by unfold Ev.putS; rw [hm1]; rfl, show (Ev.mk k x1 x2 x3 x4 x5 x6 x7).putE = 0 by unfold Ev.putE; rw [hm1]; rfl] at P1
  have P2 := Lib.hid (fun w => epput (Ev.mk k2 y1 y2 y3 y4 y5 y6 y7) w)
  rw [show (Ev.mk k2 y1 y2 y3 y4 y5 y6 y7).putS = ⟨#[]⟩ by unfold Ev.putS; rw [hm2]; rfl, show (Ev.mk k2 y1 y2 y3 y4 y5 y6 y7).putE = 700 by unfold Ev.putE; rw [hm2]; rfl] at P2
  generalize (Ev.mk k x1 x2 x3 x4 x5 x6 x7).put = sa at *
  unfold Ev.val at P1 P2
  unfold Ev.val
  clear hm1 hm2
  go_enter Tryd.func5, Tryd.ntmps5
  go_wp2_with (first
    | (go_at_call 14; (with_reducible refine (awake7 _ ((hr.alloc _).alloc _).good).mono ?_); rintro e w1 ⟨rfl, hb⟩; replace hr := ((hr.alloc _).alloc _).step hb; have ka := ((Blk.new _ _ _).alloc _).step hb; have kb := (Blk.new' _ (w.heap.size + 1) (by simp) _ _).step hb; have e1 := ka.cell; have e2 := kb.cell; clear hb)
    | (go_at_call 7; first | ((with_reducible refine (P1.out _).mono ?_); rintro e w1 ⟨rfl, hb⟩; replace hr := hr.step hb; replace ka := ka.step hb; replace kb := kb.step hb; have e1 := ka.cell; have e2 := kb.cell; clear hb) | ((with_reducible refine (P2.out _).mono ?_); rintro e w1 ⟨rfl, hb⟩; replace hr := hr.step hb; replace ka := ka.step hb; replace kb := kb.step hb; have e1 := ka.cell; have e2 := kb.cell; clear hb))
    | (go_at_call 11; (with_reducible refine (lnum _ _).mono ?_); rintro e w1 ⟨rfl, rfl⟩))
  go_ret
  exact ⟨rfl, hr⟩

theorem unlike_walk (a b : Ev) (w : World) (hg : Gd w) : Calls Tryd.prog 5 #[a.val, b.val] w fun e w' => e = .returned (.bool true) ∧ Gr w w' := by
  by_cases ha : a.may = true
  · by_cases hb : b.may = true
    · by_cases e : a = b
      · subst e
        obtain ⟨k, x1, x2, x3, x4, x5, x6, x7⟩ := a
        exact unlike_eq k x1 x2 x3 x4 x5 x6 x7 w hg ha
      · obtain ⟨k, x1, x2, x3, x4, x5, x6, x7⟩ := a
        obtain ⟨k2, y1, y2, y3, y4, y5, y6, y7⟩ := b
        exact unlike_ne k x1 x2 x3 x4 x5 x6 x7 k2 y1 y2 y3 y4 y5 y6 y7 w hg ha hb e
    · obtain ⟨k, x1, x2, x3, x4, x5, x6, x7⟩ := a
      obtain ⟨k2, y1, y2, y3, y4, y5, y6, y7⟩ := b
      exact unlike_no2 k x1 x2 x3 x4 x5 x6 x7 k2 y1 y2 y3 y4 y5 y6 y7 w hg ha (by simpa using hb)
  · obtain ⟨k, x1, x2, x3, x4, x5, x6, x7⟩ := a
    obtain ⟨k2, y1, y2, y3, y4, y5, y6, y7⟩ := b
    exact unlike_no1 k x1 x2 x3 x4 x5 x6 x7 k2 y1 y2 y3 y4 y5 y6 y7 w hg (by simpa using ha)
end Go.Proofs.YtodngcpphnmphaaDoor
