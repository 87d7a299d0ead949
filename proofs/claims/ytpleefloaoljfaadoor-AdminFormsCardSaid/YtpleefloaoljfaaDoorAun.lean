/- The walk of AdminUnlike: of unlike admins the bytes are unlike. Condition: errors.errorType holds the handle of the type error. -/
import Derived.Test.YtpleefloaoljfaaDoorAaw
namespace Go.Proofs.YtpleefloaoljfaaDoor
open Go Go.RowKit

theorem str_ne' {s t : ByteArray} (h : s ≠ t) : (s.toList == t.toList) = false := by
  cases c : (s.toList == t.toList)
  · rfl
  · exfalso
    refine h ?_
    have h1 : s.toList = t.toList := by simpa using c
    obtain ⟨⟨a⟩⟩ := s
    obtain ⟨⟨b⟩⟩ := t
    rw [ByteArray.toList_mk, ByteArray.toList_mk] at h1
    exact congrArg (fun l => (⟨⟨l⟩⟩ : ByteArray)) h1
theorem toL_inj {s t : ByteArray} (h : s.toList = t.toList) : s = t := by
  obtain ⟨⟨a⟩⟩ := s
  obtain ⟨⟨b⟩⟩ := t
  rw [ByteArray.toList_mk, ByteArray.toList_mk] at h
  exact congrArg (fun l => (⟨⟨l⟩⟩ : ByteArray)) h

set_option maxRecDepth 100000 in
set_option maxHeartbeats 8000000 in
theorem unlike_eq (k x1 x2 x3 x4 x5 : Int) (w : World) (hg : Gd w) (hm1 : (Ad.mk k x1 x2 x3 x4 x5).may = true) :
    Calls Tryd.prog 5 #[(Ad.mk k x1 x2 x3 x4 x5).val, (Ad.mk k x1 x2 x3 x4 x5).val] w fun e w' => e = .returned (.bool true) ∧ Gr w w' := by
  have hr := Gr.refl hg
  clear hg
  have P1 := Lib.hid (fun w => apput (Ad.mk k x1 x2 x3 x4 x5) w)
  rw [show (Ad.mk k x1 x2 x3 x4 x5).putS = (Ad.mk k x1 x2 x3 x4 x5).put by unfold Ad.putS; rw [hm1]; rfl, show (Ad.mk k x1 x2 x3 x4 x5).putE = 0 by unfold Ad.putE; rw [hm1]; rfl] at P1
  generalize (Ad.mk k x1 x2 x3 x4 x5).put = sa at *
  unfold Ad.val at P1
  unfold Ad.val
  clear hm1
  go_enter Tryd.func5, Tryd.ntmps5
  go_wp2_with (first
    | (go_at_call 14; (with_reducible refine (awake6 _ ((hr.alloc _).alloc _).good).mono ?_); rintro e w1 ⟨rfl, hb⟩; replace hr := ((hr.alloc _).alloc _).step hb; have ka := ((Blk.new _ _ _).alloc _).step hb; have kb := (Blk.new' _ (w.heap.size + 1) (by simp) _ _).step hb; have e1 := ka.cell; have e2 := kb.cell; clear hb)
    | (go_at_call 7; ((with_reducible refine (P1.out _).mono ?_); rintro e w1 ⟨rfl, hb⟩; replace hr := hr.step hb; replace ka := ka.step hb; replace kb := kb.step hb; have e1 := ka.cell; have e2 := kb.cell; clear hb))
    | (go_at_call 11; (with_reducible refine (lnum _ _).mono ?_); rintro e w1 ⟨rfl, rfl⟩))
  go_ret
  exact ⟨rfl, hr⟩

set_option maxRecDepth 100000 in
set_option maxHeartbeats 8000000 in
theorem unlike_ne (k x1 x2 x3 x4 x5 k2 y1 y2 y3 y4 y5 : Int) (w : World) (hg : Gd w) (hm1 : (Ad.mk k x1 x2 x3 x4 x5).may = true) (hm2 : (Ad.mk k2 y1 y2 y3 y4 y5).may = true) (hne : (Ad.mk k x1 x2 x3 x4 x5) ≠ (Ad.mk k2 y1 y2 y3 y4 y5)) :
    Calls Tryd.prog 5 #[(Ad.mk k x1 x2 x3 x4 x5).val, (Ad.mk k2 y1 y2 y3 y4 y5).val] w fun e w' => e = .returned (.bool true) ∧ Gr w w' := by
  have hr := Gr.refl hg
  clear hg
  have P1 := Lib.hid (fun w => apput (Ad.mk k x1 x2 x3 x4 x5) w)
  rw [show (Ad.mk k x1 x2 x3 x4 x5).putS = (Ad.mk k x1 x2 x3 x4 x5).put by unfold Ad.putS; rw [hm1]; rfl, show (Ad.mk k x1 x2 x3 x4 x5).putE = 0 by unfold Ad.putE; rw [hm1]; rfl] at P1
  have P2 := Lib.hid (fun w => apput (Ad.mk k2 y1 y2 y3 y4 y5) w)
  rw [show (Ad.mk k2 y1 y2 y3 y4 y5).putS = (Ad.mk k2 y1 y2 y3 y4 y5).put by unfold Ad.putS; rw [hm2]; rfl, show (Ad.mk k2 y1 y2 y3 y4 y5).putE = 0 by unfold Ad.putE; rw [hm2]; rfl] at P2
  have hs : (Ad.mk k x1 x2 x3 x4 x5).put ≠ (Ad.mk k2 y1 y2 y3 y4 y5).put := fun e => hne (Ad.codec.inj hm1 hm2 e)
  have HN : Hid (k = k2 → x1 = y1 → x2 = y2 → x3 = y3 → x4 = y4 → x5 = y5 → False) := fun e0 e1 e2 e3 e4 e5 => hne (by rw [e0, e1, e2, e3, e4, e5])
  generalize (Ad.mk k x1 x2 x3 x4 x5).put = sa at *
  generalize (Ad.mk k2 y1 y2 y3 y4 y5).put = sb at *
  have hs2 := str_ne' hs
  unfold Ad.val at P1 P2
  unfold Ad.val
  clear hm1 hm2 hne hs
  go_enter Tryd.func5, Tryd.ntmps5
  go_wp2_with (first
    | (go_at_call 14; (with_reducible refine (awake6 _ ((hr.alloc _).alloc _).good).mono ?_); rintro e w1 ⟨rfl, hb⟩; replace hr := ((hr.alloc _).alloc _).step hb; have ka := ((Blk.new _ _ _).alloc _).step hb; have kb := (Blk.new' _ (w.heap.size + 1) (by simp) _ _).step hb; have e1 := ka.cell; have e2 := kb.cell; clear hb)
    | (go_at_call 7; first | ((with_reducible refine (P1.out _).mono ?_); rintro e w1 ⟨rfl, hb⟩; replace hr := hr.step hb; replace ka := ka.step hb; replace kb := kb.step hb; have e1 := ka.cell; have e2 := kb.cell; clear hb) | ((with_reducible refine (P2.out _).mono ?_); rintro e w1 ⟨rfl, hb⟩; replace hr := hr.step hb; replace ka := ka.step hb; replace kb := kb.step hb; have e1 := ka.cell; have e2 := kb.cell; clear hb))
    | (go_at_call 11; (with_reducible refine (lnum _ _).mono ?_); rintro e w1 ⟨rfl, rfl⟩))
  all_goals
    go_ret
    first
      | exact ⟨rfl, hr⟩
      | exact (HN.out (by assumption) (by assumption) (by assumption) (by assumption) (by assumption) (by assumption)).elim

set_option maxRecDepth 100000 in
set_option maxHeartbeats 8000000 in
theorem unlike_no1 (k x1 x2 x3 x4 x5 k2 y1 y2 y3 y4 y5 : Int) (w : World) (hg : Gd w) (hm1 : (Ad.mk k x1 x2 x3 x4 x5).may = false) :
    Calls Tryd.prog 5 #[(Ad.mk k x1 x2 x3 x4 x5).val, (Ad.mk k2 y1 y2 y3 y4 y5).val] w fun e w' => e = .returned (.bool true) ∧ Gr w w' := by
  have hr := Gr.refl hg
  clear hg
  have P1 := Lib.hid (fun w => apput (Ad.mk k x1 x2 x3 x4 x5) w)
  rw [show (Ad.mk k x1 x2 x3 x4 x5).putS = ⟨#[]⟩ by unfold Ad.putS; rw [hm1]; rfl, show (Ad.mk k x1 x2 x3 x4 x5).putE = 600 by unfold Ad.putE; rw [hm1]; rfl] at P1
  have P2 := Lib.hid (fun w => apput (Ad.mk k2 y1 y2 y3 y4 y5) w)
  have hc : ((Ad.mk k2 y1 y2 y3 y4 y5).putE = 0) ∨ ((Ad.mk k2 y1 y2 y3 y4 y5).putS = ⟨#[]⟩ ∧ (Ad.mk k2 y1 y2 y3 y4 y5).putE = 600) := by
    unfold Ad.putE Ad.putS
    cases (Ad.mk k2 y1 y2 y3 y4 y5).may
    · exact .inr ⟨rfl, rfl⟩
    · exact .inl rfl
  generalize (Ad.mk k2 y1 y2 y3 y4 y5).putS = sb at *
  generalize (Ad.mk k2 y1 y2 y3 y4 y5).putE = eb at *
  unfold Ad.val at P1 P2
  unfold Ad.val
  clear hm1
  rcases hc with rfl | ⟨rfl, rfl⟩
  · go_enter Tryd.func5, Tryd.ntmps5
    go_wp2_with (first
      | (go_at_call 14; (with_reducible refine (awake6 _ ((hr.alloc _).alloc _).good).mono ?_); rintro e w1 ⟨rfl, hb⟩; replace hr := ((hr.alloc _).alloc _).step hb; have ka := ((Blk.new _ _ _).alloc _).step hb; have kb := (Blk.new' _ (w.heap.size + 1) (by simp) _ _).step hb; have e1 := ka.cell; have e2 := kb.cell; clear hb)
      | (go_at_call 7; first | ((with_reducible refine (P1.out _).mono ?_); rintro e w1 ⟨rfl, hb⟩; replace hr := hr.step hb; replace ka := ka.step hb; replace kb := kb.step hb; have e1 := ka.cell; have e2 := kb.cell; clear hb) | ((with_reducible refine (P2.out _).mono ?_); rintro e w1 ⟨rfl, hb⟩; replace hr := hr.step hb; replace ka := ka.step hb; replace kb := kb.step hb; have e1 := ka.cell; have e2 := kb.cell; clear hb))
      | (go_at_call 11; (with_reducible refine (lnum _ _).mono ?_); rintro e w1 ⟨rfl, rfl⟩))
    all_goals
      go_ret
      exact ⟨rfl, hr⟩
  · go_enter Tryd.func5, Tryd.ntmps5
    go_wp2_with (first
      | (go_at_call 14; (with_reducible refine (awake6 _ ((hr.alloc _).alloc _).good).mono ?_); rintro e w1 ⟨rfl, hb⟩; replace hr := ((hr.alloc _).alloc _).step hb; have ka := ((Blk.new _ _ _).alloc _).step hb; have kb := (Blk.new' _ (w.heap.size + 1) (by simp) _ _).step hb; have e1 := ka.cell; have e2 := kb.cell; clear hb)
      | (go_at_call 7; first | ((with_reducible refine (P1.out _).mono ?_); rintro e w1 ⟨rfl, hb⟩; replace hr := hr.step hb; replace ka := ka.step hb; replace kb := kb.step hb; have e1 := ka.cell; have e2 := kb.cell; clear hb) | ((with_reducible refine (P2.out _).mono ?_); rintro e w1 ⟨rfl, hb⟩; replace hr := hr.step hb; replace ka := ka.step hb; replace kb := kb.step hb; have e1 := ka.cell; have e2 := kb.cell; clear hb))
      | (go_at_call 11; (with_reducible refine (lnum _ _).mono ?_); rintro e w1 ⟨rfl, rfl⟩))
    all_goals
      go_ret
      exact ⟨rfl, hr⟩

set_option maxRecDepth 100000 in
set_option maxHeartbeats 8000000 in
theorem unlike_no2 (k x1 x2 x3 x4 x5 k2 y1 y2 y3 y4 y5 : Int) (w : World) (hg : Gd w) (hm1 : (Ad.mk k x1 x2 x3 x4 x5).may = true) (hm2 : (Ad.mk k2 y1 y2 y3 y4 y5).may = false) :
    Calls Tryd.prog 5 #[(Ad.mk k x1 x2 x3 x4 x5).val, (Ad.mk k2 y1 y2 y3 y4 y5).val] w fun e w' => e = .returned (.bool true) ∧ Gr w w' := by
  have hr := Gr.refl hg
  clear hg
  have P1 := Lib.hid (fun w => apput (Ad.mk k x1 x2 x3 x4 x5) w)
  rw [show (Ad.mk k x1 x2 x3 x4 x5).putS = (Ad.mk k x1 x2 x3 x4 x5).put by unfold Ad.putS; rw [hm1]; rfl, show (Ad.mk k x1 x2 x3 x4 x5).putE = 0 by unfold Ad.putE; rw [hm1]; rfl] at P1
  have P2 := Lib.hid (fun w => apput (Ad.mk k2 y1 y2 y3 y4 y5) w)
  rw [show (Ad.mk k2 y1 y2 y3 y4 y5).putS = ⟨#[]⟩ by unfold Ad.putS; rw [hm2]; rfl, show (Ad.mk k2 y1 y2 y3 y4 y5).putE = 600 by unfold Ad.putE; rw [hm2]; rfl] at P2
  generalize (Ad.mk k x1 x2 x3 x4 x5).put = sa at *
  unfold Ad.val at P1 P2
  unfold Ad.val
  clear hm1 hm2
  go_enter Tryd.func5, Tryd.ntmps5
  go_wp2_with (first
    | (go_at_call 14; (with_reducible refine (awake6 _ ((hr.alloc _).alloc _).good).mono ?_); rintro e w1 ⟨rfl, hb⟩; replace hr := ((hr.alloc _).alloc _).step hb; have ka := ((Blk.new _ _ _).alloc _).step hb; have kb := (Blk.new' _ (w.heap.size + 1) (by simp) _ _).step hb; have e1 := ka.cell; have e2 := kb.cell; clear hb)
    | (go_at_call 7; first | ((with_reducible refine (P1.out _).mono ?_); rintro e w1 ⟨rfl, hb⟩; replace hr := hr.step hb; replace ka := ka.step hb; replace kb := kb.step hb; have e1 := ka.cell; have e2 := kb.cell; clear hb) | ((with_reducible refine (P2.out _).mono ?_); rintro e w1 ⟨rfl, hb⟩; replace hr := hr.step hb; replace ka := ka.step hb; replace kb := kb.step hb; have e1 := ka.cell; have e2 := kb.cell; clear hb))
    | (go_at_call 11; (with_reducible refine (lnum _ _).mono ?_); rintro e w1 ⟨rfl, rfl⟩))
  go_ret
  exact ⟨rfl, hr⟩

theorem unlike_walk (a b : Ad) (w : World) (hg : Gd w) : Calls Tryd.prog 5 #[a.val, b.val] w fun e w' => e = .returned (.bool true) ∧ Gr w w' := by
  by_cases ha : a.may = true
  · by_cases hb : b.may = true
    · by_cases e : a = b
      · subst e
        obtain ⟨k, x1, x2, x3, x4, x5⟩ := a
        exact unlike_eq k x1 x2 x3 x4 x5 w hg ha
      · obtain ⟨k, x1, x2, x3, x4, x5⟩ := a
        obtain ⟨k2, y1, y2, y3, y4, y5⟩ := b
        exact unlike_ne k x1 x2 x3 x4 x5 k2 y1 y2 y3 y4 y5 w hg ha hb e
    · obtain ⟨k, x1, x2, x3, x4, x5⟩ := a
      obtain ⟨k2, y1, y2, y3, y4, y5⟩ := b
      exact unlike_no2 k x1 x2 x3 x4 x5 k2 y1 y2 y3 y4 y5 w hg ha (by simpa using hb)
  · obtain ⟨k, x1, x2, x3, x4, x5⟩ := a
    obtain ⟨k2, y1, y2, y3, y4, y5⟩ := b
    exact unlike_no1 k x1 x2 x3 x4 x5 k2 y1 y2 y3 y4 y5 w hg (by simpa using ha)
end Go.Proofs.YtpleefloaoljfaaDoor
