/- The walk of ReplyUnlike: of unlike replies the bytes are unlike. Condition: errors.errorType holds the handle of the type error. -/
import Derived.Test.YthbnkejjipiaaaaDoorYaw
namespace Go.Proofs.YthbnkejjipiaaaaDoor
open Go Go.RowKit

theorem str_ne' {s t : ByteArray} (h : s ≠ t) : (s.toList == t.toList) = false := by
  cases c : (s.toList == t.toList)
  · rfl
  · exfalso
    refine h ?_
    have h1 : s.toList = t.toList := by simpa using c
    obtain ⟨⟨a⟩⟩ := s
    obtain ⟨⟨b⟩⟩ := t
    rw [ByteArray.toList_mk, ByteArray.toList_mk] at h1
    exact congrArg (fun l => (⟨⟨l⟩⟩ : ByteArray)) h1
theorem toL_inj {s t : ByteArray} (h : s.toList = t.toList) : s = t := by
  obtain ⟨⟨a⟩⟩ := s
  obtain ⟨⟨b⟩⟩ := t
  rw [ByteArray.toList_mk, ByteArray.toList_mk] at h
  exact congrArg (fun l => (⟨⟨l⟩⟩ : ByteArray)) h

set_option maxRecDepth 100000 in
set_option maxHeartbeats 8000000 in
theorem unlike_eq (k u n h tg c s q : Int) (d : ByteArray) (w : World) (hg : Gd w) (hm1 : (Ry.mk k u n h tg c s q d).may = true) :
    Calls Tryd.prog 9 #[(Ry.mk k u n h tg c s q d).val, (Ry.mk k u n h tg c s q d).val] w fun e w' => e = .returned (.bool true) ∧ Gr w w' := by
  have hr := Gr.refl hg
  clear hg
  have P1 := Lib.hid (fun w => ypput (Ry.mk k u n h tg c s q d) w)
  rw [show (Ry.mk k u n h tg c s q d).putS = (Ry.mk k u n h tg c s q d).put by unfold Ry.putS; rw [hm1]; rfl, show (Ry.mk k u n h tg c s q d).putE = 0 by unfold Ry.putE; rw [hm1]; rfl] at P1
  generalize (Ry.mk k u n h tg c s q d).put = sa at *
  unfold Ry.val at P1
  unfold Ry.val
  clear hm1
  go_enter Tryd.func9, Tryd.ntmps9
  go_wp2_with (first
    | (go_at_call 25; (with_reducible refine (awake5 _ ((hr.alloc _).alloc _).good).mono ?_); rintro e w1 ⟨rfl, hb⟩; replace hr := ((hr.alloc _).alloc _).step hb; have ka := ((Blk.new _ _ _).alloc _).step hb; have kb := (Blk.new' _ (w.heap.size + 1) (by simp) _ _).step hb; have e1 := ka.cell; have e2 := kb.cell; clear hb)
    | (go_at_call 19; ((with_reducible refine (P1.out _).mono ?_); rintro e w1 ⟨rfl, hb⟩; replace hr := hr.step hb; replace ka := ka.step hb; replace kb := kb.step hb; have e1 := ka.cell; have e2 := kb.cell; clear hb))
    | (go_at_call 15; (with_reducible refine (lnum _ _).mono ?_); rintro e w1 ⟨rfl, rfl⟩))
  go_ret
  exact ⟨rfl, hr⟩

set_option maxRecDepth 100000 in
set_option maxHeartbeats 8000000 in
theorem unlike_ne (k u n h tg c s q k2 u2 n2 h2 tg2 c2 s2 q2 : Int) (d d2 : ByteArray) (w : World) (hg : Gd w) (hm1 : (Ry.mk k u n h tg c s q d).may = true) (hm2 : (Ry.mk k2 u2 n2 h2 tg2 c2 s2 q2 d2).may = true) (hne : (Ry.mk k u n h tg c s q d) ≠ (Ry.mk k2 u2 n2 h2 tg2 c2 s2 q2 d2)) :
    Calls Tryd.prog 9 #[(Ry.mk k u n h tg c s q d).val, (Ry.mk k2 u2 n2 h2 tg2 c2 s2 q2 d2).val] w fun e w' => e = .returned (.bool true) ∧ Gr w w' := by
  have hr := Gr.refl hg
  clear hg
  have P1 := Lib.hid (fun w => ypput (Ry.mk k u n h tg c s q d) w)
  rw [show (Ry.mk k u n h tg c s q d).putS = (Ry.mk k u n h tg c s q d).put by unfold Ry.putS; rw [hm1]; rfl, show (Ry.mk k u n h tg c s q d).putE = 0 by unfold Ry.putE; rw [hm1]; rfl] at P1
  have P2 := Lib.hid (fun w => ypput (Ry.mk k2 u2 n2 h2 tg2 c2 s2 q2 d2) w)
  rw [show (Ry.mk k2 u2 n2 h2 tg2 c2 s2 q2 d2).putS = (Ry.mk k2 u2 n2 h2 tg2 c2 s2 q2 d2).put by unfold Ry.putS; rw [hm2]; rfl, show (Ry.mk k2 u2 n2 h2 tg2 c2 s2 q2 d2).putE = 0 by unfold Ry.putE; rw [hm2]; rfl] at P2
  have hs : (Ry.mk k u n h tg c s q d).put ≠ (Ry.mk k2 u2 n2 h2 tg2 c2 s2 q2 d2).put := fun e => hne (Ry.codec.inj hm1 hm2 e)
  have HN : Hid (k = k2 → u = u2 → n = n2 → h = h2 → tg = tg2 → c = c2 → s = s2 → q = q2 → d.toList = d2.toList → False) := fun e0 e1 e2 e3 e4 e5 e6 e7 e8 => hne (by rw [e0, e1, e2, e3, e4, e5, e6, e7, toL_inj e8])
  generalize (Ry.mk k u n h tg c s q d).put = sa at *
  generalize (Ry.mk k2 u2 n2 h2 tg2 c2 s2 q2 d2).put = sb at *
  have hs2 := str_ne' hs
  unfold Ry.val at P1 P2
  unfold Ry.val
  clear hm1 hm2 hne hs
  go_enter Tryd.func9, Tryd.ntmps9
  go_wp2_with (first
    | (go_at_call 25; (with_reducible refine (awake5 _ ((hr.alloc _).alloc _).good).mono ?_); rintro e w1 ⟨rfl, hb⟩; replace hr := ((hr.alloc _).alloc _).step hb; have ka := ((Blk.new _ _ _).alloc _).step hb; have kb := (Blk.new' _ (w.heap.size + 1) (by simp) _ _).step hb; have e1 := ka.cell; have e2 := kb.cell; clear hb)
    | (go_at_call 19; first | ((with_reducible refine (P1.out _).mono ?_); rintro e w1 ⟨rfl, hb⟩; replace hr := hr.step hb; replace ka := ka.step hb; replace kb := kb.step hb; have e1 := ka.cell; have e2 := kb.cell; clear hb) | ((with_reducible refine (P2.out _).mono ?_); rintro e w1 ⟨rfl, hb⟩; replace hr := hr.step hb; replace ka := ka.step hb; replace kb := kb.step hb; have e1 := ka.cell; have e2 := kb.cell; clear hb))
    | (go_at_call 15; (with_reducible refine (lnum _ _).mono ?_); rintro e w1 ⟨rfl, rfl⟩))
  all_goals
    go_ret
    first
      | exact ⟨rfl, hr⟩
      | exact (HN.out (by assumption) (by assumption) (by assumption) (by assumption) (by assumption) (by assumption) (by assumption) (by assumption) (by assumption)).elim

set_option maxRecDepth 100000 in
set_option maxHeartbeats 8000000 in
theorem unlike_no1 (k u n h tg c s q k2 u2 n2 h2 tg2 c2 s2 q2 : Int) (d d2 : ByteArray) (w : World) (hg : Gd w) (hm1 : (Ry.mk k u n h tg c s q d).may = false) :
    Calls Tryd.prog 9 #[(Ry.mk k u n h tg c s q d).val, (Ry.mk k2 u2 n2 h2 tg2 c2 s2 q2 d2).val] w fun e w' => e = .returned (.bool true) ∧ Gr w w' := by
  have hr := Gr.refl hg
  clear hg
  have P1 := Lib.hid (fun w => ypput (Ry.mk k u n h tg c s q d) w)
  rw [show (Ry.mk k u n h tg c s q d).putS = ⟨#[]⟩ by unfold Ry.putS; rw [hm1]; rfl, show (Ry.mk k u n h tg c s q d).putE = 500 by unfold Ry.putE; rw [hm1]; rfl] at P1
  have P2 := Lib.hid (fun w => ypput (Ry.mk k2 u2 n2 h2 tg2 c2 s2 q2 d2) w)
  have hc : ((Ry.mk k2 u2 n2 h2 tg2 c2 s2 q2 d2).putE = 0) ∨ ((Ry.mk k2 u2 n2 h2 tg2 c2 s2 q2 d2).putS = ⟨#[]⟩ ∧ (Ry.mk k2 u2 n2 h2 tg2 c2 s2 q2 d2).putE = 500) := by
    unfold Ry.putE Ry.putS
    cases (Ry.mk k2 u2 n2 h2 tg2 c2 s2 q2 d2).may
    · exact .inr ⟨rfl, rfl⟩
    · exact .inl rfl
  generalize (Ry.mk k2 u2 n2 h2 tg2 c2 s2 q2 d2).putS = sb at *
  generalize (Ry.mk k2 u2 n2 h2 tg2 c2 s2 q2 d2).putE = eb at *
  unfold Ry.val at P1 P2
  unfold Ry.val
  clear hm1
  rcases hc with rfl | ⟨rfl, rfl⟩
  · go_enter Tryd.func9, Tryd.ntmps9
    go_wp2_with (first
      | (go_at_call 25; (with_reducible refine (awake5 _ ((hr.alloc _).alloc _).good).mono ?_); rintro e w1 ⟨rfl, hb⟩; replace hr := ((hr.alloc _).alloc _).step hb; have ka := ((Blk.new _ _ _).alloc _).step hb; have kb := (Blk.new' _ (w.heap.size + 1) (by simp) _ _).step hb; have e1 := ka.cell; have e2 := kb.cell; clear hb)
      | (go_at_call 19; first | ((with_reducible refine (P1.out _).mono ?_); rintro e w1 ⟨rfl, hb⟩; replace hr := hr.step hb; replace ka := ka.step hb; replace kb := kb.step hb; have e1 := ka.cell; have e2 := kb.cell; clear hb) | ((with_reducible refine (P2.out _).mono ?_); rintro e w1 ⟨rfl, hb⟩; replace hr := hr.step hb; replace ka := ka.step hb; replace kb := kb.step hb; have e1 := ka.cell; have e2 := kb.cell; clear hb))
      | (go_at_call 15; (with_reducible refine (lnum _ _).mono ?_); rintro e w1 ⟨rfl, rfl⟩))
    all_goals
      go_ret
      exact ⟨rfl, hr⟩
  · go_enter Tryd.func9, Tryd.ntmps9
    go_wp2_with (first
      | (go_at_call 25; (with_reducible refine (awake5 _ ((hr.alloc _).alloc _).good).mono ?_); rintro e w1 ⟨rfl, hb⟩; replace hr := ((hr.alloc _).alloc _).step hb; have ka := ((Blk.new _ _ _).alloc _).step hb; have kb := (Blk.new' _ (w.heap.size + 1) (by simp) _ _).step hb; have e1 := ka.cell; have e2 := kb.cell; clear hb)
      | (go_at_call 19; first | ((with_reducible refine (P1.out _).mono ?_); rintro e w1 ⟨rfl, hb⟩; replace hr := hr.step hb; replace ka := ka.step hb; replace kb := kb.step hb; have e1 := ka.cell; have e2 := kb.cell; clear hb) | ((with_reducible refine (P2.out _).mono ?_); rintro e w1 ⟨rfl, hb⟩; replace hr := hr.step hb; replace ka := ka.step hb; replace kb := kb.step hb; have e1 := ka.cell; have e2 := kb.cell; clear hb))
      | (go_at_call 15; (with_reducible refine (lnum _ _).mono ?_); rintro e w1 ⟨rfl, rfl⟩))
    all_goals
      go_ret
      exact ⟨rfl, hr⟩

set_option maxRecDepth 100000 in
set_option maxHeartbeats 8000000 in
theorem unlike_no2 (k u n h tg c s q k2 u2 n2 h2 tg2 c2 s2 q2 : Int) (d d2 : ByteArray) (w : World) (hg : Gd w) (hm1 : (Ry.mk k u n h tg c s q d).may = true) (hm2 : (Ry.mk k2 u2 n2 h2 tg2 c2 s2 q2 d2).may = false) :
    Calls Tryd.prog 9 #[(Ry.mk k u n h tg c s q d).val, (Ry.mk k2 u2 n2 h2 tg2 c2 s2 q2 d2).val] w fun e w' => e = .returned (.bool true) ∧ Gr w w' := by
  have hr := Gr.refl hg
  clear hg
  have P1 := Lib.hid (fun w => ypput (Ry.mk k u n h tg c s q d) w)
  rw [show (Ry.mk k u n h tg c s q d).putS = (Ry.mk k u n h tg c s q d).put by unfold Ry.putS; rw [hm1]; rfl, show (Ry.mk k u n h tg c s q d).putE = 0 by unfold Ry.putE; rw [hm1]; rfl] at P1
  have P2 := Lib.hid (fun w => ypput (Ry.mk k2 u2 n2 h2 tg2 c2 s2 q2 d2) w)
  rw [show (Ry.mk k2 u2 n2 h2 tg2 c2 s2 q2 d2).putS = ⟨#[]⟩ by unfold Ry.putS; rw [hm2]; rfl, show (Ry.mk k2 u2 n2 h2 tg2 c2 s2 q2 d2).putE = 500 by unfold Ry.putE; rw [hm2]; rfl] at P2
  generalize (Ry.mk k u n h tg c s q d).put = sa at *
  unfold Ry.val at P1 P2
  unfold Ry.val
  clear hm1 hm2
  go_enter Tryd.func9, Tryd.ntmps9
  go_wp2_with (first
    | (go_at_call 25; (with_reducible refine (awake5 _ ((hr.alloc _).alloc _).good).mono ?_); rintro e w1 ⟨rfl, hb⟩; replace hr := ((hr.alloc _).alloc _).step hb; have ka := ((Blk.new _ _ _).alloc _).step hb; have kb := (Blk.new' _ (w.heap.size + 1) (by simp) _ _).step hb; have e1 := ka.cell; have e2 := kb.cell; clear hb)
    | (go_at_call 19; first | ((with_reducible refine (P1.out _).mono ?_); rintro e w1 ⟨rfl, hb⟩; replace hr := hr.step hb; replace ka := ka.step hb; replace kb := kb.step hb; have e1 := ka.cell; have e2 := kb.cell; clear hb) | ((with_reducible refine (P2.out _).mono ?_); rintro e w1 ⟨rfl, hb⟩; replace hr := hr.step hb; replace ka := ka.step hb; replace kb := kb.step hb; have e1 := ka.cell; have e2 := kb.cell; clear hb))
    | (go_at_call 15; (with_reducible refine (lnum _ _).mono ?_); rintro e w1 ⟨rfl, rfl⟩))
  go_ret
  exact ⟨rfl, hr⟩

theorem unlike_walk (a b : Ry) (w : World) (hg : Gd w) : Calls Tryd.prog 9 #[a.val, b.val] w fun e w' => e = .returned (.bool true) ∧ Gr w w' := by
  by_cases ha : a.may = true
  · by_cases hb : b.may = true
    · by_cases e : a = b
      · subst e
        obtain ⟨k, u, n, h, t, c, s, q, d⟩ := a
        exact unlike_eq k u n h t c s q d w hg ha
      · obtain ⟨k, u, n, h, t, c, s, q, d⟩ := a
        obtain ⟨k2, u2, n2, h2, t2, c2, s2, q2, d2⟩ := b
        exact unlike_ne k u n h t c s q k2 u2 n2 h2 t2 c2 s2 q2 d d2 w hg ha hb e
    · obtain ⟨k, u, n, h, t, c, s, q, d⟩ := a
      obtain ⟨k2, u2, n2, h2, t2, c2, s2, q2, d2⟩ := b
      exact unlike_no2 k u n h t c s q k2 u2 n2 h2 t2 c2 s2 q2 d d2 w hg ha (by simpa using hb)
  · obtain ⟨k, u, n, h, t, c, s, q, d⟩ := a
    obtain ⟨k2, u2, n2, h2, t2, c2, s2, q2, d2⟩ := b
    exact unlike_no1 k u n h t c s q k2 u2 n2 h2 t2 c2 s2 q2 d d2 w hg (by simpa using ha)
end Go.Proofs.YthbnkejjipiaaaaDoor
