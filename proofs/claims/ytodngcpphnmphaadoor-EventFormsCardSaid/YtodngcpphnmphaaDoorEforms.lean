/- The walk of EventForms: each part that may not be, or that its kind does not name. Condition: errors.errorType holds the handle of the type error. -/
import Derived.Test.YtodngcpphnmphaaDoorEback
import Derived.Test.YtodngcpphnmphaaDoorFplain3
import Derived.IntWalk
import Derived.Deep.RegionWith
import Derived.Great.Walk
namespace Go.Proofs.YtodngcpphnmphaaDoor
open Go Go.RowKit

def Ev.cells (p : Ev) : List Value := [.int .i64 p.kind, .int .i64 p.user, .int .i64 p.session, .int .i64 p.address, .int .i64 p.a, .int .i64 p.b, .int .i64 p.c, .int .i64 p.tick]
def flatP (l : List Ev) : Array Value := (l.flatMap Ev.cells).toArray
theorem flatP_at (l : List Ev) (j : Nat) (p : Ev) (h : l[j]? = some p) (i : Nat) (hi : i < 8) : (flatP l)[8 * j + i]? = p.cells[i]? := by
  unfold flatP
  rw [List.getElem?_toArray]
  induction l generalizing j with
  | nil => cases h
  | cons q l ih =>
    rw [List.flatMap_cons]
    cases j with
    | zero =>
      simp at h; subst h
      rw [List.getElem?_append_left (by simp [Ev.cells]; omega)]; congr 1; omega
    | succ j =>
      rw [List.getElem?_append_right (by simp [Ev.cells]; omega)]
      have := ih j (by simpa using h)
      rw [← this]; congr 1; simp [Ev.cells]; omega
def bads (d : Int) : List Ev := [⟨-d, 0, 0, 0, 0, 0, 0, 0⟩, ⟨9 + d, 0, 0, 0, 0, 0, 0, 0⟩, ⟨0, 0, 0, 0, 0, 0, 0, 1048575 + d⟩, ⟨0, 0, 0, 0, 0, 0, 0, -d⟩, ⟨0, d, 0, 0, 0, 0, 0, 0⟩, ⟨1, 7 + d, 0, 0, 0, 0, 0, 0⟩, ⟨1, 0, 0, 0, 0, 0, 1048576 + d, 0⟩, ⟨1, 0, 0, 0, 0, 0, 0, d⟩, ⟨2, 0, 0, 0, d, 0, 0, 0⟩, ⟨3, 0, 0, 0, 1073741823 + d, 0, 0, 0⟩, ⟨3, 0, 0, 0, 0, d, 0, 0⟩, ⟨4, 0, 0, 0, 0, 0, 0, d⟩, ⟨5, 0, 0, 15 + d, 0, 0, 0, 0⟩, ⟨5, 0, -d, 0, 0, 0, 0, 0⟩, ⟨6, 0, 0, 0, 0, 4 + d, 0, 0⟩, ⟨6, 0, 0, 0, 0, -d, 0, 0⟩, ⟨6, d, 0, 0, 0, 0, 0, 0⟩, ⟨7, 0, d, 0, 0, 0, 0, 0⟩, ⟨8, 0, 0, 0, 0, 0, d, 0⟩, ⟨9, 0, 0, 0, d, 0, 0, 0⟩]
def goods : List Ev := [⟨0, 0, 0, 0, 0, 0, 0, 1048575⟩, ⟨1, 7, 0, 0, 1073741823, 1073741823, 1048576, 0⟩, ⟨2, 1, 0, 0, 0, 0, 0, 2⟩, ⟨3, 1, 0, 0, 1073741823, 0, 0, 0⟩, ⟨4, 1, 0, 0, 0, 0, 0, 0⟩, ⟨5, 1, 1073741823, 15, 0, 0, 0, 1048575⟩, ⟨6, 0, 1073741823, 0, 1073741823, 4, 0, 1048575⟩, ⟨7, 1, 0, 0, 0, 0, 0, 0⟩, ⟨8, 0, 0, 0, 0, 0, 0, 0⟩, ⟨9, 0, 1073741823, 0, 0, 0, 0, 0⟩]
theorem goods_may (j : Nat) (p : Ev) (h : goods[j]? = some p) : p.may = true := by
  have hm : p ∈ goods := List.mem_of_getElem? h
  simp only [goods, List.mem_cons, List.not_mem_nil, or_false] at hm
  rcases hm with rfl | rfl | rfl | rfl | rfl | rfl | rfl | rfl | rfl | rfl
  · decide
  · decide
  · decide
  · decide
  · decide
  · decide
  · decide
  · decide
  · decide
  · decide
theorem bads_may (d : Int) (d0 : 1 ≤ d) (j : Nat) (p : Ev) (h : (bads d)[j]? = some p) : p.may = false := by
  have hm : p ∈ bads d := List.mem_of_getElem? h
  simp only [bads, List.mem_cons, List.not_mem_nil, or_false] at hm
  have hx : ∀ q : Ev, (q.rng = true → q.part = some q → q.lim = true → False) → q.may = false := fun q hq => by
    cases c : q.may
    · rfl
    · obtain ⟨a, b, e⟩ := (Ev.may_iff q).1 c; exact (hq a b e).elim
  rcases hm with rfl | rfl | rfl | rfl | rfl | rfl | rfl | rfl | rfl | rfl | rfl | rfl | rfl | rfl | rfl | rfl | rfl | rfl | rfl | rfl <;> refine hx _ fun hr hk hl => ?_ <;> first
    | (simp only [Ev.rng_iff, okNum_iff] at hr; omega)
    | (have := Ev.kinds hk; simp only at this; omega)
    | (simp [Ev.lim] at hl; omega)
    | (simp [Ev.part] at hk; omega)
    | (simp [Ev.part] at hk; done)

set_option maxRecDepth 100000 in
set_option maxHeartbeats 16000000 in
theorem pforms_walk' (n x : Int) (j m : Nat) (w : World) (hg : Gd w) (hj : (IntKind.u64.wrap n).tmod 20 = (j : Int)) (hjl : j < 20) (hm : bits .and .i64 x 1023 = (m : Int)) (m1 : m ≤ 1023) :
    Calls Tryd.prog 6 #[.int .i64 n, .int .i64 x] w fun e w' => e = .returned (.bool true) ∧ Gr w w' := by
  have hr := Gr.refl hg
  clear hg
  have hjw : IntKind.i64.wrap (j : Int) = (j : Int) := by rw [IntKind.wrap_i64]; omega
  obtain ⟨⟨k, x1, x2, x3, x4, x5, x6, x7⟩, hP⟩ : ∃ p, (bads (1 + (m : Int)))[j]? = some p := by
    have : j < (bads (1 + (m : Int))).length := hjl
    exact ⟨_, List.getElem?_eq_getElem this⟩
  have hno := bads_may _ (by omega) j _ hP
  have b0 : (flatP (bads (1 + (m : Int))))[j * 8]? = some (.int .i64 k) := by rw [Nat.mul_comm j 8]; exact flatP_at _ _ _ hP 0 (by omega)
  have b1 : (flatP (bads (1 + (m : Int))))[j * 8 + 1]? = some (.int .i64 x1) := by rw [Nat.mul_comm j 8]; exact flatP_at _ _ _ hP 1 (by omega)
  have b2 : (flatP (bads (1 + (m : Int))))[j * 8 + 2]? = some (.int .i64 x2) := by rw [Nat.mul_comm j 8]; exact flatP_at _ _ _ hP 2 (by omega)
  have b3 : (flatP (bads (1 + (m : Int))))[j * 8 + 3]? = some (.int .i64 x3) := by rw [Nat.mul_comm j 8]; exact flatP_at _ _ _ hP 3 (by omega)
  have b4 : (flatP (bads (1 + (m : Int))))[j * 8 + 4]? = some (.int .i64 x4) := by rw [Nat.mul_comm j 8]; exact flatP_at _ _ _ hP 4 (by omega)
  have b5 : (flatP (bads (1 + (m : Int))))[j * 8 + 5]? = some (.int .i64 x5) := by rw [Nat.mul_comm j 8]; exact flatP_at _ _ _ hP 5 (by omega)
  have b6 : (flatP (bads (1 + (m : Int))))[j * 8 + 6]? = some (.int .i64 x6) := by rw [Nat.mul_comm j 8]; exact flatP_at _ _ _ hP 6 (by omega)
  have b7 : (flatP (bads (1 + (m : Int))))[j * 8 + 7]? = some (.int .i64 x7) := by rw [Nat.mul_comm j 8]; exact flatP_at _ _ _ hP 7 (by omega)
  have P1 := Lib.hid (fun w => epput (Ev.mk k x1 x2 x3 x4 x5 x6 x7) w)
  rw [show (Ev.mk k x1 x2 x3 x4 x5 x6 x7).putS = ⟨#[]⟩ by unfold Ev.putS; rw [hno]; rfl, show (Ev.mk k x1 x2 x3 x4 x5 x6 x7).putE = 700 by unfold Ev.putE; rw [hno]; rfl] at P1
  have P2 := Lib.hid (fun w => epmay (Ev.mk k x1 x2 x3 x4 x5 x6 x7) w)
  rw [hno] at P2
  unfold Ev.val at P1 P2
  clear hP hno
  go_enter Tryd.func6, Tryd.ntmps6
  go_wp2_with (first
    | (go_at_call 14; (with_reducible refine (awake7 _ hr.good).mono ?_); rintro e wA ⟨rfl, hb⟩; replace hr := hr.step hb; clear hb)
    | (go_at_call 7; (with_reducible refine (P1.out _).mono ?_); rintro e wB ⟨rfl, hb⟩; replace hr := ((hr.alloc _).alloc _).step hb; have kp := (Blk.new' _ (wA.heap.size + 1) (by simp) _ _).step hb; clear hb)
    | (with_reducible refine Great.wpList_buildSliceTo rfl 40 23 20 _ rfl _ rfl _ rfl Tryd.underlying40 (flatP (bads (1 + (m : Int)))) (by kernel_rfl) ?_)
    | (with_reducible refine Great.wpList_buildSliceTo rfl 40 23 10 _ rfl _ rfl _ rfl Tryd.underlying40 (flatP goods) (by kernel_rfl) ?_))
  replace hr := hr.alloc (.cells (flatP goods) 23)
  replace kp := kp.alloc (.cells (flatP goods) 23)
  have kg := Blk.new wB (flatP goods) 23
  clear hjw hj hm
  go_loopw [11] (fun i wr => ∃ jj : Nat, jj ≤ 10 ∧ i = .int .i64 jj ∧ Gr w wr ∧ Blk wr (wA.heap.size + 1) #[.int .i64 k, .int .i64 x1, .int .i64 x2, .int .i64 x3, .int .i64 x4, .int .i64 x5, .int .i64 x6, .int .i64 x7] ∧ Blk wr wB.heap.size (flatP goods)) (fun i _ => 10 - (intOf i).toNat)
  case atStart => exact ⟨0, Nat.zero_le _, rfl, hr, kp, kg⟩
  case round =>
    clear hr kp kg
    obtain ⟨jj, hjj, rfl, hr, kp, kg⟩ := hrel
    by_cases hlt : jj < 10
    · obtain ⟨⟨k2, y1, y2, y3, y4, y5, y6, y7⟩, hQ⟩ : ∃ p, goods[jj]? = some p := by
        have : jj < goods.length := hlt
        exact ⟨_, List.getElem?_eq_getElem this⟩
      have hyes := goods_may jj _ hQ
      have g0 : (flatP goods)[jj * 8]? = some (.int .i64 k2) := by rw [Nat.mul_comm jj 8]; exact flatP_at _ _ _ hQ 0 (by omega)
      have g1 : (flatP goods)[jj * 8 + 1]? = some (.int .i64 y1) := by rw [Nat.mul_comm jj 8]; exact flatP_at _ _ _ hQ 1 (by omega)
      have g2 : (flatP goods)[jj * 8 + 2]? = some (.int .i64 y2) := by rw [Nat.mul_comm jj 8]; exact flatP_at _ _ _ hQ 2 (by omega)
      have g3 : (flatP goods)[jj * 8 + 3]? = some (.int .i64 y3) := by rw [Nat.mul_comm jj 8]; exact flatP_at _ _ _ hQ 3 (by omega)
      have g4 : (flatP goods)[jj * 8 + 4]? = some (.int .i64 y4) := by rw [Nat.mul_comm jj 8]; exact flatP_at _ _ _ hQ 4 (by omega)
      have g5 : (flatP goods)[jj * 8 + 5]? = some (.int .i64 y5) := by rw [Nat.mul_comm jj 8]; exact flatP_at _ _ _ hQ 5 (by omega)
      have g6 : (flatP goods)[jj * 8 + 6]? = some (.int .i64 y6) := by rw [Nat.mul_comm jj 8]; exact flatP_at _ _ _ hQ 6 (by omega)
      have g7 : (flatP goods)[jj * 8 + 7]? = some (.int .i64 y7) := by rw [Nat.mul_comm jj 8]; exact flatP_at _ _ _ hQ 7 (by omega)
      have hA1 := put_size hyes
      have Q1 := Lib.hid (fun w => epput (Ev.mk k2 y1 y2 y3 y4 y5 y6 y7) w)
      rw [show (Ev.mk k2 y1 y2 y3 y4 y5 y6 y7).putS = (Ev.mk k2 y1 y2 y3 y4 y5 y6 y7).put by unfold Ev.putS; rw [hyes]; rfl, show (Ev.mk k2 y1 y2 y3 y4 y5 y6 y7).putE = 0 by unfold Ev.putE; rw [hyes]; rfl] at Q1
      have Q2 := Lib.hid (fun w hg => epget (Ev.mk k2 y1 y2 y3 y4 y5 y6 y7).put w (by omega) hg)
      rw [(getP_some (Ev.codec.back _ hyes)).1, (getP_some (Ev.codec.back _ hyes)).2] at Q2
      have Q3 := Lib.hid (fun w => epmay (Ev.mk k2 y1 y2 y3 y4 y5 y6 y7) w)
      rw [hyes] at Q3
      generalize (Ev.mk k2 y1 y2 y3 y4 y5 y6 y7).put = A at *
      unfold Ev.val at Q1 Q2 Q3
      have e1 := kg.cell
      have l1 := kg.lt
      have hq1 : (jj : Int) < 10 := by omega
      clear hQ hyes
      go_wp2_with (first
        | (go_at_call 7; (with_reducible refine (Q1.out _).mono ?_); rintro e w1 ⟨rfl, hb⟩; replace hr := hr.step hb; replace kp := kp.step hb; replace kg := kg.step hb; have e1 := kg.cell; have l1 := kg.lt; clear hb)
        | (go_at_call 9; (with_reducible refine (Q2.out _ hr.good).mono ?_); rintro e w1 ⟨rfl, hb⟩; replace hr := hr.step hb; replace kp := kp.step hb; replace kg := kg.step hb; have e1 := kg.cell; have l1 := kg.lt; clear hb))
      replace hr := (hr.alloc (.cells #[.int .i64 k2, .int .i64 y1, .int .i64 y2, .int .i64 y3, .int .i64 y4, .int .i64 y5, .int .i64 y6, .int .i64 y7] 23)).drew
      replace kp := (kp.alloc (.cells #[.int .i64 k2, .int .i64 y1, .int .i64 y2, .int .i64 y3, .int .i64 y4, .int .i64 y5, .int .i64 y6, .int .i64 y7] 23)).drew
      replace kg := (kg.alloc (.cells #[.int .i64 k2, .int .i64 y1, .int .i64 y2, .int .i64 y3, .int .i64 y4, .int .i64 y5, .int .i64 y6, .int .i64 y7] 23)).drew
      have ky := (Blk.new w1 #[.int .i64 k2, .int .i64 y1, .int .i64 y2, .int .i64 y3, .int .i64 y4, .int .i64 y5, .int .i64 y6, .int .i64 y7] 23).drew
      first
        | (go_region_with (first
            | (go_at_call 11; (with_reducible refine (lnum _ _).mono ?_); rintro e w1 ⟨rfl, rfl⟩)
            | (go_at_call 12; (with_reducible refine (Q3.out _).mono ?_); rintro e w1 ⟨rfl, hb⟩; replace hr := hr.step hb; replace kp := kp.step hb; replace kg := kg.step hb; replace ky := ky.step hb; have e2 := kg.cell; have l2 := kg.lt; have e3 := ky.cell; have l3 := ky.lt; clear hb)))
        | fail
      all_goals
        go_wp2
        go_roundw
        case rel => exact ⟨jj + 1, by omega, by go_num, hr, kp, kg⟩
        case measure => simp [intOf]; omega
    · obtain rfl : jj = 10 := by omega
      rw [show ((10 : Nat) : Int) = 10 from rfl]
      have e1 := kp.cell
      go_wp2_with (first
        | (go_at_call 12; (with_reducible refine (P2.out _).mono ?_); rintro e w1 ⟨rfl, hb⟩; replace hr := hr.step hb; clear hb)
        | (go_at_call 11; (with_reducible refine (lnum _ _).mono ?_); rintro e w1 ⟨rfl, rfl⟩))
      go_ret
      exact ⟨rfl, hr⟩
theorem pforms_walk (n x : Int) (w : World) (hg : Gd w) :
    Calls Tryd.prog 6 #[.int .i64 n, .int .i64 x] w fun e w' => e = .returned (.bool true) ∧ Gr w w' := by
  have hu0 : 0 ≤ IntKind.u64.wrap n := by rw [IntKind.wrap_u64]; omega
  have hm := i64_mask x 10 (by omega)
  rw [show ((2 ^ 10 - 1 : Nat) : Int) = 1023 from by decide, show ((2 ^ 10 : Nat) : Int) = 1024 from by decide] at hm
  obtain ⟨j, hj, h9⟩ : ∃ j : Nat, (IntKind.u64.wrap n).tmod 20 = (j : Int) ∧ j < 20 := ⟨((IntKind.u64.wrap n) % 20).toNat, by rw [Int.tmod_eq_emod_of_nonneg hu0]; omega, by omega⟩
  obtain ⟨m, hmm⟩ : ∃ m : Nat, x % 1024 = (m : Int) := ⟨(x % 1024).toNat, by omega⟩
  rw [hmm] at hm
  exact pforms_walk' n x j m w hg hj h9 hm (by omega)
end Go.Proofs.YtodngcpphnmphaaDoor
