/- The walk of ReplyForms: each part that may not be, or that its kind does not name. Condition: errors.errorType holds the handle of the type error. -/
import Derived.Test.YthbnkejjipiaaaaDoorYback
import Derived.Test.YthbnkejjipiaaaaDoorFplain3
import Derived.IntWalk
import Derived.Deep.RegionWith
import Derived.Great.Walk
namespace Go.Proofs.YthbnkejjipiaaaaDoor
open Go Go.RowKit

theorem madeStr' (n : Nat) : (madeCells #[.int .u8 0] n).toList = (List.replicate n 0).map (Value.int .u8) := by
  rw [toList_madeCells_one, List.map_replicate]
def Ry.cells (p : Ry) : List Value := [.int .i64 p.kind, .int .i64 p.half, .int .i64 p.nonce, .int .i64 p.session, .int .i64 p.address, .int .i64 p.ticket, .int .i64 p.seq, .int .i64 p.code, .string p.data]
def flatP (l : List Ry) : Array Value := (l.flatMap Ry.cells).toArray
theorem flatP_at (l : List Ry) (j : Nat) (p : Ry) (h : l[j]? = some p) (i : Nat) (hi : i < 9) : (flatP l)[9 * j + i]? = p.cells[i]? := by
  unfold flatP
  rw [List.getElem?_toArray]
  induction l generalizing j with
  | nil => cases h
  | cons q l ih =>
    rw [List.flatMap_cons]
    cases j with
    | zero =>
      simp at h; subst h
      rw [List.getElem?_append_left (by simp [Ry.cells]; omega)]; congr 1; omega
    | succ j =>
      rw [List.getElem?_append_right (by simp [Ry.cells]; omega)]
      have := ih j (by simpa using h)
      rw [← this]; congr 1; simp [Ry.cells]; omega
def bads (d : Int) (z : ByteArray) : List Ry := [⟨-d, 0, 0, 0, 0, 0, 0, 0, ⟨#[]⟩⟩, ⟨5 + d, 0, 0, 0, 0, 0, 0, 0, ⟨#[]⟩⟩, ⟨0, -d, 0, 0, 0, 0, 0, 0, ⟨#[]⟩⟩, ⟨0, 0, 0, d, 0, 0, 0, 0, ⟨#[]⟩⟩, ⟨1, 0, 0, 0, 15 + d, 0, 0, 0, ⟨#[]⟩⟩, ⟨1, 0, 0, 0, -d, 0, 0, 0, ⟨#[]⟩⟩, ⟨1, 0, d, 0, 0, 0, 0, 0, ⟨#[]⟩⟩, ⟨1, 0, 0, 0, 0, 1073741823 + d, 0, 0, ⟨#[]⟩⟩, ⟨2, 0, 0, 0, 0, d, 0, 0, ⟨#[]⟩⟩, ⟨2, 0, 0, 0, 0, 0, 1048575 + d, 0, ⟨#[]⟩⟩, ⟨2, 0, 0, 0, 0, 0, 0, 0, z⟩, ⟨3, 0, 0, 0, 0, 0, 0, 11 + d, ⟨#[]⟩⟩, ⟨3, 0, 0, 0, 0, 0, 0, -d, ⟨#[]⟩⟩, ⟨3, 0, 0, d, 0, 0, 0, 0, ⟨#[]⟩⟩, ⟨4, 0, 0, 0, 0, 0, 0, 4 + d, ⟨#[]⟩⟩, ⟨4, 0, 0, 0, 0, 0, 0, 0, ⟨#[120]⟩⟩, ⟨5, d, 0, 0, 0, 0, 0, 0, ⟨#[]⟩⟩]
def zer (n : Nat) : ByteArray := ⟨(bytesOf (List.replicate n 0)).toArray⟩

theorem zer_size (n : Nat) : (zer n).size = n := by unfold zer; rw [Lib.size_eq]; simp only [bytesOf, List.length_map, List.length_replicate]
def goods (z : ByteArray) : List Ry := [⟨0, 1, 2, 0, 0, 0, 0, 0, ⟨#[]⟩⟩, ⟨1, 0, 0, 1, 15, 2, 0, 0, ⟨#[]⟩⟩, ⟨2, 0, 0, 1, 0, 0, 1048575, 0, z⟩, ⟨3, 0, 0, 0, 0, 0, 0, 11, ⟨#[]⟩⟩, ⟨4, 0, 0, 1, 0, 0, 0, 4, ⟨#[]⟩⟩, ⟨5, 0, 0, 0, 0, 0, 0, 0, ⟨#[]⟩⟩]
theorem goods_may (z : ByteArray) (hz : z.size ≤ 64) (j : Nat) (p : Ry) (h : (goods z)[j]? = some p) : p.may = true := by
  have hm : p ∈ goods z := List.mem_of_getElem? h
  simp only [goods, List.mem_cons, List.not_mem_nil, or_false] at hm
  rcases hm with rfl | rfl | rfl | rfl | rfl | rfl
  · decide
  · decide
  · refine (Ry.may_iff _).2 ⟨(Ry.rng_iff _).2 ⟨hz, (of_decide_eq_true rfl), (of_decide_eq_true rfl), (of_decide_eq_true rfl), (of_decide_eq_true rfl), rfl, rfl, rfl, rfl, rfl⟩, rfl, rfl⟩
  · decide
  · decide
  · decide
theorem bads_may (d : Int) (z : ByteArray) (d0 : 1 ≤ d) (hz : 64 < z.size) (j : Nat) (p : Ry) (h : (bads d z)[j]? = some p) : p.may = false := by
  have hm : p ∈ bads d z := List.mem_of_getElem? h
  simp only [bads, List.mem_cons, List.not_mem_nil, or_false] at hm
  have hx : ∀ q : Ry, (q.rng = true → q.part = some q → q.lim = true → False) → q.may = false := fun q hq => by
    cases c : q.may
    · rfl
    · obtain ⟨a, b, e⟩ := (Ry.may_iff q).1 c; exact (hq a b e).elim
  rcases hm with rfl | rfl | rfl | rfl | rfl | rfl | rfl | rfl | rfl | rfl | rfl | rfl | rfl | rfl | rfl | rfl | rfl <;> refine hx _ fun hr hk hl => ?_ <;> first
    | (simp only [Ry.rng_iff, okNum_iff] at hr; omega)
    | (have := Ry.kinds hk; simp only at this; omega)
    | (simp [Ry.lim] at hl; omega)
    | (simp [Ry.part] at hk; omega)
    | (simp [Ry.part] at hk; done)

set_option maxRecDepth 100000 in
set_option maxHeartbeats 16000000 in
theorem pforms_walk' (n x : Int) (j m : Nat) (w : World) (hg : Gd w) (hj : (IntKind.u64.wrap n).tmod 17 = (j : Int)) (hjl : j < 17) (hm : bits .and .i64 x 1023 = (m : Int)) (m1 : m ≤ 1023) :
    Calls Tryd.prog 10 #[.int .i64 n, .int .i64 x] w fun e w' => e = .returned (.bool true) ∧ Gr w w' := by
  have hr := Gr.refl hg
  clear hg
  have hjw : IntKind.i64.wrap (j : Int) = (j : Int) := by rw [IntKind.wrap_i64]; omega
  obtain ⟨iB, hi, hz0, hz1, hz2⟩ := info_parts info5
  obtain ⟨⟨k, u, nn, hh, tg, c, s, q, d⟩, hP⟩ : ∃ p, (bads (1 + (m : Int)) (zer (65 + m)))[j]? = some p := by
    have : j < (bads (1 + (m : Int)) (zer (65 + m))).length := hjl
    exact ⟨_, List.getElem?_eq_getElem this⟩
  have hno := bads_may _ _ (by omega) (by rw [zer_size]; omega) j _ hP
  have b0 : (flatP (bads (1 + (m : Int)) (zer (65 + m))))[j * 9]? = some (.int .i64 k) := by rw [Nat.mul_comm j 9]; exact flatP_at _ _ _ hP 0 (by omega)
  have b1 : (flatP (bads (1 + (m : Int)) (zer (65 + m))))[j * 9 + 1]? = some (.int .i64 u) := by rw [Nat.mul_comm j 9]; exact flatP_at _ _ _ hP 1 (by omega)
  have b2 : (flatP (bads (1 + (m : Int)) (zer (65 + m))))[j * 9 + 2]? = some (.int .i64 nn) := by rw [Nat.mul_comm j 9]; exact flatP_at _ _ _ hP 2 (by omega)
  have b3 : (flatP (bads (1 + (m : Int)) (zer (65 + m))))[j * 9 + 3]? = some (.int .i64 hh) := by rw [Nat.mul_comm j 9]; exact flatP_at _ _ _ hP 3 (by omega)
  have b4 : (flatP (bads (1 + (m : Int)) (zer (65 + m))))[j * 9 + 4]? = some (.int .i64 tg) := by rw [Nat.mul_comm j 9]; exact flatP_at _ _ _ hP 4 (by omega)
  have b5 : (flatP (bads (1 + (m : Int)) (zer (65 + m))))[j * 9 + 5]? = some (.int .i64 c) := by rw [Nat.mul_comm j 9]; exact flatP_at _ _ _ hP 5 (by omega)
  have b6 : (flatP (bads (1 + (m : Int)) (zer (65 + m))))[j * 9 + 6]? = some (.int .i64 s) := by rw [Nat.mul_comm j 9]; exact flatP_at _ _ _ hP 6 (by omega)
  have b7 : (flatP (bads (1 + (m : Int)) (zer (65 + m))))[j * 9 + 7]? = some (.int .i64 q) := by rw [Nat.mul_comm j 9]; exact flatP_at _ _ _ hP 7 (by omega)
  have b8 : (flatP (bads (1 + (m : Int)) (zer (65 + m))))[j * 9 + 8]? = some (.string d) := by rw [Nat.mul_comm j 9]; exact flatP_at _ _ _ hP 8 (by omega)
  have P1 := Lib.hid (fun w => ypput (Ry.mk k u nn hh tg c s q d) w)
  rw [show (Ry.mk k u nn hh tg c s q d).putS = ⟨#[]⟩ by unfold Ry.putS; rw [hno]; rfl, show (Ry.mk k u nn hh tg c s q d).putE = 500 by unfold Ry.putE; rw [hno]; rfl] at P1
  have P2 := Lib.hid (fun w => ypmay (Ry.mk k u nn hh tg c s q d) w)
  rw [hno] at P2
  unfold Ry.val at P1 P2
  clear hP hno
  go_enter Tryd.func10, Tryd.ntmps10
  go_wp2_with (first
    | (go_at_call 25; (with_reducible refine (awake5 _ hr.good).mono ?_); rintro e w1 ⟨rfl, hb⟩; replace hr := hr.step hb; clear hb)
    | (go_at_call 19; (with_reducible refine (P1.out _).mono ?_); rintro e w1 ⟨rfl, hb⟩; replace hr := ((hr.alloc _).alloc _).step hb; have kp := (Blk.new' _ (wA.heap.size + 1) (by simp) _ _).step hb; clear hb)
    | (at_make; first
      | (refine wpList_make_full _ rfl _ _ 40 rfl 0 5 iB (.int .u8 0) 1 Tryd.underlying40 hi hz0 hz1 _ _ _ _ 64 rfl rfl (by omega) (by omega) (by rw [hz2]; omega) (by unfold maxLen; omega) (Nat.zero_le _) ?_; intro wB hown2 hgrow2; have hb := ((Below.refl _ _).grown hgrow2 (Nat.le_refl _) (fun k h => by cases h)); replace hr := hr.step hb; replace kp := kp.step hb; have hcv := conv_own (l := List.replicate 64 0) (by rw [← madeStr', ← Nat.mul_one 64]; exact hown2); rw [show (⟨(bytesOf (List.replicate 64 0)).toArray⟩ : ByteArray) = zer 64 from rfl] at hcv; clear hown2 hgrow2 hb)
      | (refine wpList_make_full _ rfl _ _ 40 rfl 0 5 iB (.int .u8 0) 1 Tryd.underlying40 hi hz0 hz1 _ _ _ _ (65 + m) rfl rfl (by omega) (by omega) (by rw [hz2]; omega) (by unfold maxLen; omega) (Nat.zero_le _) ?_; intro wA hown2 hgrow2; replace hr := hr.step ((Below.refl _ _).grown hgrow2 (Nat.le_refl _) (fun k h => by cases h)); have hcv := conv_own (l := List.replicate (65 + m) 0) (by rw [← madeStr', ← Nat.mul_one (65 + m)]; exact hown2); rw [show (⟨(bytesOf (List.replicate (65 + m) 0)).toArray⟩ : ByteArray) = zer (65 + m) from rfl] at hcv; clear hown2 hgrow2))
    | (with_reducible refine Great.wpList_buildSliceTo rfl 55 44 17 _ rfl _ rfl _ rfl Tryd.underlying55 (flatP (bads (1 + (m : Int)) (zer (65 + m)))) (by kernel_rfl) ?_)
    | (with_reducible refine Great.wpList_buildSliceTo rfl 55 44 6 _ rfl _ rfl _ rfl Tryd.underlying55 (flatP (goods (zer 64))) (by kernel_rfl) ?_))
  replace hr := hr.alloc (.cells (flatP (goods (zer 64))) 44)
  replace kp := kp.alloc (.cells (flatP (goods (zer 64))) 44)
  have kg := Blk.new wB (flatP (goods (zer 64))) 44
  clear hi hz0 hz1 hz2 hjw hj hm
  go_loopw [11] (fun i wr => ∃ jj : Nat, jj ≤ 6 ∧ i = .int .i64 jj ∧ Gr w wr ∧ Blk wr (wA.heap.size + 1) #[.int .i64 k, .int .i64 u, .int .i64 nn, .int .i64 hh, .int .i64 tg, .int .i64 c, .int .i64 s, .int .i64 q, .string d] ∧ Blk wr wB.heap.size (flatP (goods (zer 64)))) (fun i _ => 6 - (intOf i).toNat)
  case atStart => exact ⟨0, Nat.zero_le _, rfl, hr, kp, kg⟩
  case round =>
    clear hr kp kg
    obtain ⟨jj, hjj, rfl, hr, kp, kg⟩ := hrel
    by_cases hlt : jj < 6
    · obtain ⟨⟨k2, u2, n2, h2, t2, c2, s2, q2, d2⟩, hQ⟩ : ∃ p, (goods (zer 64))[jj]? = some p := by
        have : jj < (goods (zer 64)).length := hlt
        exact ⟨_, List.getElem?_eq_getElem this⟩
      have hyes := goods_may _ (by rw [zer_size]; omega) jj _ hQ
      have g0 : (flatP (goods (zer 64)))[jj * 9]? = some (.int .i64 k2) := by rw [Nat.mul_comm jj 9]; exact flatP_at _ _ _ hQ 0 (by omega)
      have g1 : (flatP (goods (zer 64)))[jj * 9 + 1]? = some (.int .i64 u2) := by rw [Nat.mul_comm jj 9]; exact flatP_at _ _ _ hQ 1 (by omega)
      have g2 : (flatP (goods (zer 64)))[jj * 9 + 2]? = some (.int .i64 n2) := by rw [Nat.mul_comm jj 9]; exact flatP_at _ _ _ hQ 2 (by omega)
      have g3 : (flatP (goods (zer 64)))[jj * 9 + 3]? = some (.int .i64 h2) := by rw [Nat.mul_comm jj 9]; exact flatP_at _ _ _ hQ 3 (by omega)
      have g4 : (flatP (goods (zer 64)))[jj * 9 + 4]? = some (.int .i64 t2) := by rw [Nat.mul_comm jj 9]; exact flatP_at _ _ _ hQ 4 (by omega)
      have g5 : (flatP (goods (zer 64)))[jj * 9 + 5]? = some (.int .i64 c2) := by rw [Nat.mul_comm jj 9]; exact flatP_at _ _ _ hQ 5 (by omega)
      have g6 : (flatP (goods (zer 64)))[jj * 9 + 6]? = some (.int .i64 s2) := by rw [Nat.mul_comm jj 9]; exact flatP_at _ _ _ hQ 6 (by omega)
      have g7 : (flatP (goods (zer 64)))[jj * 9 + 7]? = some (.int .i64 q2) := by rw [Nat.mul_comm jj 9]; exact flatP_at _ _ _ hQ 7 (by omega)
      have g8 : (flatP (goods (zer 64)))[jj * 9 + 8]? = some (.string d2) := by rw [Nat.mul_comm jj 9]; exact flatP_at _ _ _ hQ 8 (by omega)
      have hA1 := put_size hyes
      have Q1 := Lib.hid (fun w => ypput (Ry.mk k2 u2 n2 h2 t2 c2 s2 q2 d2) w)
      rw [show (Ry.mk k2 u2 n2 h2 t2 c2 s2 q2 d2).putS = (Ry.mk k2 u2 n2 h2 t2 c2 s2 q2 d2).put by unfold Ry.putS; rw [hyes]; rfl, show (Ry.mk k2 u2 n2 h2 t2 c2 s2 q2 d2).putE = 0 by unfold Ry.putE; rw [hyes]; rfl] at Q1
      have Q2 := Lib.hid (fun w hg => ypget (Ry.mk k2 u2 n2 h2 t2 c2 s2 q2 d2).put w (by omega) hg)
      rw [(getP_some (Ry.codec.back _ hyes)).1, (getP_some (Ry.codec.back _ hyes)).2] at Q2
      have Q3 := Lib.hid (fun w => ypmay (Ry.mk k2 u2 n2 h2 t2 c2 s2 q2 d2) w)
      rw [hyes] at Q3
      generalize (Ry.mk k2 u2 n2 h2 t2 c2 s2 q2 d2).put = A at *
      unfold Ry.val at Q1 Q2 Q3
      have e1 := kg.cell
      have l1 := kg.lt
      have hq1 : (jj : Int) < 6 := by omega
      clear hQ hyes
      go_wp2_with (first
        | (go_at_call 19; (with_reducible refine (Q1.out _).mono ?_); rintro e w1 ⟨rfl, hb⟩; replace hr := hr.step hb; replace kp := kp.step hb; replace kg := kg.step hb; have e1 := kg.cell; have l1 := kg.lt; clear hb)
        | (go_at_call 21; (with_reducible refine (Q2.out _ hr.good).mono ?_); rintro e w1 ⟨rfl, hb⟩; replace hr := hr.step hb; replace kp := kp.step hb; replace kg := kg.step hb; have e1 := kg.cell; have l1 := kg.lt; clear hb))
      replace hr := (hr.alloc (.cells #[.int .i64 k2, .int .i64 u2, .int .i64 n2, .int .i64 h2, .int .i64 t2, .int .i64 c2, .int .i64 s2, .int .i64 q2, .string d2] 44)).drew
      replace kp := (kp.alloc (.cells #[.int .i64 k2, .int .i64 u2, .int .i64 n2, .int .i64 h2, .int .i64 t2, .int .i64 c2, .int .i64 s2, .int .i64 q2, .string d2] 44)).drew
      replace kg := (kg.alloc (.cells #[.int .i64 k2, .int .i64 u2, .int .i64 n2, .int .i64 h2, .int .i64 t2, .int .i64 c2, .int .i64 s2, .int .i64 q2, .string d2] 44)).drew
      have ky := (Blk.new w1 #[.int .i64 k2, .int .i64 u2, .int .i64 n2, .int .i64 h2, .int .i64 t2, .int .i64 c2, .int .i64 s2, .int .i64 q2, .string d2] 44).drew
      first
        | (go_region_with (first
            | (go_at_call 15; (with_reducible refine (lnum _ _).mono ?_); rintro e w1 ⟨rfl, rfl⟩)
            | (go_at_call 23; (with_reducible refine (Q3.out _).mono ?_); rintro e w1 ⟨rfl, hb⟩; replace hr := hr.step hb; replace kp := kp.step hb; replace kg := kg.step hb; replace ky := ky.step hb; have e2 := kg.cell; have l2 := kg.lt; have e3 := ky.cell; have l3 := ky.lt; clear hb)))
        | fail
      all_goals
        go_wp2
        go_roundw
        case rel => exact ⟨jj + 1, by omega, by go_num, hr, kp, kg⟩
        case measure => simp [intOf]; omega
    · obtain rfl : jj = 6 := by omega
      rw [show ((6 : Nat) : Int) = 6 from rfl]
      have e1 := kp.cell
      go_wp2_with (first
        | (go_at_call 23; (with_reducible refine (P2.out _).mono ?_); rintro e w1 ⟨rfl, hb⟩; replace hr := hr.step hb; clear hb)
        | (go_at_call 15; (with_reducible refine (lnum _ _).mono ?_); rintro e w1 ⟨rfl, rfl⟩))
      go_ret
      exact ⟨rfl, hr⟩
theorem pforms_walk (n x : Int) (w : World) (hg : Gd w) :
    Calls Tryd.prog 10 #[.int .i64 n, .int .i64 x] w fun e w' => e = .returned (.bool true) ∧ Gr w w' := by
  have hu0 : 0 ≤ IntKind.u64.wrap n := by rw [IntKind.wrap_u64]; omega
  have hm := i64_mask x 10 (by omega)
  rw [show ((2 ^ 10 - 1 : Nat) : Int) = 1023 from by decide, show ((2 ^ 10 : Nat) : Int) = 1024 from by decide] at hm
  obtain ⟨j, hj, h9⟩ : ∃ j : Nat, (IntKind.u64.wrap n).tmod 17 = (j : Int) ∧ j < 17 := ⟨((IntKind.u64.wrap n) % 17).toNat, by rw [Int.tmod_eq_emod_of_nonneg hu0]; omega, by omega⟩
  obtain ⟨m, hmm⟩ : ∃ m : Nat, x % 1024 = (m : Int) := ⟨(x % 1024).toNat, by omega⟩
  rw [hmm] at hm
  exact pforms_walk' n x j m w hg hj h9 hm (by omega)
end Go.Proofs.YthbnkejjipiaaaaDoor
