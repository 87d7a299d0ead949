/- The reference's PutAdmin answers its bytes. No condition. -/
import Derived.Test.YtpleefloaoljfaaDoorRamay
namespace Go.Proofs.YtpleefloaoljfaaDoor
open Go Go.RowKit

theorem raput_no (p : Ad) (w : World) (hm : p.may = false) : Calls Tryd.prog 8 #[p.val] w fun e w' => e = .returned (.tuple #[.string ⟨#[]⟩, .int .i64 600]) ∧ Below w.heap.size w w' := by
  have HM := fun w => ramay p w
  rw [hm] at HM
  obtain ⟨k, u, y, x, q, s⟩ := p
  have HM := Lib.hid (HM)
  unfold Ad.val at HM
  unfold Ad.val
  clear hm
  go_enter Tryd.func8, Tryd.ntmps8
  go_wp2_with (go_at_call 13; (with_reducible refine (HM.out _).mono ?_); rintro e w1 ⟨rfl, hb⟩; have hS := (Held.start w _).step hb)
  go_ret2
  exact ⟨rfl, hS.bel⟩

set_option maxHeartbeats 4000000 in
theorem raput_0 (u y x q : Int) (w : World) (r_u : okNum u = true) (r_y : okNum y = true) (r_x : okNum x = true) (r_q : okNum q = true) (hm : (Ad.mk 0 u y x q 0).may = true) :
    Calls Tryd.prog 8 #[(Ad.mk 0 u y x q 0).val] w fun e w' => e = .returned (.tuple #[.string (encL (.n 0 :: [.n u, .n y, .n x, .n q])), .int .i64 0]) ∧ Below w.heap.size w w' := by
  have hM := fun w => ramay (Ad.mk 0 u y x q 0) w
  rw [hm] at hM
  have H1 := Lib.hid (fun w => rn1 0 3 w (by decide) (by decide))
  have z1 : (numsB [0]).size ≤ 5 := numsB_size [0]
  have H2 := Lib.hid (fun w => rn4 u y x q 3 w (okn r_u).1 (okn r_u).2 (okn r_y).1 (okn r_y).2 (okn r_x).1 (okn r_x).2 (okn r_q).1 (okn r_q).2)
  have z2 : (numsB [u, y, x, q]).size ≤ 20 := numsB_size [u, y, x, q]
  have HF := Lib.hid (enc_nums 0 [u, y, x, q])
  have HM := Lib.hid hM
  unfold Ad.val at HM
  unfold Ad.val
  clear hm hM r_u r_y r_x r_q
  generalize numsB [0] = e1 at *
  generalize numsB [u, y, x, q] = e2 at *
  go_enter Tryd.func8, Tryd.ntmps8
  go_wp2_with (first
    | (go_at_call 13; (with_reducible refine (HM.out _).mono ?_); rintro e w1 ⟨rfl, hb⟩; have hS := (Held.start w _).step hb; have c0 := hS.cell (i := 0) rfl; have c1 := hS.cell (i := 1) rfl; have c2 := hS.cell (i := 2) rfl; have c3 := hS.cell (i := 3) rfl; have c4 := hS.cell (i := 4) rfl; clear hb)
    | (go_at_call 18; first | ((with_reducible refine (H1.out _).mono ?_); rintro e w1 ⟨rfl, hb⟩; replace hS := hS.step hb; have c0 := hS.cell (i := 0) rfl; have c1 := hS.cell (i := 1) rfl; have c2 := hS.cell (i := 2) rfl; have c3 := hS.cell (i := 3) rfl; have c4 := hS.cell (i := 4) rfl; clear hb) | ((with_reducible refine (H2.out _).mono ?_); rintro e w1 ⟨rfl, hb⟩; replace hS := hS.step hb; have c0 := hS.cell (i := 0) rfl; have c1 := hS.cell (i := 1) rfl; have c2 := hS.cell (i := 2) rfl; have c3 := hS.cell (i := 3) rfl; have c4 := hS.cell (i := 4) rfl; clear hb))
    | fail)
  go_ret2
  exact ⟨ret_s2 HF.out, hS.bel⟩

set_option maxHeartbeats 4000000 in
theorem raput_1 (u : Int) (w : World) (r_u : okNum u = true) (hm : (Ad.mk 1 u 0 0 0 0).may = true) :
    Calls Tryd.prog 8 #[(Ad.mk 1 u 0 0 0 0).val] w fun e w' => e = .returned (.tuple #[.string (encL (.n 1 :: [.n u])), .int .i64 0]) ∧ Below w.heap.size w w' := by
  have hM := fun w => ramay (Ad.mk 1 u 0 0 0 0) w
  rw [hm] at hM
  have H1 := Lib.hid (fun w => rn1 1 3 w (by decide) (by decide))
  have z1 : (numsB [1]).size ≤ 5 := numsB_size [1]
  have H2 := Lib.hid (fun w => rn1 u 3 w (okn r_u).1 (okn r_u).2)
  have z2 : (numsB [u]).size ≤ 5 := numsB_size [u]
  have HF := Lib.hid (enc_nums 1 [u])
  have HM := Lib.hid hM
  unfold Ad.val at HM
  unfold Ad.val
  clear hm hM r_u
  generalize numsB [1] = e1 at *
  generalize numsB [u] = e2 at *
  go_enter Tryd.func8, Tryd.ntmps8
  go_wp2_with (first
    | (go_at_call 13; (with_reducible refine (HM.out _).mono ?_); rintro e w1 ⟨rfl, hb⟩; have hS := (Held.start w _).step hb; have c0 := hS.cell (i := 0) rfl; have c1 := hS.cell (i := 1) rfl; clear hb)
    | (go_at_call 18; first | ((with_reducible refine (H1.out _).mono ?_); rintro e w1 ⟨rfl, hb⟩; replace hS := hS.step hb; have c0 := hS.cell (i := 0) rfl; have c1 := hS.cell (i := 1) rfl; clear hb) | ((with_reducible refine (H2.out _).mono ?_); rintro e w1 ⟨rfl, hb⟩; replace hS := hS.step hb; have c0 := hS.cell (i := 0) rfl; have c1 := hS.cell (i := 1) rfl; clear hb))
    | fail)
  go_ret2
  exact ⟨ret_s2 HF.out, hS.bel⟩

set_option maxHeartbeats 4000000 in
theorem raput_2 (u : Int) (w : World) (r_u : okNum u = true) (hm : (Ad.mk 2 u 0 0 0 0).may = true) :
    Calls Tryd.prog 8 #[(Ad.mk 2 u 0 0 0 0).val] w fun e w' => e = .returned (.tuple #[.string (encL (.n 2 :: [.n u])), .int .i64 0]) ∧ Below w.heap.size w w' := by
  have hM := fun w => ramay (Ad.mk 2 u 0 0 0 0) w
  rw [hm] at hM
  have H1 := Lib.hid (fun w => rn1 2 3 w (by decide) (by decide))
  have z1 : (numsB [2]).size ≤ 5 := numsB_size [2]
  have H2 := Lib.hid (fun w => rn1 u 3 w (okn r_u).1 (okn r_u).2)
  have z2 : (numsB [u]).size ≤ 5 := numsB_size [u]
  have HF := Lib.hid (enc_nums 2 [u])
  have HM := Lib.hid hM
  unfold Ad.val at HM
  unfold Ad.val
  clear hm hM r_u
  generalize numsB [2] = e1 at *
  generalize numsB [u] = e2 at *
  go_enter Tryd.func8, Tryd.ntmps8
  go_wp2_with (first
    | (go_at_call 13; (with_reducible refine (HM.out _).mono ?_); rintro e w1 ⟨rfl, hb⟩; have hS := (Held.start w _).step hb; have c0 := hS.cell (i := 0) rfl; have c1 := hS.cell (i := 1) rfl; clear hb)
    | (go_at_call 18; first | ((with_reducible refine (H1.out _).mono ?_); rintro e w1 ⟨rfl, hb⟩; replace hS := hS.step hb; have c0 := hS.cell (i := 0) rfl; have c1 := hS.cell (i := 1) rfl; clear hb) | ((with_reducible refine (H2.out _).mono ?_); rintro e w1 ⟨rfl, hb⟩; replace hS := hS.step hb; have c0 := hS.cell (i := 0) rfl; have c1 := hS.cell (i := 1) rfl; clear hb))
    | fail)
  go_ret2
  exact ⟨ret_s2 HF.out, hS.bel⟩

set_option maxHeartbeats 4000000 in
theorem raput_3 (w : World)  (hm : (Ad.mk 3 0 0 0 0 0).may = true) :
    Calls Tryd.prog 8 #[(Ad.mk 3 0 0 0 0 0).val] w fun e w' => e = .returned (.tuple #[.string (encL (.n 3 :: [])), .int .i64 0]) ∧ Below w.heap.size w w' := by
  have hM := fun w => ramay (Ad.mk 3 0 0 0 0 0) w
  rw [hm] at hM
  have H1 := Lib.hid (fun w => rn1 3 3 w (by decide) (by decide))
  have z1 : (numsB [3]).size ≤ 5 := numsB_size [3]
  have HF := Lib.hid (enc_nums 3 [])
  rw [show numsB [3] ++ numsB [] = numsB [3] from ba_nil _] at HF
  have HM := Lib.hid hM
  unfold Ad.val at HM
  unfold Ad.val
  clear hm hM 
  generalize numsB [3] = e1 at *
  go_enter Tryd.func8, Tryd.ntmps8
  go_wp2_with (first
    | (go_at_call 13; (with_reducible refine (HM.out _).mono ?_); rintro e w1 ⟨rfl, hb⟩; have hS := (Held.start w _).step hb; have c0 := hS.cell (i := 0) rfl; clear hb)
    | (go_at_call 18; ((with_reducible refine (H1.out _).mono ?_); rintro e w1 ⟨rfl, hb⟩; replace hS := hS.step hb; have c0 := hS.cell (i := 0) rfl; clear hb))
    | fail)
  go_ret2
  exact ⟨ret_s2 HF.out, hS.bel⟩

set_option maxHeartbeats 4000000 in
theorem raput_4 (s : Int) (w : World) (r_s : okNum s = true) (hm : (Ad.mk 4 0 0 0 0 s).may = true) :
    Calls Tryd.prog 8 #[(Ad.mk 4 0 0 0 0 s).val] w fun e w' => e = .returned (.tuple #[.string (encL (.n 4 :: [.n s])), .int .i64 0]) ∧ Below w.heap.size w w' := by
  have hM := fun w => ramay (Ad.mk 4 0 0 0 0 s) w
  rw [hm] at hM
  have H1 := Lib.hid (fun w => rn1 4 3 w (by decide) (by decide))
  have z1 : (numsB [4]).size ≤ 5 := numsB_size [4]
  have H2 := Lib.hid (fun w => rn1 s 3 w (okn r_s).1 (okn r_s).2)
  have z2 : (numsB [s]).size ≤ 5 := numsB_size [s]
  have HF := Lib.hid (enc_nums 4 [s])
  have HM := Lib.hid hM
  unfold Ad.val at HM
  unfold Ad.val
  clear hm hM r_s
  generalize numsB [4] = e1 at *
  generalize numsB [s] = e2 at *
  go_enter Tryd.func8, Tryd.ntmps8
  go_wp2_with (first
    | (go_at_call 13; (with_reducible refine (HM.out _).mono ?_); rintro e w1 ⟨rfl, hb⟩; have hS := (Held.start w _).step hb; have c0 := hS.cell (i := 0) rfl; have c5 := hS.cell (i := 5) rfl; clear hb)
    | (go_at_call 18; first | ((with_reducible refine (H1.out _).mono ?_); rintro e w1 ⟨rfl, hb⟩; replace hS := hS.step hb; have c0 := hS.cell (i := 0) rfl; have c5 := hS.cell (i := 5) rfl; clear hb) | ((with_reducible refine (H2.out _).mono ?_); rintro e w1 ⟨rfl, hb⟩; replace hS := hS.step hb; have c0 := hS.cell (i := 0) rfl; have c5 := hS.cell (i := 5) rfl; clear hb))
    | fail)
  go_ret2
  exact ⟨ret_s2 HF.out, hS.bel⟩

theorem Ad.norm {p : Ad} (h : p.part = some p) : (p.kind = 0 → p = (Ad.mk 0 p.user p.key p.secret p.quota 0)) ∧ (p.kind = 1 → p = (Ad.mk 1 p.user 0 0 0 0)) ∧ (p.kind = 2 → p = (Ad.mk 2 p.user 0 0 0 0)) ∧ (p.kind = 3 → p = (Ad.mk 3 0 0 0 0 0)) ∧ (p.kind = 4 → p = (Ad.mk 4 0 0 0 0 p.session)) := by
  refine ⟨?_, ?_, ?_, ?_, ?_⟩ <;> intro e <;> unfold Ad.part at h <;> rw [e] at h <;> exact (Option.some.inj h).symm
theorem raput (p : Ad) (w : World) : Calls Tryd.prog 8 #[p.val] w fun e w' => e = .returned (.tuple #[.string p.putS, .int .i64 p.putE]) ∧ Below w.heap.size w w' := by
  cases hm : p.may with
  | false => rw [show p.putS = ⟨#[]⟩ by unfold Ad.putS; rw [hm]; rfl, show p.putE = 600 by unfold Ad.putE; rw [hm]; rfl]; exact raput_no p w hm
  | true =>
    rw [show p.putS = encL p.fl by unfold Ad.putS; rw [hm]; rfl, show p.putE = 0 by unfold Ad.putE; rw [hm]; rfl]
    obtain ⟨hr, hk, -⟩ := (Ad.may_iff p).1 hm
    obtain ⟨l_user, u_user, l_quota, u_quota, n_key, n_secret, n_session⟩ := (Ad.rng_iff p).1 hr
    have n_user : okNum p.user = true := (okNum_iff _).2 ⟨l_user, by omega⟩
    have n_quota : okNum p.quota = true := (okNum_iff _).2 ⟨l_quota, by omega⟩
    obtain ⟨n0, n1, n2, n3, n4⟩ := Ad.norm hk
    obtain ⟨k, u, y, x, q, s⟩ := p
    rcases Ad.kinds hk with e | e | e | e | e
    · have := n0 e
      rw [this] at hm ⊢
      exact raput_0 u y x q w n_user n_key n_secret n_quota hm
    · have := n1 e
      rw [this] at hm ⊢
      exact raput_1 u w n_user hm
    · have := n2 e
      rw [this] at hm ⊢
      exact raput_2 u w n_user hm
    · have := n3 e
      rw [this] at hm ⊢
      exact raput_3 w hm
    · have := n4 e
      rw [this] at hm ⊢
      exact raput_4 s w n_session hm
end Go.Proofs.YtpleefloaoljfaaDoor
