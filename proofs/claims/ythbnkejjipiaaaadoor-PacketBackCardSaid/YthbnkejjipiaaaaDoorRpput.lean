/- The reference's PutPacket answers its bytes. No condition. -/
import Derived.Test.YthbnkejjipiaaaaDoorRpmay
import Derived.Test.YthbnkejjipiaaaaDoorReadt
namespace Go.Proofs.YthbnkejjipiaaaaDoor
open Go Go.RowKit

theorem rpput_no (p : Pk) (w : World) (hm : p.may = false) : Calls Tryd.prog 12 #[p.val] w fun e w' => e = .returned (.tuple #[.string ⟨#[]⟩, .int .i64 400]) ∧ Below w.heap.size w w' := by
  have HM := fun w => rpmay p w
  rw [hm] at HM
  obtain ⟨k, u, n, h, t, c, s, q, d⟩ := p
  have HM := Lib.hid (HM)
  unfold Pk.val at HM
  unfold Pk.val
  clear hm
  go_enter Tryd.func12, Tryd.ntmps12
  go_wp2_with (go_at_call 17; (with_reducible refine (HM.out _).mono ?_); rintro e w1 ⟨rfl, hb⟩; have hS := (Held.start w _).step hb)
  go_ret2
  exact ⟨rfl, hS.bel⟩

set_option maxHeartbeats 4000000 in
theorem rpput_0 (u n : Int) (w : World) (r_u : okNum u = true) (r_n : okNum n = true) (hm : (Pk.mk 0 u n 0 0 0 0 0 ⟨#[]⟩).may = true) :
    Calls Tryd.prog 12 #[(Pk.mk 0 u n 0 0 0 0 0 ⟨#[]⟩).val] w fun e w' => e = .returned (.tuple #[.string (encL (.n 0 :: [.n u, .n n])), .int .i64 0]) ∧ Below w.heap.size w w' := by
  have hM := fun w => rpmay (Pk.mk 0 u n 0 0 0 0 0 ⟨#[]⟩) w
  rw [hm] at hM
  have H1 := Lib.hid (fun w => rn1 0 3 w (by decide) (by decide))
  have z1 : (numsB [0]).size ≤ 5 := numsB_size [0]
  have H2 := Lib.hid (fun w => rn2 u n 3 w (okn r_u).1 (okn r_u).2 (okn r_n).1 (okn r_n).2)
  have z2 : (numsB [u, n]).size ≤ 10 := numsB_size [u, n]
  have HF := Lib.hid (enc_nums 0 [u, n])
  have HM := Lib.hid hM
  unfold Pk.val at HM
  unfold Pk.val
  clear hm hM r_u r_n
  generalize numsB [0] = e1 at *
  generalize numsB [u, n] = e2 at *
  go_enter Tryd.func12, Tryd.ntmps12
  go_wp2_with (first
    | (go_at_call 17; (with_reducible refine (HM.out _).mono ?_); rintro e w1 ⟨rfl, hb⟩; have hS := (Held.start w _).step hb; have c0 := hS.cell (i := 0) rfl; have c1 := hS.cell (i := 1) rfl; have c2 := hS.cell (i := 2) rfl; clear hb)
    | (go_at_call 31; first | ((with_reducible refine (H1.out _).mono ?_); rintro e w1 ⟨rfl, hb⟩; replace hS := hS.step hb; have c0 := hS.cell (i := 0) rfl; have c1 := hS.cell (i := 1) rfl; have c2 := hS.cell (i := 2) rfl; clear hb) | ((with_reducible refine (H2.out _).mono ?_); rintro e w1 ⟨rfl, hb⟩; replace hS := hS.step hb; have c0 := hS.cell (i := 0) rfl; have c1 := hS.cell (i := 1) rfl; have c2 := hS.cell (i := 2) rfl; clear hb))
    | fail)
  go_ret2
  exact ⟨ret_s2 HF.out, hS.bel⟩

set_option maxHeartbeats 4000000 in
theorem rpput_1 (h t c : Int) (w : World) (r_h : okNum h = true) (r_t : okNum t = true) (r_c : okNum c = true) (hm : (Pk.mk 1 0 0 h t c 0 0 ⟨#[]⟩).may = true) :
    Calls Tryd.prog 12 #[(Pk.mk 1 0 0 h t c 0 0 ⟨#[]⟩).val] w fun e w' => e = .returned (.tuple #[.string (encL (.n 1 :: [.n h, .n t, .n c])), .int .i64 0]) ∧ Below w.heap.size w w' := by
  have hM := fun w => rpmay (Pk.mk 1 0 0 h t c 0 0 ⟨#[]⟩) w
  rw [hm] at hM
  have H1 := Lib.hid (fun w => rn1 1 3 w (by decide) (by decide))
  have z1 : (numsB [1]).size ≤ 5 := numsB_size [1]
  have H2 := Lib.hid (fun w => rn3 h t c 3 w (okn r_h).1 (okn r_h).2 (okn r_t).1 (okn r_t).2 (okn r_c).1 (okn r_c).2)
  have z2 : (numsB [h, t, c]).size ≤ 15 := numsB_size [h, t, c]
  have HF := Lib.hid (enc_nums 1 [h, t, c])
  have HM := Lib.hid hM
  unfold Pk.val at HM
  unfold Pk.val
  clear hm hM r_h r_t r_c
  generalize numsB [1] = e1 at *
  generalize numsB [h, t, c] = e2 at *
  go_enter Tryd.func12, Tryd.ntmps12
  go_wp2_with (first
    | (go_at_call 17; (with_reducible refine (HM.out _).mono ?_); rintro e w1 ⟨rfl, hb⟩; have hS := (Held.start w _).step hb; have c0 := hS.cell (i := 0) rfl; have c3 := hS.cell (i := 3) rfl; have c4 := hS.cell (i := 4) rfl; have c5 := hS.cell (i := 5) rfl; clear hb)
    | (go_at_call 31; first | ((with_reducible refine (H1.out _).mono ?_); rintro e w1 ⟨rfl, hb⟩; replace hS := hS.step hb; have c0 := hS.cell (i := 0) rfl; have c3 := hS.cell (i := 3) rfl; have c4 := hS.cell (i := 4) rfl; have c5 := hS.cell (i := 5) rfl; clear hb) | ((with_reducible refine (H2.out _).mono ?_); rintro e w1 ⟨rfl, hb⟩; replace hS := hS.step hb; have c0 := hS.cell (i := 0) rfl; have c3 := hS.cell (i := 3) rfl; have c4 := hS.cell (i := 4) rfl; have c5 := hS.cell (i := 5) rfl; clear hb))
    | fail)
  go_ret2
  exact ⟨ret_s2 HF.out, hS.bel⟩

set_option maxHeartbeats 4000000 in
theorem rpput_2 (t n c : Int) (w : World) (r_t : okNum t = true) (r_n : okNum n = true) (r_c : okNum c = true) (hm : (Pk.mk 2 0 n 0 t c 0 0 ⟨#[]⟩).may = true) :
    Calls Tryd.prog 12 #[(Pk.mk 2 0 n 0 t c 0 0 ⟨#[]⟩).val] w fun e w' => e = .returned (.tuple #[.string (encL (.n 2 :: [.n t, .n n, .n c])), .int .i64 0]) ∧ Below w.heap.size w w' := by
  have hM := fun w => rpmay (Pk.mk 2 0 n 0 t c 0 0 ⟨#[]⟩) w
  rw [hm] at hM
  have H1 := Lib.hid (fun w => rn1 2 3 w (by decide) (by decide))
  have z1 : (numsB [2]).size ≤ 5 := numsB_size [2]
  have H2 := Lib.hid (fun w => rn3 t n c 3 w (okn r_t).1 (okn r_t).2 (okn r_n).1 (okn r_n).2 (okn r_c).1 (okn r_c).2)
  have z2 : (numsB [t, n, c]).size ≤ 15 := numsB_size [t, n, c]
  have HF := Lib.hid (enc_nums 2 [t, n, c])
  have HM := Lib.hid hM
  unfold Pk.val at HM
  unfold Pk.val
  clear hm hM r_t r_n r_c
  generalize numsB [2] = e1 at *
  generalize numsB [t, n, c] = e2 at *
  go_enter Tryd.func12, Tryd.ntmps12
  go_wp2_with (first
    | (go_at_call 17; (with_reducible refine (HM.out _).mono ?_); rintro e w1 ⟨rfl, hb⟩; have hS := (Held.start w _).step hb; have c0 := hS.cell (i := 0) rfl; have c2 := hS.cell (i := 2) rfl; have c4 := hS.cell (i := 4) rfl; have c5 := hS.cell (i := 5) rfl; clear hb)
    | (go_at_call 31; first | ((with_reducible refine (H1.out _).mono ?_); rintro e w1 ⟨rfl, hb⟩; replace hS := hS.step hb; have c0 := hS.cell (i := 0) rfl; have c2 := hS.cell (i := 2) rfl; have c4 := hS.cell (i := 4) rfl; have c5 := hS.cell (i := 5) rfl; clear hb) | ((with_reducible refine (H2.out _).mono ?_); rintro e w1 ⟨rfl, hb⟩; replace hS := hS.step hb; have c0 := hS.cell (i := 0) rfl; have c2 := hS.cell (i := 2) rfl; have c4 := hS.cell (i := 4) rfl; have c5 := hS.cell (i := 5) rfl; clear hb))
    | fail)
  go_ret2
  exact ⟨ret_s2 HF.out, hS.bel⟩

set_option maxHeartbeats 4000000 in
theorem rpput_3 (s q t : Int) (d : ByteArray) (w : World) (r_s : okNum s = true) (r_q : okNum q = true) (r_t : okNum t = true) (r_d : d.size ≤ 64) (hm : (Pk.mk 3 0 0 0 t 0 s q d).may = true) :
    Calls Tryd.prog 12 #[(Pk.mk 3 0 0 0 t 0 s q d).val] w fun e w' => e = .returned (.tuple #[.string (encL (.n 3 :: [.n s, .n q, .n t, .t d])), .int .i64 0]) ∧ Below w.heap.size w w' := by
  have hM := fun w => rpmay (Pk.mk 3 0 0 0 t 0 s q d) w
  rw [hm] at hM
  have H1 := Lib.hid (fun w => rn1 3 3 w (by decide) (by decide))
  have z1 : (numsB [3]).size ≤ 5 := numsB_size [3]
  have H2 := Lib.hid (fun w => rn3 s q t 3 w (okn r_s).1 (okn r_s).2 (okn r_q).1 (okn r_q).2 (okn r_t).1 (okn r_t).2)
  have z2 : (numsB [s, q, t]).size ≤ 15 := numsB_size [s, q, t]
  have z3 : (textS d).size ≤ 69 := by rw [textS_ok (by omega), ByteArray.size_append]; have := numS_size (d.size : Int); omega
  have hT := fun w => rtext d w (by omega)
  rw [show textE d = 0 by unfold textE; rw [if_pos (by omega)]] at hT
  have HT := Lib.hid hT
  clear hT
  have HF := Lib.hid (enc_numst 3 [s, q, t] d)
  have HM := Lib.hid hM
  unfold Pk.val at HM
  unfold Pk.val
  clear hm hM r_s r_q r_t r_d
  generalize numsB [3] = e1 at *
  generalize numsB [s, q, t] = e2 at *
  generalize textS d = e3 at *
  go_enter Tryd.func12, Tryd.ntmps12
  go_wp2_with (first
    | (go_at_call 17; (with_reducible refine (HM.out _).mono ?_); rintro e w1 ⟨rfl, hb⟩; have hS := (Held.start w _).step hb; have c0 := hS.cell (i := 0) rfl; have c4 := hS.cell (i := 4) rfl; have c6 := hS.cell (i := 6) rfl; have c7 := hS.cell (i := 7) rfl; have c8 := hS.cell (i := 8) rfl; clear hb)
    | (go_at_call 31; first | ((with_reducible refine (H1.out _).mono ?_); rintro e w1 ⟨rfl, hb⟩; replace hS := hS.step hb; have c0 := hS.cell (i := 0) rfl; have c4 := hS.cell (i := 4) rfl; have c6 := hS.cell (i := 6) rfl; have c7 := hS.cell (i := 7) rfl; have c8 := hS.cell (i := 8) rfl; clear hb) | ((with_reducible refine (H2.out _).mono ?_); rintro e w1 ⟨rfl, hb⟩; replace hS := hS.step hb; have c0 := hS.cell (i := 0) rfl; have c4 := hS.cell (i := 4) rfl; have c6 := hS.cell (i := 6) rfl; have c7 := hS.cell (i := 7) rfl; have c8 := hS.cell (i := 8) rfl; clear hb))
    | (go_at_call 32; (with_reducible refine (HT.out _).mono ?_); rintro e w1 ⟨rfl, hb⟩; replace hS := hS.step hb; have c0 := hS.cell (i := 0) rfl; have c4 := hS.cell (i := 4) rfl; have c6 := hS.cell (i := 6) rfl; have c7 := hS.cell (i := 7) rfl; have c8 := hS.cell (i := 8) rfl; clear hb)
    | fail)
  go_ret2
  exact ⟨ret_s2 HF.out, hS.bel⟩

set_option maxHeartbeats 4000000 in
theorem rpput_4 (s t : Int) (w : World) (r_s : okNum s = true) (r_t : okNum t = true) (hm : (Pk.mk 4 0 0 0 t 0 s 0 ⟨#[]⟩).may = true) :
    Calls Tryd.prog 12 #[(Pk.mk 4 0 0 0 t 0 s 0 ⟨#[]⟩).val] w fun e w' => e = .returned (.tuple #[.string (encL (.n 4 :: [.n s, .n t])), .int .i64 0]) ∧ Below w.heap.size w w' := by
  have hM := fun w => rpmay (Pk.mk 4 0 0 0 t 0 s 0 ⟨#[]⟩) w
  rw [hm] at hM
  have H1 := Lib.hid (fun w => rn1 4 3 w (by decide) (by decide))
  have z1 : (numsB [4]).size ≤ 5 := numsB_size [4]
  have H2 := Lib.hid (fun w => rn2 s t 3 w (okn r_s).1 (okn r_s).2 (okn r_t).1 (okn r_t).2)
  have z2 : (numsB [s, t]).size ≤ 10 := numsB_size [s, t]
  have HF := Lib.hid (enc_nums 4 [s, t])
  have HM := Lib.hid hM
  unfold Pk.val at HM
  unfold Pk.val
  clear hm hM r_s r_t
  generalize numsB [4] = e1 at *
  generalize numsB [s, t] = e2 at *
  go_enter Tryd.func12, Tryd.ntmps12
  go_wp2_with (first
    | (go_at_call 17; (with_reducible refine (HM.out _).mono ?_); rintro e w1 ⟨rfl, hb⟩; have hS := (Held.start w _).step hb; have c0 := hS.cell (i := 0) rfl; have c4 := hS.cell (i := 4) rfl; have c6 := hS.cell (i := 6) rfl; clear hb)
    | (go_at_call 31; first | ((with_reducible refine (H1.out _).mono ?_); rintro e w1 ⟨rfl, hb⟩; replace hS := hS.step hb; have c0 := hS.cell (i := 0) rfl; have c4 := hS.cell (i := 4) rfl; have c6 := hS.cell (i := 6) rfl; clear hb) | ((with_reducible refine (H2.out _).mono ?_); rintro e w1 ⟨rfl, hb⟩; replace hS := hS.step hb; have c0 := hS.cell (i := 0) rfl; have c4 := hS.cell (i := 4) rfl; have c6 := hS.cell (i := 6) rfl; clear hb))
    | fail)
  go_ret2
  exact ⟨ret_s2 HF.out, hS.bel⟩

theorem Pk.norm {p : Pk} (h : p.part = some p) : (p.kind = 0 → p = (Pk.mk 0 p.user p.nonce 0 0 0 0 0 ⟨#[]⟩)) ∧ (p.kind = 1 → p = (Pk.mk 1 0 0 p.half p.tag p.code 0 0 ⟨#[]⟩)) ∧ (p.kind = 2 → p = (Pk.mk 2 0 p.nonce 0 p.tag p.code 0 0 ⟨#[]⟩)) ∧ (p.kind = 3 → p = (Pk.mk 3 0 0 0 p.tag 0 p.session p.seq p.data)) ∧ (p.kind = 4 → p = (Pk.mk 4 0 0 0 p.tag 0 p.session 0 ⟨#[]⟩)) := by
  refine ⟨?_, ?_, ?_, ?_, ?_⟩ <;> intro e <;> unfold Pk.part at h <;> rw [e] at h <;> exact (Option.some.inj h).symm
theorem rpput (p : Pk) (w : World) : Calls Tryd.prog 12 #[p.val] w fun e w' => e = .returned (.tuple #[.string p.putS, .int .i64 p.putE]) ∧ Below w.heap.size w w' := by
  cases hm : p.may with
  | false => rw [show p.putS = ⟨#[]⟩ by unfold Pk.putS; rw [hm]; rfl, show p.putE = 400 by unfold Pk.putE; rw [hm]; rfl]; exact rpput_no p w hm
  | true =>
    rw [show p.putS = encL p.fl by unfold Pk.putS; rw [hm]; rfl, show p.putE = 0 by unfold Pk.putE; rw [hm]; rfl]
    obtain ⟨hr, hk, -⟩ := (Pk.may_iff p).1 hm
    obtain ⟨r_data, l_seq, u_seq, n_user, n_nonce, n_half, n_tag, n_code, n_session⟩ := (Pk.rng_iff p).1 hr
    have n_seq : okNum p.seq = true := (okNum_iff _).2 ⟨l_seq, by omega⟩
    obtain ⟨n0, n1, n2, n3, n4⟩ := Pk.norm hk
    obtain ⟨k, u, n, h, t, c, s, q, d⟩ := p
    rcases Pk.kinds hk with e | e | e | e | e
    · have := n0 e
      rw [this] at hm ⊢
      exact rpput_0 u n w n_user n_nonce hm
    · have := n1 e
      rw [this] at hm ⊢
      exact rpput_1 h t c w n_half n_tag n_code hm
    · have := n2 e
      rw [this] at hm ⊢
      exact rpput_2 t n c w n_tag n_nonce n_code hm
    · have := n3 e
      rw [this] at hm ⊢
      exact rpput_3 s q t d w n_session n_seq n_tag r_data hm
    · have := n4 e
      rw [this] at hm ⊢
      exact rpput_4 s t w n_session n_tag hm
end Go.Proofs.YthbnkejjipiaaaaDoor
