/- The reference's PutReply answers its bytes. No condition. -/
import Derived.Test.YthbnkejjipiaaaaDoorRymay
import Derived.Test.YthbnkejjipiaaaaDoorReadt
namespace Go.Proofs.YthbnkejjipiaaaaDoor
open Go Go.RowKit

theorem ryput_no (p : Ry) (w : World) (hm : p.may = false) : Calls Tryd.prog 20 #[p.val] w fun e w' => e = .returned (.tuple #[.string ⟨#[]⟩, .int .i64 500]) ∧ Below w.heap.size w w' := by
  have HM := fun w => rymay p w
  rw [hm] at HM
  obtain ⟨k, h, n, s, a, t, q, c, d⟩ := p
  have HM := Lib.hid (HM)
  unfold Ry.val at HM
  unfold Ry.val
  clear hm
  go_enter Tryd.func20, Tryd.ntmps20
  go_wp2_with (go_at_call 24; (with_reducible refine (HM.out _).mono ?_); rintro e w1 ⟨rfl, hb⟩; have hS := (Held.start w _).step hb)
  go_ret2
  exact ⟨rfl, hS.bel⟩

set_option maxHeartbeats 4000000 in
theorem ryput_0 (h n : Int) (w : World) (r_h : okNum h = true) (r_n : okNum n = true) (hm : (Ry.mk 0 h n 0 0 0 0 0 ⟨#[]⟩).may = true) :
    Calls Tryd.prog 20 #[(Ry.mk 0 h n 0 0 0 0 0 ⟨#[]⟩).val] w fun e w' => e = .returned (.tuple #[.string (encL (.n 0 :: [.n h, .n n])), .int .i64 0]) ∧ Below w.heap.size w w' := by
  have hM := fun w => rymay (Ry.mk 0 h n 0 0 0 0 0 ⟨#[]⟩) w
  rw [hm] at hM
  have H1 := Lib.hid (fun w => rn1 0 3 w (by decide) (by decide))
  have z1 : (numsB [0]).size ≤ 5 := numsB_size [0]
  have H2 := Lib.hid (fun w => rn2 h n 3 w (okn r_h).1 (okn r_h).2 (okn r_n).1 (okn r_n).2)
  have z2 : (numsB [h, n]).size ≤ 10 := numsB_size [h, n]
  have HF := Lib.hid (enc_nums 0 [h, n])
  have HM := Lib.hid hM
  unfold Ry.val at HM
  unfold Ry.val
  clear hm hM r_h r_n
  generalize numsB [0] = e1 at *
  generalize numsB [h, n] = e2 at *
  go_enter Tryd.func20, Tryd.ntmps20
  go_wp2_with (first
    | (go_at_call 24; (with_reducible refine (HM.out _).mono ?_); rintro e w1 ⟨rfl, hb⟩; have hS := (Held.start w _).step hb; have c0 := hS.cell (i := 0) rfl; have c1 := hS.cell (i := 1) rfl; have c2 := hS.cell (i := 2) rfl; clear hb)
    | (go_at_call 31; first | ((with_reducible refine (H1.out _).mono ?_); rintro e w1 ⟨rfl, hb⟩; replace hS := hS.step hb; have c0 := hS.cell (i := 0) rfl; have c1 := hS.cell (i := 1) rfl; have c2 := hS.cell (i := 2) rfl; clear hb) | ((with_reducible refine (H2.out _).mono ?_); rintro e w1 ⟨rfl, hb⟩; replace hS := hS.step hb; have c0 := hS.cell (i := 0) rfl; have c1 := hS.cell (i := 1) rfl; have c2 := hS.cell (i := 2) rfl; clear hb))
    | fail)
  go_ret2
  exact ⟨ret_s2 HF.out, hS.bel⟩

set_option maxHeartbeats 4000000 in
theorem ryput_1 (s a t : Int) (w : World) (r_s : okNum s = true) (r_a : okNum a = true) (r_t : okNum t = true) (hm : (Ry.mk 1 0 0 s a t 0 0 ⟨#[]⟩).may = true) :
    Calls Tryd.prog 20 #[(Ry.mk 1 0 0 s a t 0 0 ⟨#[]⟩).val] w fun e w' => e = .returned (.tuple #[.string (encL (.n 1 :: [.n s, .n a, .n t])), .int .i64 0]) ∧ Below w.heap.size w w' := by
  have hM := fun w => rymay (Ry.mk 1 0 0 s a t 0 0 ⟨#[]⟩) w
  rw [hm] at hM
  have H1 := Lib.hid (fun w => rn1 1 3 w (by decide) (by decide))
  have z1 : (numsB [1]).size ≤ 5 := numsB_size [1]
  have H2 := Lib.hid (fun w => rn3 s a t 3 w (okn r_s).1 (okn r_s).2 (okn r_a).1 (okn r_a).2 (okn r_t).1 (okn r_t).2)
  have z2 : (numsB [s, a, t]).size ≤ 15 := numsB_size [s, a, t]
  have HF := Lib.hid (enc_nums 1 [s, a, t])
  have HM := Lib.hid hM
  unfold Ry.val at HM
  unfold Ry.val
  clear hm hM r_s r_a r_t
  generalize numsB [1] = e1 at *
  generalize numsB [s, a, t] = e2 at *
  go_enter Tryd.func20, Tryd.ntmps20
  go_wp2_with (first
    | (go_at_call 24; (with_reducible refine (HM.out _).mono ?_); rintro e w1 ⟨rfl, hb⟩; have hS := (Held.start w _).step hb; have c0 := hS.cell (i := 0) rfl; have c3 := hS.cell (i := 3) rfl; have c4 := hS.cell (i := 4) rfl; have c5 := hS.cell (i := 5) rfl; clear hb)
    | (go_at_call 31; first | ((with_reducible refine (H1.out _).mono ?_); rintro e w1 ⟨rfl, hb⟩; replace hS := hS.step hb; have c0 := hS.cell (i := 0) rfl; have c3 := hS.cell (i := 3) rfl; have c4 := hS.cell (i := 4) rfl; have c5 := hS.cell (i := 5) rfl; clear hb) | ((with_reducible refine (H2.out _).mono ?_); rintro e w1 ⟨rfl, hb⟩; replace hS := hS.step hb; have c0 := hS.cell (i := 0) rfl; have c3 := hS.cell (i := 3) rfl; have c4 := hS.cell (i := 4) rfl; have c5 := hS.cell (i := 5) rfl; clear hb))
    | fail)
  go_ret2
  exact ⟨ret_s2 HF.out, hS.bel⟩

set_option maxHeartbeats 4000000 in
theorem ryput_2 (s q : Int) (d : ByteArray) (w : World) (r_s : okNum s = true) (r_q : okNum q = true) (r_d : d.size ≤ 64) (hm : (Ry.mk 2 0 0 s 0 0 q 0 d).may = true) :
    Calls Tryd.prog 20 #[(Ry.mk 2 0 0 s 0 0 q 0 d).val] w fun e w' => e = .returned (.tuple #[.string (encL (.n 2 :: [.n s, .n q, .t d])), .int .i64 0]) ∧ Below w.heap.size w w' := by
  have hM := fun w => rymay (Ry.mk 2 0 0 s 0 0 q 0 d) w
  rw [hm] at hM
  have H1 := Lib.hid (fun w => rn1 2 3 w (by decide) (by decide))
  have z1 : (numsB [2]).size ≤ 5 := numsB_size [2]
  have H2 := Lib.hid (fun w => rn2 s q 3 w (okn r_s).1 (okn r_s).2 (okn r_q).1 (okn r_q).2)
  have z2 : (numsB [s, q]).size ≤ 10 := numsB_size [s, q]
  have z3 : (textS d).size ≤ 69 := by rw [textS_ok (by omega), ByteArray.size_append]; have := numS_size (d.size : Int); omega
  have hT := fun w => rtext d w (by omega)
  rw [show textE d = 0 by unfold textE; rw [if_pos (by omega)]] at hT
  have HT := Lib.hid hT
  clear hT
  have HF := Lib.hid (enc_numst 2 [s, q] d)
  have HM := Lib.hid hM
  unfold Ry.val at HM
  unfold Ry.val
  clear hm hM r_s r_q r_d
  generalize numsB [2] = e1 at *
  generalize numsB [s, q] = e2 at *
  generalize textS d = e3 at *
  go_enter Tryd.func20, Tryd.ntmps20
  go_wp2_with (first
    | (go_at_call 24; (with_reducible refine (HM.out _).mono ?_); rintro e w1 ⟨rfl, hb⟩; have hS := (Held.start w _).step hb; have c0 := hS.cell (i := 0) rfl; have c3 := hS.cell (i := 3) rfl; have c6 := hS.cell (i := 6) rfl; have c8 := hS.cell (i := 8) rfl; clear hb)
    | (go_at_call 31; first | ((with_reducible refine (H1.out _).mono ?_); rintro e w1 ⟨rfl, hb⟩; replace hS := hS.step hb; have c0 := hS.cell (i := 0) rfl; have c3 := hS.cell (i := 3) rfl; have c6 := hS.cell (i := 6) rfl; have c8 := hS.cell (i := 8) rfl; clear hb) | ((with_reducible refine (H2.out _).mono ?_); rintro e w1 ⟨rfl, hb⟩; replace hS := hS.step hb; have c0 := hS.cell (i := 0) rfl; have c3 := hS.cell (i := 3) rfl; have c6 := hS.cell (i := 6) rfl; have c8 := hS.cell (i := 8) rfl; clear hb))
    | (go_at_call 32; (with_reducible refine (HT.out _).mono ?_); rintro e w1 ⟨rfl, hb⟩; replace hS := hS.step hb; have c0 := hS.cell (i := 0) rfl; have c3 := hS.cell (i := 3) rfl; have c6 := hS.cell (i := 6) rfl; have c8 := hS.cell (i := 8) rfl; clear hb)
    | fail)
  go_ret2
  exact ⟨ret_s2 HF.out, hS.bel⟩

set_option maxHeartbeats 4000000 in
theorem ryput_3 (c : Int) (w : World) (r_c : okNum c = true) (hm : (Ry.mk 3 0 0 0 0 0 0 c ⟨#[]⟩).may = true) :
    Calls Tryd.prog 20 #[(Ry.mk 3 0 0 0 0 0 0 c ⟨#[]⟩).val] w fun e w' => e = .returned (.tuple #[.string (encL (.n 3 :: [.n c])), .int .i64 0]) ∧ Below w.heap.size w w' := by
  have hM := fun w => rymay (Ry.mk 3 0 0 0 0 0 0 c ⟨#[]⟩) w
  rw [hm] at hM
  have H1 := Lib.hid (fun w => rn1 3 3 w (by decide) (by decide))
  have z1 : (numsB [3]).size ≤ 5 := numsB_size [3]
  have H2 := Lib.hid (fun w => rn1 c 3 w (okn r_c).1 (okn r_c).2)
  have z2 : (numsB [c]).size ≤ 5 := numsB_size [c]
  have HF := Lib.hid (enc_nums 3 [c])
  have HM := Lib.hid hM
  unfold Ry.val at HM
  unfold Ry.val
  clear hm hM r_c
  generalize numsB [3] = e1 at *
  generalize numsB [c] = e2 at *
  go_enter Tryd.func20, Tryd.ntmps20
  go_wp2_with (first
    | (go_at_call 24; (with_reducible refine (HM.out _).mono ?_); rintro e w1 ⟨rfl, hb⟩; have hS := (Held.start w _).step hb; have c0 := hS.cell (i := 0) rfl; have c7 := hS.cell (i := 7) rfl; clear hb)
    | (go_at_call 31; first | ((with_reducible refine (H1.out _).mono ?_); rintro e w1 ⟨rfl, hb⟩; replace hS := hS.step hb; have c0 := hS.cell (i := 0) rfl; have c7 := hS.cell (i := 7) rfl; clear hb) | ((with_reducible refine (H2.out _).mono ?_); rintro e w1 ⟨rfl, hb⟩; replace hS := hS.step hb; have c0 := hS.cell (i := 0) rfl; have c7 := hS.cell (i := 7) rfl; clear hb))
    | fail)
  go_ret2
  exact ⟨ret_s2 HF.out, hS.bel⟩

set_option maxHeartbeats 4000000 in
theorem ryput_4 (s c : Int) (w : World) (r_s : okNum s = true) (r_c : okNum c = true) (hm : (Ry.mk 4 0 0 s 0 0 0 c ⟨#[]⟩).may = true) :
    Calls Tryd.prog 20 #[(Ry.mk 4 0 0 s 0 0 0 c ⟨#[]⟩).val] w fun e w' => e = .returned (.tuple #[.string (encL (.n 4 :: [.n s, .n c])), .int .i64 0]) ∧ Below w.heap.size w w' := by
  have hM := fun w => rymay (Ry.mk 4 0 0 s 0 0 0 c ⟨#[]⟩) w
  rw [hm] at hM
  have H1 := Lib.hid (fun w => rn1 4 3 w (by decide) (by decide))
  have z1 : (numsB [4]).size ≤ 5 := numsB_size [4]
  have H2 := Lib.hid (fun w => rn2 s c 3 w (okn r_s).1 (okn r_s).2 (okn r_c).1 (okn r_c).2)
  have z2 : (numsB [s, c]).size ≤ 10 := numsB_size [s, c]
  have HF := Lib.hid (enc_nums 4 [s, c])
  have HM := Lib.hid hM
  unfold Ry.val at HM
  unfold Ry.val
  clear hm hM r_s r_c
  generalize numsB [4] = e1 at *
  generalize numsB [s, c] = e2 at *
  go_enter Tryd.func20, Tryd.ntmps20
  go_wp2_with (first
    | (go_at_call 24; (with_reducible refine (HM.out _).mono ?_); rintro e w1 ⟨rfl, hb⟩; have hS := (Held.start w _).step hb; have c0 := hS.cell (i := 0) rfl; have c3 := hS.cell (i := 3) rfl; have c7 := hS.cell (i := 7) rfl; clear hb)
    | (go_at_call 31; first | ((with_reducible refine (H1.out _).mono ?_); rintro e w1 ⟨rfl, hb⟩; replace hS := hS.step hb; have c0 := hS.cell (i := 0) rfl; have c3 := hS.cell (i := 3) rfl; have c7 := hS.cell (i := 7) rfl; clear hb) | ((with_reducible refine (H2.out _).mono ?_); rintro e w1 ⟨rfl, hb⟩; replace hS := hS.step hb; have c0 := hS.cell (i := 0) rfl; have c3 := hS.cell (i := 3) rfl; have c7 := hS.cell (i := 7) rfl; clear hb))
    | fail)
  go_ret2
  exact ⟨ret_s2 HF.out, hS.bel⟩

set_option maxHeartbeats 4000000 in
theorem ryput_5 (w : World)  (hm : (Ry.mk 5 0 0 0 0 0 0 0 ⟨#[]⟩).may = true) :
    Calls Tryd.prog 20 #[(Ry.mk 5 0 0 0 0 0 0 0 ⟨#[]⟩).val] w fun e w' => e = .returned (.tuple #[.string (encL (.n 5 :: [])), .int .i64 0]) ∧ Below w.heap.size w w' := by
  have hM := fun w => rymay (Ry.mk 5 0 0 0 0 0 0 0 ⟨#[]⟩) w
  rw [hm] at hM
  have H1 := Lib.hid (fun w => rn1 5 3 w (by decide) (by decide))
  have z1 : (numsB [5]).size ≤ 5 := numsB_size [5]
  have HF := Lib.hid (enc_nums 5 [])
  rw [show numsB [5] ++ numsB [] = numsB [5] from ba_nil _] at HF
  have HM := Lib.hid hM
  unfold Ry.val at HM
  unfold Ry.val
  clear hm hM 
  generalize numsB [5] = e1 at *
  go_enter Tryd.func20, Tryd.ntmps20
  go_wp2_with (first
    | (go_at_call 24; (with_reducible refine (HM.out _).mono ?_); rintro e w1 ⟨rfl, hb⟩; have hS := (Held.start w _).step hb; have c0 := hS.cell (i := 0) rfl; clear hb)
    | (go_at_call 31; ((with_reducible refine (H1.out _).mono ?_); rintro e w1 ⟨rfl, hb⟩; replace hS := hS.step hb; have c0 := hS.cell (i := 0) rfl; clear hb))
    | fail)
  go_ret2
  exact ⟨ret_s2 HF.out, hS.bel⟩

theorem Ry.norm {p : Ry} (h : p.part = some p) : (p.kind = 0 → p = (Ry.mk 0 p.half p.nonce 0 0 0 0 0 ⟨#[]⟩)) ∧ (p.kind = 1 → p = (Ry.mk 1 0 0 p.session p.address p.ticket 0 0 ⟨#[]⟩)) ∧ (p.kind = 2 → p = (Ry.mk 2 0 0 p.session 0 0 p.seq 0 p.data)) ∧ (p.kind = 3 → p = (Ry.mk 3 0 0 0 0 0 0 p.code ⟨#[]⟩)) ∧ (p.kind = 4 → p = (Ry.mk 4 0 0 p.session 0 0 0 p.code ⟨#[]⟩)) ∧ (p.kind = 5 → p = (Ry.mk 5 0 0 0 0 0 0 0 ⟨#[]⟩)) := by
  refine ⟨?_, ?_, ?_, ?_, ?_, ?_⟩ <;> intro e <;> unfold Ry.part at h <;> rw [e] at h <;> exact (Option.some.inj h).symm
theorem ryput (p : Ry) (w : World) : Calls Tryd.prog 20 #[p.val] w fun e w' => e = .returned (.tuple #[.string p.putS, .int .i64 p.putE]) ∧ Below w.heap.size w w' := by
  cases hm : p.may with
  | false => rw [show p.putS = ⟨#[]⟩ by unfold Ry.putS; rw [hm]; rfl, show p.putE = 500 by unfold Ry.putE; rw [hm]; rfl]; exact ryput_no p w hm
  | true =>
    rw [show p.putS = encL p.fl by unfold Ry.putS; rw [hm]; rfl, show p.putE = 0 by unfold Ry.putE; rw [hm]; rfl]
    obtain ⟨hr, hk, -⟩ := (Ry.may_iff p).1 hm
    obtain ⟨r_data, l_seq, u_seq, l_address, u_address, n_half, n_nonce, n_session, n_ticket, n_code⟩ := (Ry.rng_iff p).1 hr
    have n_seq : okNum p.seq = true := (okNum_iff _).2 ⟨l_seq, by omega⟩
    have n_address : okNum p.address = true := (okNum_iff _).2 ⟨l_address, by omega⟩
    obtain ⟨n0, n1, n2, n3, n4, n5⟩ := Ry.norm hk
    obtain ⟨k, h, n, s, a, t, q, c, d⟩ := p
    rcases Ry.kinds hk with e | e | e | e | e | e
    · have := n0 e
      rw [this] at hm ⊢
      exact ryput_0 h n w n_half n_nonce hm
    · have := n1 e
      rw [this] at hm ⊢
      exact ryput_1 s a t w n_session n_address n_ticket hm
    · have := n2 e
      rw [this] at hm ⊢
      exact ryput_2 s q d w n_session n_seq r_data hm
    · have := n3 e
      rw [this] at hm ⊢
      exact ryput_3 c w n_code hm
    · have := n4 e
      rw [this] at hm ⊢
      exact ryput_4 s c w n_session n_code hm
    · have := n5 e
      rw [this] at hm ⊢
      exact ryput_5 w hm
end Go.Proofs.YthbnkejjipiaaaaDoor
