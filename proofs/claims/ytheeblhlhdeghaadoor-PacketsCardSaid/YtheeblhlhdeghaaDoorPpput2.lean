/- packet.Put answers a packet's bytes, and ErrPacketForm where it may not be. No condition. -/
import Derived.Test.YtheeblhlhdeghaaDoorPpput
import Derived.Test.YtheeblhlhdeghaaDoorFtext
namespace Go.Proofs.YtheeblhlhdeghaaDoor
open Go Go.RowKit

set_option maxRecDepth 100000 in
set_option maxHeartbeats 4000000 in
theorem ppput_yes (k u n h t c s q : Int) (d : ByteArray) (w : World) (hm : (Pk.mk k u n h t c s q d).may = true) (hk0 : 0 ≤ k) (hk1 : k ≤ 4) (hd : d.size ≤ 64)
    (hr : ∀ j, j < 7 → -9223372036854775808 ≤ row7 u h s q t n c j ∧ row7 u h s q t n c j ≤ 9223372036854775807) :
    Calls Tryd.prog 7 #[.agg #[.int .i64 k, .int .i64 u, .int .i64 n, .int .i64 h, .int .i64 t, .int .i64 c, .int .i64 s, .int .i64 q, .string d]] w fun e w' => e = .returned (.tuple #[.string (outP k (pU k) (row7 u h s q t n c) d), .int .i64 0]) ∧ Below w.heap.size w w' := by
  have HM := fun w => ppmay (Pk.mk k u n h t c s q d) w
  rw [hm] at HM
  unfold Pk.val at HM
  have HM := Lib.hid HM
  clear hm
  have HN := Lib.hid (fun w => pnamed k w)
  have HR := Lib.hid (fun w => prow k u n h t c s q d w)
  have HW := Lib.hid (fun (j : Int) w j0 j1 => pwith (pU k) j w j0 j1)
  have HI := Lib.hid (fun j hj w => idxR u h s q t n c j hj w)
  have HK := Lib.hid (fun w => fnum k w (by omega) (by omega))
  have HT := Lib.hid (fun w => ftext d w (by omega))
  have hts : (textS d).size ≤ 69 := by
    rw [textS, if_pos (by omega), ByteArray.size_append]
    have := numS_size (d.size : Int)
    rw [numS, (okNum_iff _).2 ⟨by omega, by omega⟩] at this
    simp only [if_true] at this
    omega
  have HX := Lib.hid hr
  clear hr hd hk0 hk1
  have HO : Hid (outP k (pU k) (row7 u h s q t n c) d = if pT (pU k) 7 then accP k (pU k) (row7 u h s q t n c) 7 ++ textS d else accP k (pU k) (row7 u h s q t n c) 7) := Lib.hid rfl
  have HA : Hid (∀ j, accP k (pU k) (row7 u h s q t n c) (j + 1) = if pT (pU k) (j : Nat) then accP k (pU k) (row7 u h s q t n c) j ++ numS (row7 u h s q t n c j) else accP k (pU k) (row7 u h s q t n c) j) := Lib.hid (fun _ => rfl)
  have HZ := Lib.hid (accP_size k (pU k) (row7 u h s q t n c))
  have H0 : Hid (numS k = accP k (pU k) (row7 u h s q t n c) 0) := Lib.hid rfl
  generalize outP k (pU k) (row7 u h s q t n c) d = O at *
  generalize accP k (pU k) (row7 u h s q t n c) = ac at *
  generalize row7 u h s q t n c = r at *
  generalize textS d = ts at *
  generalize textE d = te at *
  generalize hu : pU k = U at *
  clear hu
  rw [H0.out] at HK
  clear H0
  generalize numE k = ke at *
  have z0 := HZ.out 0
  go_enter Tryd.func7, Tryd.ntmps7
  go_wp2_with (first
    | (go_at_call 12; (with_reducible refine (HM.out _).mono ?_); rintro e w1 ⟨rfl, hb⟩; have kp := (Blk.new _ _ _).step hb; have e1 := kp.cell; have g1 := kp.froz; have l1 := kp.lt; have hB := ((Below.refl w.heap.size w).alloc (Nat.le_refl _) (.cells #[.int .i64 k, .int .i64 u, .int .i64 n, .int .i64 h, .int .i64 t, .int .i64 c, .int .i64 s, .int .i64 q, .string d] 23)).trans (hb.mono (by simp)); clear hb)
    | (go_at_call 15; (with_reducible refine (HN.out _).mono ?_); rintro e w1 ⟨rfl, rfl⟩)
    | (go_at_call 16; (with_reducible refine (HK.out _).mono ?_); rintro e w1 ⟨rfl, hb⟩; replace kp := kp.step hb; have e1 := kp.cell; have g1 := kp.froz; have l1 := kp.lt; replace hB := hB.trans (hb.mono hB.size); clear hb)
    | (go_at_call 17; (with_reducible refine (HR.out _).mono ?_); rintro e w1 ⟨rfl, hb⟩; replace kp := kp.step hb; have e1 := kp.cell; have g1 := kp.froz; have l1 := kp.lt; replace hB := hB.trans (hb.mono hB.size); clear hb))
  clear e1 g1 l1 z0
  go_loopw [5, 27] (fun o i wr => ∃ j : Nat, j ≤ 7 ∧ i = .int .i64 j ∧ o = .string (ac j) ∧ Below w.heap.size w wr ∧ Blk wr w.heap.size #[.int .i64 k, .int .i64 u, .int .i64 n, .int .i64 h, .int .i64 t, .int .i64 c, .int .i64 s, .int .i64 q, .string d]) (fun _ i _ => 7 - (intOf i).toNat)
  case atStart => exact ⟨0, by omega, rfl, rfl, hB, kp⟩
  case round =>
    clear kp hB
    obtain ⟨j, hj, rfl, rfl, hB, kp⟩ := hrel
    have z0 := HZ.out j
    by_cases hlt : j < 7
    · have hi := HI.out j hlt
      have HMj := Lib.hid (fun w => HW.out (j : Int) w (by omega) (by omega))
      have HAj := Lib.hid (HA.out j)
      obtain ⟨x0, x1⟩ := HX.out j hlt
      have HF := Lib.hid (fun w => fnum (r j) w x0 x1)
      have z1 := numS_size (r j)
      clear x0 x1
      generalize numE (r j) = ne at *
      generalize numS (r j) = ns at *
      cases hT : pT U (j : Int)
      · rw [hT] at HMj HAj
        clear hT
        go_wp2_with (go_at_call 18; (with_reducible refine (HMj.out _).mono ?_); rintro e w1 ⟨rfl, rfl⟩)
        go_roundw
        case rel => exact ⟨j + 1, by omega, by go_num, by rw [HAj.out]; rfl, hB, kp⟩
        case measure => simp [intOf]; omega
      · rw [hT] at HMj HAj
        clear hT
        go_wp2_with (first
          | (go_at_call 18; (with_reducible refine (HMj.out _).mono ?_); rintro e w1 ⟨rfl, rfl⟩)
          | (go_at_call 16; (with_reducible refine (HF.out _).mono ?_); rintro e w1 ⟨rfl, hb⟩))
        go_roundw
        case rel => exact ⟨j + 1, by omega, by go_num, by rw [HAj.out]; rfl, hB.trans (hb.mono hB.size), kp.step hb⟩
        case measure => simp [intOf]; omega
    · obtain rfl : j = 7 := by omega
      have HMj := Lib.hid (fun w => HW.out 7 w (by omega) (by omega))
      have e1 := kp.cell
      have g1 := kp.froz
      have l1 := kp.lt
      cases hT : pT U 7
      · rw [hT] at HMj HO
        clear hT
        go_wp2_with (go_at_call 18; (with_reducible refine (HMj.out _).mono ?_); rintro e w1 ⟨rfl, rfl⟩)
        go_ret2
        exact ⟨ret_s2 (by rw [HO.out]; rfl), hB⟩
      · rw [hT] at HMj HO
        clear hT
        go_wp2_with (first
          | (go_at_call 18; (with_reducible refine (HMj.out _).mono ?_); rintro e w1 ⟨rfl, rfl⟩)
          | (go_at_call 19; (with_reducible refine (HT.out _).mono ?_); rintro e w1 ⟨rfl, hb⟩))
        go_ret2
        exact ⟨ret_s2 (by rw [HO.out]; rfl), hB.trans (hb.mono hB.size)⟩
theorem Pk.kind_bd {p : Pk} (h : p.may = true) : 0 ≤ p.kind ∧ p.kind ≤ 4 := by
  have := Pk.kinds ((Pk.may_iff p).1 h).2
  omega
theorem ppput (p : Pk) (w : World) : Calls Tryd.prog 7 #[p.val] w fun e w' => e = .returned (.tuple #[.string p.putS, .int .i64 p.putE]) ∧ Below w.heap.size w w' := by
  cases hm : p.may with
  | false =>
    rw [show p.putS = ⟨#[]⟩ by unfold Pk.putS; rw [hm]; rfl, show p.putE = 400 by unfold Pk.putE; rw [hm]; rfl]
    exact ppput_no p w hm
  | true =>
    have hb := Pk.kind_bd hm
    obtain ⟨r1, r2, r3, r4, r5, r6, r7, r8, r9⟩ := (Pk.rng_iff p).1 ((Pk.may_iff p).1 hm).1
    have a4 := (okNum_iff _).1 r4
    have a5 := (okNum_iff _).1 r5
    have a6 := (okNum_iff _).1 r6
    have a7 := (okNum_iff _).1 r7
    have a8 := (okNum_iff _).1 r8
    have a9 := (okNum_iff _).1 r9
    rw [show p.putE = 0 by unfold Pk.putE; rw [hm]; rfl]
    obtain ⟨k, u, n, h, t, c, s, q, d⟩ := p
    rw [← Pk.out_ok hm]
    exact ppput_yes k u n h t c s q d w hm hb.1 hb.2 r1 (fun j hj => by
      match j, hj with
      | 0, _ | 1, _ | 2, _ | 3, _ | 4, _ | 5, _ | 6, _ => simp only [row7]; simp only at *; omega)
end Go.Proofs.YtheeblhlhdeghaaDoor
