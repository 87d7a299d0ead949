/- Package disk's Crash: what it answers and leaves. No condition but that the disk is one. -/
import Derived.Test.YtlnliphejjfdeaaKdp3
import Derived.Test.YtlnliphejjfdeaaKref2
namespace Go.Proofs.Ytlnliphejjfdeaa
open Go Go.RowKit

theorem info_C4 : (Try.prog.info? TC).map (·.size) = some 64 := by kernel_rfl
set_option maxHeartbeats 4000000 in
theorem kpcrash1 (p : Nat) (d : Dk) (m t tt : Nat) (htt : min t 64 = tt) (hm : m ≤ 9223372036854775807) (ht : t ≤ 9223372036854775807) (hd : d.down = false) : Does Try.prog (dpA p d) 16 #[.pointer (some ⟨p, 0, none⟩), .int .i64 m, .int .i64 t] (.returned (.int .i64 0)) (dpA p ⟨crk m tt 0 false d.kept d.waits, [], true⟩) := by
  intro w F h
  obtain ⟨n, gk, gs, v, hi, rfl⟩ := h
  rw [hd] at hi
  have Hu := Lib.hid (kup hi)
  have c2 := hi.c2
  have hfew := hi.few
  have hws := hi.wo
  unfold maxLen at hfew
  have h0 : KAt w p d.see d.waits n gk gs v d.kept w := ⟨hi, Tn.refl _ _⟩
  obtain ⟨ao, c, rfl⟩ := hi.shape
  clear hi
  have htt64 : tt ≤ 64 := by omega
  have hmin : (if (64 : Int) < (t : Int) then (64 : Int) else (t : Int)) = (tt : Int) := by split <;> omega
  generalize d.see = S at *
  generalize hR : crk m tt 0 false d.kept d.waits = R
  have HW := Lib.hid hws
  clear hws
  go_enter Try.func16, Try.ntmps16
  go_wp2_with (go_at_call 25; (with_reducible refine (Hu.out).mono ?_); rintro e w1 ⟨rfl, rfl⟩)
  go_loopw [8, 29] (fun l x wr => ∃ (j : Nat) (lost : Bool) (K : List ByteArray) (L : Int), j ≤ d.waits.length ∧ Hid (L = if lost then 0 else (tt : Int)) ∧ l = .int .i64 L ∧ x = .int .i64 (j : Int) ∧ crk m tt j lost K (d.waits.drop j) = R ∧ KAt w p S d.waits n gk gs (.slice ao d.waits.length c) K wr) (fun _ x _ => d.waits.length - (intOf x).toNat)
  case atStart => exact ⟨0, false, d.kept, _, Nat.zero_le _, Lib.hid (show min (t : Int) 64 = if false = true then 0 else (tt : Int) by rw [if_neg (by decide)]; omega), rfl, rfl, hR, h0⟩
  case round =>
    clear hR h0
    obtain ⟨j, lost, K, L, hj, HL, rfl, rfl, hc, hk⟩ := hrel
    by_cases hlt : j < d.waits.length
    · obtain ⟨x, hx⟩ : ∃ x, d.waits.getD j (0, ⟨#[]⟩) = x := ⟨_, rfl⟩
      obtain ⟨gw, cw, hv, hr⟩ := hk.1.wait hlt
      obtain ⟨rfl, rfl⟩ : ao = some ⟨gw, 0, none⟩ ∧ c = cw := by simpa using hv
      clear hv
      rw [hx] at hr
      have hxo := HW.out x (by rw [← hx, List.getD, List.getElem?_eq_getElem hlt]; exact List.getElem_mem hlt)
      rw [crk_cons hlt hx] at hc
      have hbt := bit_test m j hm
      have hA := hk.1.alloc (.cells (wV x).toArray TW)
      have HN := Lib.hid (fun K' w2 => hk.next (K' := K') (w2 := w2) ((Below.refl _ _).alloc (Nat.le_refl _) (.cells (wV x).toArray TW)))
      have HR := Lib.hid hr
      have HX := Lib.hid hxo
      clear hr hx hk
      cases hbk : bitK m j with
      | true =>
        rw [hbk, if_pos rfl] at hc
        obtain ⟨h30, hb1⟩ : j < 30 ∧ m.testBit j = true := by simpa [bitK] using hbk
        rw [hb1] at hbt
        have HK := Lib.hid (kkeep64 hA x hxo _ rfl)
        have HC := Lib.hid hc
        generalize K.set x.1 x.2 = K2 at *
        clear hA hxo hc hbk hb1
        go_wp2_with (first
          | (refine wpList_load_W rfl (.tmp 32) rfl gw (j * 65) rfl HX.out.2 HR.out ?_)
          | (refine wpList_load_W rfl (.tmp 10) rfl wr.heap.size 0 rfl HX.out.2 (range_new wr x) ?_)
          | (refine wpList_alloc_W rfl rfl ?_)
          | (refine wpList_store_W rfl (.tmp 10) (.tmp 33) rfl rfl rfl HX.out.2 ?_)
          | (go_at_call 27; (with_reducible refine (HK.out).mono ?_); rintro e w1 ⟨rfl, hk1, hk2⟩; have H2 := Lib.hid (HN.out _ _ hk1 hk2); clear hk1 hk2))
        go_round
        case rel => exact ⟨j + 1, lost, K2, L, by omega, HL, rfl, by go_num, HC.out, H2.out⟩
        case measure => simp [intOf]; omega
      | false =>
        rw [hbk, if_neg (by decide)] at hc
        have hnb : j < 30 → m.testBit j = false := by simpa [bitK] using hbk
        cases lost with
        | true =>
          rw [if_pos rfl] at hc
          obtain rfl : L = 0 := HL.out
          have HK := Lib.hid (kkeep0 hA x hxo)
          have HC := Lib.hid hc
          clear hA hxo hc hbk
          by_cases h30 : j < 30
          · rw [hnb h30] at hbt
            clear hnb
            go_wp2_with (first
              | (refine wpList_load_W rfl (.tmp 32) rfl gw (j * 65) rfl HX.out.2 HR.out ?_)
              | (refine wpList_load_W rfl (.tmp 10) rfl wr.heap.size 0 rfl HX.out.2 (range_new wr x) ?_)
              | (refine wpList_alloc_W rfl rfl ?_)
              | (refine wpList_store_W rfl (.tmp 10) (.tmp 33) rfl rfl rfl HX.out.2 ?_)
              | (go_at_call 27; (with_reducible refine (HK.out).mono ?_); rintro e w1 ⟨rfl, hk1, hk2⟩; have H2 := Lib.hid (HN.out _ _ hk1 hk2); clear hk1 hk2))
            go_round
            case rel => exact ⟨j + 1, true, K, 0, by omega, Lib.hid rfl, rfl, by go_num, HC.out, H2.out⟩
            case measure => simp [intOf]; omega
          · clear hnb hbt
            go_wp2_with (first
              | (refine wpList_load_W rfl (.tmp 32) rfl gw (j * 65) rfl HX.out.2 HR.out ?_)
              | (refine wpList_load_W rfl (.tmp 10) rfl wr.heap.size 0 rfl HX.out.2 (range_new wr x) ?_)
              | (refine wpList_alloc_W rfl rfl ?_)
              | (refine wpList_store_W rfl (.tmp 10) (.tmp 33) rfl rfl rfl HX.out.2 ?_)
              | (go_at_call 27; (with_reducible refine (HK.out).mono ?_); rintro e w1 ⟨rfl, hk1, hk2⟩; have H2 := Lib.hid (HN.out _ _ hk1 hk2); clear hk1 hk2))
            go_round
            case rel => exact ⟨j + 1, true, K, 0, by omega, Lib.hid rfl, rfl, by go_num, HC.out, H2.out⟩
            case measure => simp [intOf]; omega
        | false =>
          rw [if_neg (by decide)] at hc
          obtain rfl : L = (tt : Int) := HL.out.trans (if_neg (by decide))
          have HK := Lib.hid (kkeep hA x hxo tt htt64 _ rfl)
          have HC := Lib.hid hc
          generalize K.set x.1 (x.2.extract 0 tt ++ (K.getD x.1 ⟨#[]⟩).extract tt 64) = K2 at *
          clear hA hxo hc hbk
          by_cases h30 : j < 30
          · rw [hnb h30] at hbt
            clear hnb
            go_wp2_with (first
              | (refine wpList_load_W rfl (.tmp 32) rfl gw (j * 65) rfl HX.out.2 HR.out ?_)
              | (refine wpList_load_W rfl (.tmp 10) rfl wr.heap.size 0 rfl HX.out.2 (range_new wr x) ?_)
              | (refine wpList_alloc_W rfl rfl ?_)
              | (refine wpList_store_W rfl (.tmp 10) (.tmp 33) rfl rfl rfl HX.out.2 ?_)
              | (go_at_call 27; (with_reducible refine (HK.out).mono ?_); rintro e w1 ⟨rfl, hk1, hk2⟩; have H2 := Lib.hid (HN.out _ _ hk1 hk2); clear hk1 hk2))
            go_round
            case rel => exact ⟨j + 1, true, K2, 0, by omega, Lib.hid rfl, rfl, by go_num, HC.out, H2.out⟩
            case measure => simp [intOf]; omega
          · clear hnb hbt
            go_wp2_with (first
              | (refine wpList_load_W rfl (.tmp 32) rfl gw (j * 65) rfl HX.out.2 HR.out ?_)
              | (refine wpList_load_W rfl (.tmp 10) rfl wr.heap.size 0 rfl HX.out.2 (range_new wr x) ?_)
              | (refine wpList_alloc_W rfl rfl ?_)
              | (refine wpList_store_W rfl (.tmp 10) (.tmp 33) rfl rfl rfl HX.out.2 ?_)
              | (go_at_call 27; (with_reducible refine (HK.out).mono ?_); rintro e w1 ⟨rfl, hk1, hk2⟩; have H2 := Lib.hid (HN.out _ _ hk1 hk2); clear hk1 hk2))
            go_round
            case rel => exact ⟨j + 1, true, K2, 0, by omega, Lib.hid rfl, rfl, by go_num, HC.out, H2.out⟩
            case measure => simp [intOf]; omega
    · obtain rfl : j = d.waits.length := by omega
      rw [List.drop_length, crk] at hc
      subst hc
      obtain ⟨h1, h2⟩ := hk
      have e2 := h1.c2
      have g2 := h1.f 2
      have h3 := h1.setNil
      have h4 := h2.setCell (p := ⟨p, 2, none⟩) (.inl (by simp)) (.slice none 0 0)
      clear h1 h2
      go_wp2
      refine region_tail 8 (by kernel_rfl) (by kernel_rfl) fun W hW => ?_
      have HD : DqIn W p K S [] false n gk gs (.slice none 0 0) := by subst hW; exact h3.drew
      have HT : Tn (dqF p gk gs (.slice ao d.waits.length c)) w W := by subst hW; exact h4.drew
      clear hW h3 h4
      have a0 := HD.c0
      have a1 := HD.c1
      have bk := HD.bk
      have bs := HD.bs
      have l1 := flatS_len HD.ks
      have l2 := flatS_len HD.ss
      rw [HD.kn] at l1
      rw [HD.sn] at l2
      have HS := HD.setS (s' := K) HD.kn HD.ks
      have HU := HT.setRow (g := gs) (.inl (by simp)) (flatS K).toArray
      have a3 := HS.c3
      have g3 := HS.f 3
      have HE := Lib.hid (dpA_becomes (d := ⟨K, [], true⟩) (HS.setDown true) (HU.setCell (p := ⟨p, 3, none⟩) (.inl (by simp)) (.bool true)) (fun j hj => by simp [Value.ownBlock] at hj))
      clear HD HT HS HU
      simp only [List.take_succ_cons, List.take_zero, List.drop_succ_cons, List.drop_zero]
      repeat still_step
      refine wpStill_nil ?_
      refine wpList_copy_rows rfl (.tmp 57) (.tmp 61) 55 55 rfl TC Try.underlying55 64 info_C4 gs n n gk n rfl rfl (flatS S) (flatS K) TC TC bs bk l2 l1 (flatS_one K) ?_
      go_wp2
      go_ret
      exact ⟨rfl, HE.out⟩
theorem kpcrash (p : Nat) (d : Dk) (m t : Int) (hm : m ≤ 9223372036854775807) (ht : t ≤ 9223372036854775807) : Does Try.prog (dpA p d) 16 #[.pointer (some ⟨p, 0, none⟩), .int .i64 m, .int .i64 t] (.returned (.int .i64 (d.crE m t))) (dpA p (d.cr m t)) := by
  cases hd : d.down with
  | true =>
    rw [show d.crE m t = 801 by unfold Dk.crE; rw [hd]; rfl, show d.cr m t = d by unfold Dk.cr; rw [hd]; rfl]
    intro w F h
    have hs := dpA_same h (Below.refl _ _)
    obtain ⟨n, gk, gs, v, hi, rfl⟩ := h
    have Hu := Lib.hid (kup hi)
    rw [hd] at Hu
    clear hi
    go_enter Try.func16, Try.ntmps16
    go_wp2_with (go_at_call 25; (with_reducible refine (Hu.out).mono ?_); rintro e w1 ⟨rfl, rfl⟩)
    go_ret
    exact ⟨rfl, hs⟩
  | false =>
    by_cases hb : 0 ≤ m ∧ 0 ≤ t
    · obtain ⟨h0, h1⟩ := hb
      rw [show d.crE m t = 0 by unfold Dk.crE; rw [hd]; simp [h0, h1], show d.cr m t = ⟨crk m.toNat (min t.toNat 64) 0 false d.kept d.waits, [], true⟩ by unfold Dk.cr; rw [hd]; simp [h0, h1]]
      obtain ⟨m, rfl⟩ := Int.eq_ofNat_of_zero_le h0
      obtain ⟨t, rfl⟩ := Int.eq_ofNat_of_zero_le h1
      exact kpcrash1 p d m t _ rfl (by omega) (by omega) hd
    · rw [show d.crE m t = 800 by unfold Dk.crE; rw [hd]; simp; omega, show d.cr m t = d by unfold Dk.cr; rw [hd]; simp; omega]
      intro w F h
      have hs := dpA_same h (Below.refl _ _)
      obtain ⟨n, gk, gs, v, hi, rfl⟩ := h
      have Hu := Lib.hid (kup hi)
      rw [hd] at Hu
      clear hi
      by_cases h0 : m < 0
      · go_enter Try.func16, Try.ntmps16
        go_wp2_with (go_at_call 25; (with_reducible refine (Hu.out).mono ?_); rintro e w1 ⟨rfl, rfl⟩)
        go_ret
        exact ⟨rfl, hs⟩
      · have h1 : t < 0 := by omega
        go_enter Try.func16, Try.ntmps16
        go_wp2_with (go_at_call 25; (with_reducible refine (Hu.out).mono ?_); rintro e w1 ⟨rfl, rfl⟩)
        go_ret
        exact ⟨rfl, hs⟩
end Go.Proofs.Ytlnliphejjfdeaa
