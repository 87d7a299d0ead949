/- The reference's Disk: what Crash answers and leaves. No condition but that the disk is one. -/
import Derived.Test.YtlnliphejjfdeaaKref
import Derived.Laws.BitsLemmas
namespace Go.Proofs.Ytlnliphejjfdeaa
open Go Go.RowKit

/-- In the midst of a crash: K is kept. -/
def DkK (T : TypeId) (w : World) (p g cap : Nat) (v : Value) (d : Dk) (K : List ByteArray) (w' : World) : Prop := DkIn T w' p ⟨K, d.waits, d.down⟩ g cap v ∧ Tn (p :: g :: v.ownBlock.toList) w w' ∧ K.length = d.kept.length
theorem DkK.drew {T : TypeId} {w : World} {p g cap : Nat} {v : Value} {d : Dk} {K : List ByteArray} {w' : World} (h : DkK T w p g cap v d K w') : DkK T w p g cap v d K w'.drew := ⟨h.1.on fun _ _ => rfl, h.2.1.drew, h.2.2⟩
theorem DkK.alloc {T : TypeId} {w : World} {p g cap : Nat} {v : Value} {d : Dk} {K : List ByteArray} {w' : World} (h : DkK T w p g cap v d K w') (o : Obj) : DkK T w p g cap v d K (w'.alloc o) := ⟨h.1.below ((Below.refl _ _).alloc (Nat.le_refl _) _), h.2.1.alloc _, h.2.2⟩
theorem DkK.facts {T : TypeId} {w : World} {p g cap : Nat} {v : Value} {d : Dk} {K : List ByteArray} {w' : World} (h : DkK T w p g cap v d K w') :
    w'.cell? ⟨p, 0, none⟩ = some (.slice (some ⟨g, 0, none⟩) d.kept.length cap) ∧ w'.cell? ⟨p, 1, none⟩ = some v ∧ w'.cell? ⟨p, 2, none⟩ = some (.bool d.down) ∧ w'.frozen? ⟨p, 1, none⟩ = false ∧ w'.frozen? ⟨p, 2, none⟩ = false ∧ p < w'.heap.size ∧ g < w'.heap.size := by
  obtain ⟨h1, _, h3⟩ := h
  have c0 := h1.c0
  rw [show (Dk.mk K d.waits d.down).kept.length = d.kept.length from h3] at c0
  exact ⟨c0, h1.c1, h1.c2, h1.f1, h1.f2, h1.lt p (by simp), h1.lt g (by simp)⟩
theorem DkK.wait {T : TypeId} {w : World} {p g cap : Nat} {v : Value} {d : Dk} {K : List ByteArray} {w' : World} (h : DkK T w p g cap v d K w') {j : Nat} (hj : j < d.waits.length) {x : Wt} (hx : d.waits.getD j (0, ⟨#[]⟩) = x) : x.1 < d.kept.length ∧ x.2.size = 64 ∧ (∃ gw cw, v = .slice (some ⟨gw, 0, none⟩) d.waits.length cw ∧
    w'.cell? ⟨gw, j * 2, none⟩ = some (.int .i64 (x.1 : Int)) ∧ w'.cell? ⟨gw, j * 2 + 1, none⟩ = some (.string x.2) ∧ gw < w'.heap.size) ∧ w'.cell? ⟨g, x.1, none⟩ = some (.string (K.getD x.1 ⟨#[]⟩)) ∧ w'.frozen? ⟨g, x.1, none⟩ = false ∧ (K.getD x.1 ⟨#[]⟩).size = 64 := by
  obtain ⟨h1, _, h3⟩ := h
  have hm : x ∈ d.waits := by rw [← hx, List.getD, List.getElem?_eq_getElem hj]; exact List.getElem_mem hj
  have ho := h1.ok.ws x hm
  have hl : x.1 < K.length := ho.1
  obtain ⟨gw, cw, e, a1, a2⟩ := rowW_some h1.rw hj
  rw [hx] at a1 a2
  exact ⟨by rw [← h3]; exact hl, ho.2, ⟨gw, cw, e, a1, a2, World.block_lt_of_cell? w' ⟨gw, j * 2, none⟩ a1⟩, rowT_cell h1.rk hl, rowT_froz h1.rk _, getD_sz h1.ok.sz hl⟩
theorem DkK.set {T : TypeId} {w : World} {p g cap : Nat} {v : Value} {d : Dk} {K : List ByteArray} {w' : World} (h : DkK T w p g cap v d K w') (i : Nat) {s : ByteArray} (hs : s.size = 64) : DkK T w p g cap v d (K.set i s) (w'.setCell ⟨g, i, none⟩ (.string s)) :=
  ⟨h.1.setKept i hs, h.2.1.setCell (.inl (by simp)) _, by rw [List.length_set]; exact h.2.2⟩
theorem DkK.done {T : TypeId} {w : World} {p g cap : Nat} {v : Value} {d : Dk} {K : List ByteArray} {w' : World} (h : DkK T w p g cap v d K w') : Becomes (p :: g :: v.ownBlock.toList) (dkA T p ⟨K, [], true⟩) w ((w'.setCell ⟨p, 1, none⟩ (.slice none 0 0)).setCell ⟨p, 2, none⟩ (.bool true)) := by
  obtain ⟨h1, h2, _⟩ := h
  exact ⟨_, ⟨g, cap, _, h1.setNil.setDown true, rfl⟩, (h2.setCell (.inl (by simp)) _).setCell (.inl (by simp)) _, fun k hk => .inl (by simp [Value.ownBlock] at hk ⊢; rcases hk with e | e <;> simp [e])⟩
theorem crk_cons {m t n : Nat} {lost : Bool} {K : List ByteArray} {ws : List Wt} (hn : n < ws.length) {x : Wt} (hx : ws.getD n (0, ⟨#[]⟩) = x) : crk m t n lost K (ws.drop n) =
    if bitK m n then crk m t (n + 1) lost (K.set x.1 x.2) (ws.drop (n + 1)) else if lost then crk m t (n + 1) true K (ws.drop (n + 1)) else crk m t (n + 1) true (K.set x.1 (x.2.extract 0 t ++ (K.getD x.1 ⟨#[]⟩).extract t 64)) (ws.drop (n + 1)) := by
  rw [List.drop_eq_getElem_cons hn, show ws[n] = x by rw [← hx]; simp [List.getD, hn], crk]
theorem bit_test (m n : Nat) (hm : m ≤ 9223372036854775807) : (bits .and .i64 ((m : Int) / 2 ^ n) 1 == 1) = m.testBit n := by
  have hle : m / 2 ^ n ≤ m := Nat.div_le_self _ _
  have hq : (m : Int) / 2 ^ n = ((m / 2 ^ n : Nat) : Int) := by simp
  rw [Nat.testBit_eq_decide_div_mod_eq, hq]
  generalize m / 2 ^ n = q at *
  have h := bits_mask .i64 63 (by decide) (fun n h0 h1 => by rw [IntKind.wrap_i64]; omega) 1 (by decide) (q : Int) (by omega) (by omega)
  rw [show ((2 : Int) ^ 1 - 1) = 1 from rfl, show ((2 : Int) ^ 1) = 2 from rfl] at h
  rw [h, Bool.eq_iff_iff]
  simp only [beq_iff_eq, decide_eq_true_eq]
  omega
set_option maxHeartbeats 4000000 in
theorem krcrash1 (p : Nat) (d : Dk) (m t tt : Nat) (htt : min t 64 = tt) (hm : m ≤ 9223372036854775807) (ht : t ≤ 9223372036854775807) (hd : d.down = false) : Does Try.prog (dkA TR p d) 17 #[.pointer (some ⟨p, 0, none⟩), .int .i64 m, .int .i64 t] (.returned (.int .i64 0)) (dkA TR p ⟨crk m tt 0 false d.kept d.waits, [], true⟩) := by
  intro w F h
  obtain ⟨g, cap, v, hi, rfl⟩ := h
  have c2 := hi.c2
  rw [hd] at c2
  have hfew := rowW_few hi.rw
  unfold maxLen at hfew
  have h0 : DkK TR w p g cap v d d.kept w := ⟨hi, Tn.refl _ _, rfl⟩
  obtain ⟨ao, c, rfl⟩ := rowW_shape hi.rw
  clear hi
  generalize hR : crk m tt 0 false d.kept d.waits = R
  go_enter Try.func17, Try.ntmps17
  go_wp2
  go_loopw [7, 8] (fun l x wr => ∃ (n : Nat) (lost : Bool) (K : List ByteArray), n ≤ d.waits.length ∧ l = .bool lost ∧ x = .int .i64 (n : Int) ∧ crk m tt n lost K (d.waits.drop n) = R ∧ DkK TR w p g cap (.slice ao d.waits.length c) d K wr) (fun _ x _ => d.waits.length - (intOf x).toNat)
  case atStart => exact ⟨0, false, d.kept, Nat.zero_le _, rfl, rfl, hR, h0⟩
  case round =>
    clear hR h0
    obtain ⟨n, lost, K, hn, rfl, rfl, hc, hk⟩ := hrel
    obtain ⟨e0, e1, e9, g1, g2, p1, p2⟩ := hk.facts
    rw [hd] at e9
    by_cases hlt : n < d.waits.length
    · obtain ⟨x, hx⟩ : ∃ x, d.waits.getD n (0, ⟨#[]⟩) = x := ⟨_, rfl⟩
      obtain ⟨b1, b2, ⟨gw, cw, hv, e2, e3, p3⟩, e4, g4, z4⟩ := hk.wait hlt hx
      obtain ⟨rfl, rfl⟩ : ao = some ⟨gw, 0, none⟩ ∧ c = cw := by simpa using hv
      clear hv
      rw [crk_cons hlt hx] at hc
      have hbt := bit_test m n hm
      have hA := (hk.alloc (.cells #[.int .i64 (x.1 : Int), .string x.2] TR)).drew
      have l0 : (wr.alloc (.cells #[.int .i64 (x.1 : Int), .string x.2] TR)).drew.cell? ⟨wr.heap.size, 0, none⟩ = some (.int .i64 (x.1 : Int)) := by simp
      have l1 : (wr.alloc (.cells #[.int .i64 (x.1 : Int), .string x.2] TR)).drew.cell? ⟨wr.heap.size, 1, none⟩ = some (.string x.2) := by simp
      obtain ⟨a0, _, _, _, _, _, _⟩ := hA.facts
      obtain ⟨_, _, _, a4, k4, _⟩ := hA.wait hlt hx
      cases hb : bitK m n with
      | true =>
        rw [hb, if_pos rfl] at hc
        obtain ⟨h30, h31⟩ : n < 30 ∧ m.testBit n = true := by simpa [bitK] using hb
        rw [h31] at hbt
        have HK := Lib.hid ((hk.set x.1 b2).alloc (.cells #[.int .i64 (x.1 : Int), .string x.2] TR)).drew
        have HC := Lib.hid hc
        clear hx hk hA hb hc h31 e4 g4
        go_wp2
        refine region_tail 9 (by kernel_rfl) (by kernel_rfl) fun W hW => ?_
        rw [← hW] at a0 a4 k4 l0 l1
        have HW := Lib.hid hW
        clear hW
        simp only [List.take_succ_cons, List.take_zero, List.drop_succ_cons, List.drop_zero]
        repeat still_step
        refine wpStill_nil ?_
        have hW := HW.out
        subst hW
        go_wp2
        go_round
        case rel => exact ⟨n + 1, lost, _, by omega, rfl, by go_num, HC.out, HK.out⟩
        case measure => simp [intOf]; omega
      | false =>
        rw [hb, if_neg (by decide)] at hc
        cases lost with
        | true =>
          rw [if_pos rfl] at hc
          have HK := Lib.hid (hk.alloc (.cells #[.int .i64 (x.1 : Int), .string x.2] TR))
          have HC := Lib.hid hc
          by_cases h30 : n < 30
          · have h31 : m.testBit n = false := by simpa [bitK, h30] using hb
            rw [h31] at hbt
            clear hx hk hA hb hc h31 e4 g4 a0 a4 k4 l0 l1
            go_wp2
            go_round
            case rel => exact ⟨n + 1, true, _, by omega, rfl, by go_num, HC.out, HK.out⟩
            case measure => simp [intOf]; omega
          · clear hx hk hA hb hc e4 g4 a0 a4 k4 l0 l1 hbt
            go_wp2
            go_round
            case rel => exact ⟨n + 1, true, _, by omega, rfl, by go_num, HC.out, HK.out⟩
            case measure => simp [intOf]; omega
        | false =>
          rw [if_neg (by decide)] at hc
          obtain ⟨Y, hY⟩ : ∃ Y, K.getD x.1 ⟨#[]⟩ = Y := ⟨_, rfl⟩
          rw [hY] at hc a4 z4
          have h31 : n < 30 → m.testBit n = false := fun h => by simpa [bitK, h] using hb
          have HK := Lib.hid (fun tt (h : tt ≤ 64) => ((hk.set x.1 (torn_sz (t := tt) b2 z4 h)).alloc (.cells #[.int .i64 (x.1 : Int), .string x.2] TR)).drew)
          by_cases t64 : t ≤ 64
          · obtain rfl : t = tt := by omega
            clear htt
            have HC := Lib.hid hc
            have t65 : (t : Int) ≤ 64 := by omega
            have t66 : ¬ 9223372036854775807 < min t 64 + (64 - t) := by omega
            by_cases h30 : n < 30
            · rw [h31 h30] at hbt
              clear hx hk hA hb hc e4 g4 h31
              go_wp2
              refine region_tail 22 (by kernel_rfl) (by kernel_rfl) fun W hW => ?_
              rw [← hW] at a0 a4 k4 l0 l1
              have HW := Lib.hid hW
              clear hW
              simp only [List.take_succ_cons, List.take_zero, List.drop_succ_cons, List.drop_zero]
              repeat still_step
              refine wpStill_nil ?_
              have hW := HW.out
              subst hW
              go_wp2
              go_round
              case rel => exact ⟨n + 1, true, _, by omega, rfl, by go_num, HC.out, HK.out t t64⟩
              case measure => simp [intOf]; omega
            · clear hx hk hA hb hc e4 g4 h31 hbt
              go_wp2
              refine region_tail 22 (by kernel_rfl) (by kernel_rfl) fun W hW => ?_
              rw [← hW] at a0 a4 k4 l0 l1
              have HW := Lib.hid hW
              clear hW
              simp only [List.take_succ_cons, List.take_zero, List.drop_succ_cons, List.drop_zero]
              repeat still_step
              refine wpStill_nil ?_
              have hW := HW.out
              subst hW
              go_wp2
              go_round
              case rel => exact ⟨n + 1, true, _, by omega, rfl, by go_num, HC.out, HK.out t t64⟩
              case measure => simp [intOf]; omega
          · obtain rfl : tt = 64 := by omega
            clear htt
            have h64 : x.2.extract 0 64 ++ Y.extract 64 64 = x.2.extract 0 64 := by rw [ByteArray.extract_eq_empty_iff.2 (Nat.min_le_left _ _)]; exact ByteArray.append_empty
            have HK64 := HK.out 64 (Nat.le_refl _)
            rw [h64] at HK64 hc
            have HK := Lib.hid HK64
            have HC := Lib.hid hc
            have t65 : (64 : Int) < t := by omega
            by_cases h30 : n < 30
            · rw [h31 h30] at hbt
              clear hx hk hA hb hc e4 g4 h31 h64 HK64
              go_wp2
              refine region_tail 22 (by kernel_rfl) (by kernel_rfl) fun W hW => ?_
              rw [← hW] at a0 a4 k4 l0 l1
              have HW := Lib.hid hW
              clear hW
              simp only [List.take_succ_cons, List.take_zero, List.drop_succ_cons, List.drop_zero]
              repeat still_step
              refine wpStill_nil ?_
              have hW := HW.out
              subst hW
              go_wp2
              go_round
              case rel => exact ⟨n + 1, true, _, by omega, rfl, by go_num, HC.out, HK.out⟩
              case measure => simp [intOf]; omega
            · clear hx hk hA hb hc e4 g4 h31 h64 HK64 hbt
              go_wp2
              refine region_tail 22 (by kernel_rfl) (by kernel_rfl) fun W hW => ?_
              rw [← hW] at a0 a4 k4 l0 l1
              have HW := Lib.hid hW
              clear hW
              simp only [List.take_succ_cons, List.take_zero, List.drop_succ_cons, List.drop_zero]
              repeat still_step
              refine wpStill_nil ?_
              have hW := HW.out
              subst hW
              go_wp2
              go_round
              case rel => exact ⟨n + 1, true, _, by omega, rfl, by go_num, HC.out, HK.out⟩
              case measure => simp [intOf]; omega
    · obtain rfl : n = d.waits.length := by omega
      rw [List.drop_length, crk] at hc
      subst hc
      have HK := Lib.hid hk.done
      clear hk
      go_wp2
      go_ret
      exact ⟨rfl, HK.out⟩
theorem krcrash (p : Nat) (d : Dk) (m t : Int) (hm : m ≤ 9223372036854775807) (ht : t ≤ 9223372036854775807) : Does Try.prog (dkA TR p d) 17 #[.pointer (some ⟨p, 0, none⟩), .int .i64 m, .int .i64 t] (.returned (.int .i64 (d.crE m t))) (dkA TR p (d.cr m t)) := by
  cases hd : d.down with
  | true =>
    rw [show d.crE m t = 801 by unfold Dk.crE; rw [hd]; rfl, show d.cr m t = d by unfold Dk.cr; rw [hd]; rfl]
    intro w F h
    have hs := dkA_same h (Below.refl _ _)
    obtain ⟨g, cap, v, hi, rfl⟩ := h
    have c2 := hi.c2
    rw [hd] at c2
    clear hi
    go_enter Try.func17, Try.ntmps17
    go_wp2
    go_ret
    exact ⟨rfl, hs⟩
  | false =>
    by_cases hb : 0 ≤ m ∧ 0 ≤ t
    · obtain ⟨h0, h1⟩ := hb
      rw [show d.crE m t = 0 by unfold Dk.crE; rw [hd]; simp [h0, h1], show d.cr m t = ⟨crk m.toNat (min t.toNat 64) 0 false d.kept d.waits, [], true⟩ by unfold Dk.cr; rw [hd]; simp [h0, h1]]
      obtain ⟨m, rfl⟩ := Int.eq_ofNat_of_zero_le h0
      obtain ⟨t, rfl⟩ := Int.eq_ofNat_of_zero_le h1
      exact krcrash1 p d m t _ rfl (by omega) (by omega) hd
    · rw [show d.crE m t = 800 by unfold Dk.crE; rw [hd]; simp; omega, show d.cr m t = d by unfold Dk.cr; rw [hd]; simp; omega]
      intro w F h
      have hs := dkA_same h (Below.refl _ _)
      obtain ⟨g, cap, v, hi, rfl⟩ := h
      have c2 := hi.c2
      rw [hd] at c2
      clear hi
      by_cases h0 : m < 0
      · go_enter Try.func17, Try.ntmps17
        go_wp2
        go_ret
        exact ⟨rfl, hs⟩
      · have h1 : t < 0 := by omega
        go_enter Try.func17, Try.ntmps17
        go_wp2
        go_ret
        exact ⟨rfl, hs⟩
end Go.Proofs.Ytlnliphejjfdeaa
