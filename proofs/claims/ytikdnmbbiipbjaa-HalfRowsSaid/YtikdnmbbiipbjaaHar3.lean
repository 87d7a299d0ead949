/- The reference's TakeHalf: what it answers. Condition: the row's size. -/
import Derived.Test.YtikdnmbbiipbjaaHar2
namespace Go.Proofs.Ytikdnmbbiipbjaa
open Go Go.RowKit

abbrev TwoBox : Array Value := #[.int .i64 0, .int .i64 0, .int .i64 0, .int .i64 0, .int .i64 0]
/-- A row without one of its elements: two rows laid behind an empty one. -/
theorem ha_two {w wr : World} {p b c2 k : Nat} {all : List Ha} (hsm : all.length ≤ 3518437208878) (hlt : k < all.length)
    (hT : At w ((rowE THa 5 (.slice (some ⟨b, 0, none⟩) all.length c2) all.length (haCells all)).star ((ownA p TwoBox THa).star emp)) wr) :
    ∃ a4 c4 w4, (Builtin.append_ #[22, 22] 22 #[.slice (some ⟨wr.heap.size, 0, none⟩) 0 0, .slice (some ⟨b, 0, none⟩) k c2]).run Try.prog (wr.alloc (.cells #[] THa)) = .ok (.slice a4 k c4) w4 ∧
      ∀ o2, (o2 = (k + 1) * 5 ∨ k + 1 = all.length) → ∃ a5 c5 w5, (Builtin.append_ #[22, 22] 22 #[.slice a4 k c4, .slice (some ⟨b, o2, none⟩) (all.length - (k + 1)) (c2 - (k + 1))]).run Try.prog w4 = .ok (.slice a5 (k + (all.length - (k + 1))) c5) w5 ∧
        HaAt w5 b 0 all ∧ At w ((ownA p TwoBox THa).star ((rowE THa 5 (.slice a5 (all.take k ++ all.drop (k + 1)).length c5) (all.take k ++ all.drop (k + 1)).length (haCells (all.take k ++ all.drop (k + 1)))).star emp)) w5 ∧ k + (all.length - (k + 1)) = (all.take k ++ all.drop (k + 1)).length := by
  have hRg : ((ownA p TwoBox THa).star emp).Good := (ownA_good _ _ _).star emp_good
  obtain ⟨hat, _⟩ := haAt_row hT
  have hTg := (rowE_good THa 5 (.slice (some ⟨b, 0, none⟩) all.length c2) all.length (haCells all)).star hRg
  have hC0 := At.haEmpty hTg hT
  have hatA : HaAt (wr.alloc (.cells #[] THa)) b 0 all := hat.same (((Below.refl wr.heap.size wr).alloc (Nat.le_refl _) _).block b (haAt_row hT).2)
  have hlk : k = (all.take k).length := by rw [List.length_take]; omega
  obtain ⟨a4, c4, w4, hrun, hS4⟩ := ha_grow (c := c2) hTg hC0 (hatA.take k) hlk (by rw [List.length_nil, Nat.zero_add]; omega) 22
  rw [Nat.zero_add] at hrun hS4
  rw [List.nil_append] at hS4
  refine ⟨a4, c4, w4, hrun, fun o2 ho2 => ?_⟩
  have hd4 := (haAt_row hS4.drop).1
  have hat4 : HaAt w4 b o2 (all.drop (k + 1)) := by
    rcases ho2 with rfl | e
    · have h := hd4.drop (k := k + 1) (by omega)
      rwa [Nat.zero_add] at h
    · rw [List.drop_of_length_le (by omega)]
      intro i u hu
      simp [haCells] at hu
  have hlen2 : k + (all.length - (k + 1)) = (all.take k ++ all.drop (k + 1)).length := by rw [List.length_append, List.length_drop, ← hlk]
  obtain ⟨a5, c5, w5, hrun2, hS5⟩ := ha_grow (c := c2 - (k + 1)) hTg hS4 hat4 (k := all.length - (k + 1)) (by rw [List.length_drop]) (by rw [← hlk]; omega) 22
  refine ⟨a5, c5, w5, hrun2, (haAt_row hS5.drop).1, ?_, hlen2⟩
  rw [hlen2] at hS5
  have h := hS5.imp (Ass.imp.up2 _ _ _ _)
  exact ((h.imp ((Ass.imp.swap _ _ _).under _)).imp (Ass.imp.swap _ _ _)).drop
set_option maxRecDepth 100000 in
set_option maxHeartbeats 16000000 in
theorem rtakehalf' {w : World} {ao : Option Addr} {n cap : Nat} {es : List Ha} (hes : HaIn [] w ao n es) (hn : n ≤ 3518437208878) (x t : Int) (X : Ha) (L : List Ha) (E : Int) (hhit : ∀ k, haI x (haLeft es t) 0 = some k → X = (haLeft es t).getD k Ha.none ∧ L = (haLeft es t).take k ++ (haLeft es t).drop (k + 1) ∧ E = 0) (hmiss : haI x (haLeft es t) 0 = Option.none → X = Ha.none ∧ L = [] ∧ E = 1802) :
    Calls Try.prog 11 #[.slice ao n cap, .int .i64 x, .int .i64 t] w (HaTri w X L E) := by
  have hb0 := habox w TwoBox
  have hlim := haLeft_len es t
  have hlen := hes.len
  have HX := Lib.hid (rexpire (cap := cap) (hes.on hb0) hn t)
  have hR : At w ((ownA w.heap.size TwoBox THa).star emp) (w.alloc (.cells TwoBox THa)) := At.hold emp_good (At.none (Below.refl _ _)) _ _
  have hRg : ((ownA w.heap.size TwoBox THa).star emp).Good := (ownA_good _ _ _).star emp_good
  have hsm : (haLeft es t).length ≤ 3518437208878 := by omega
  clear hes hlim hlen
  generalize haLeft es t = all at *
  have HHIT := Lib.hid hhit
  have HMISS := Lib.hid hmiss
  clear hhit hmiss
  go_enter Try.func11, Try.ntmps11
  go_wp2_with (go_at_call 15; (with_reducible refine HX.out.mono ?_); rintro e w1 ⟨a2, c2, rfl, hS⟩; have hT := hS.front hRg hR; clear hS hR)
  go_loopw [10] (fun i wr => ∃ k : Nat, k ≤ all.length ∧ i = .int .i64 (k : Int) ∧ Aside (haI x (all.take k) 0 = Option.none ∧ At w ((rowE THa 5 (.slice a2 all.length c2) all.length (haCells all)).star ((ownA w.heap.size TwoBox THa).star emp)) wr)) (fun i _ => all.length - (intOf i).toNat)
  case atStart => exact ⟨0, Nat.zero_le _, rfl, (show Aside _ from ⟨rfl, hT⟩)⟩
  case round =>
    clear hT
    obtain ⟨k, hk, rfl, hall⟩ := hrel
    obtain ⟨hno, hT⟩ := hall.out
    clear hall
    by_cases hlt : k < all.length
    · have hI := hT.haIn rfl (by omega)
      obtain ⟨b, off, a, rfl, ha, hcell⟩ := hI.elem hlt
      obtain ⟨g, e, _, hcap⟩ := ha_big hT (by omega)
      obtain ⟨rfl, rfl⟩ : b = g ∧ off = 0 := by simpa using e
      obtain ⟨y0, y1, y2, y3, y4⟩ := hcell _ (Below.refl _ _)
      simp only [Nat.zero_add] at y0 y1 y2 y3 y4
      clear hI hcell e
      have hltI : (k : Int) < (all.length : Int) := by omega
      by_cases hx : a.h = x
      · have hf := haI_hit hlt ha hno hx
        obtain ⟨hX, hL, hE⟩ := HHIT.out _ hf
        rw [ha] at hX
        clear hf hno HHIT HMISS HX
        subst hE hX hL
        obtain ⟨a4, c4, w4, hrun, hrest⟩ := ha_two hsm hlt hT
        have hcI : (all.length : Int) ≤ (c2 : Int) := by omega
        have hwk : IntKind.i64.wrap ((k : Int) + 1) = (k : Int) + 1 := by rw [IntKind.wrap_i64]; omega
        have hk1 : (k : Int) + 1 ≤ (all.length : Int) := by omega
        clear hT
        by_cases hne : c2 = k + 1
        · obtain ⟨a5, c5, w5, hrun2, hat5, hS5, hlen2⟩ := hrest 0 (.inr (by omega))
          obtain ⟨z0, z1, z2, z3, z4⟩ := hat5.elem hlt
          simp only [Nat.zero_add] at z0 z1 z2 z3 z4
          rw [ha] at z0 z1 z2 z3 z4
          obtain ⟨k1, k2, -⟩ := hS5.own
          clear hat5 hrest ha
          obtain ⟨f0, f1, f2, f3, f4⟩ := X
          dsimp only at y0 y1 y2 y3 y4 z0 z1 z2 z3 z4 hx
          subst hx
          have g5 := (rowE_good THa 5 (.slice a5 (all.take k ++ all.drop (k + 1)).length c5) (all.take k ++ all.drop (k + 1)).length (haCells (all.take k ++ all.drop (k + 1)))).star emp_good
          have h2 := ((((hS5.poke g5 0 (.int .i64 f0)).poke g5 1 (.int .i64 f1)).poke g5 2 (.int .i64 f2)).poke g5 3 (.int .i64 f3)).poke g5 4 (.int .i64 f4)
          have H4 := Lib.hid h2.drop
          have HLN := Lib.hid hlen2
          clear hS5 h2 hlen2 g5
          go_wp2_with (at_builtin; first
            | refine ha_app rfl _ _ rfl rfl rfl hrun ?_
            | refine ha_app rfl _ _ rfl rfl rfl hrun2 ?_)
          refine bodyPost_ret (v := .tuple #[.agg #[.int .i64 f0, .int .i64 f1, .int .i64 f2, .int .i64 f3, .int .i64 f4], .slice a5 (k + (all.length - (k + 1))) c5, .int .i64 0]) (by simp [*, results, Try.results11, go_sem]) rfl ?_
          refine ⟨a5, c5, by rw [HLN.out], ?_⟩
          exact H4.out
        · obtain ⟨a5, c5, w5, hrun2, hat5, hS5, hlen2⟩ := hrest _ (.inl rfl)
          obtain ⟨z0, z1, z2, z3, z4⟩ := hat5.elem hlt
          simp only [Nat.zero_add] at z0 z1 z2 z3 z4
          rw [ha] at z0 z1 z2 z3 z4
          obtain ⟨k1, k2, -⟩ := hS5.own
          clear hat5 hrest ha
          obtain ⟨f0, f1, f2, f3, f4⟩ := X
          dsimp only at y0 y1 y2 y3 y4 z0 z1 z2 z3 z4 hx
          subst hx
          have g5 := (rowE_good THa 5 (.slice a5 (all.take k ++ all.drop (k + 1)).length c5) (all.take k ++ all.drop (k + 1)).length (haCells (all.take k ++ all.drop (k + 1)))).star emp_good
          have h2 := ((((hS5.poke g5 0 (.int .i64 f0)).poke g5 1 (.int .i64 f1)).poke g5 2 (.int .i64 f2)).poke g5 3 (.int .i64 f3)).poke g5 4 (.int .i64 f4)
          have H4 := Lib.hid h2.drop
          have HLN := Lib.hid hlen2
          clear hS5 h2 hlen2 g5
          go_wp2_with (at_builtin; first
            | refine ha_app rfl _ _ rfl rfl rfl hrun ?_
            | refine ha_app rfl _ _ rfl rfl rfl hrun2 ?_)
          refine bodyPost_ret (v := .tuple #[.agg #[.int .i64 f0, .int .i64 f1, .int .i64 f2, .int .i64 f3, .int .i64 f4], .slice a5 (k + (all.length - (k + 1))) c5, .int .i64 0]) (by simp [*, results, Try.results11, go_sem]) rfl ?_
          refine ⟨a5, c5, by rw [HLN.out], ?_⟩
          exact H4.out
      · have hf := haI_none_take hlt ha hno hx
        have HF := Lib.hid hf
        have HT := Lib.hid hT
        clear hf hno hT ha
        go_wp2
        go_roundw
        case rel => exact ⟨k + 1, by omega, by go_num, (show Aside _ from ⟨HF.out, HT.out⟩)⟩
        case measure => simp [intOf]; omega
    · obtain rfl : k = all.length := by omega
      have hltI : ¬ (all.length : Int) < (all.length : Int) := by omega
      rw [List.take_length] at hno
      obtain ⟨hX, hL, hE⟩ := HMISS.out hno
      subst hX hL hE
      obtain ⟨k1, k2, -⟩ := hT.drop.own
      have HB := Lib.hid hT.bel
      have hle : w.heap.size ≤ w.heap.size := Nat.le_refl _
      clear hT hno HHIT HMISS HX
      go_wp2
      refine bodyPost_ret (v := .tuple #[.agg #[.int .i64 0, .int .i64 0, .int .i64 0, .int .i64 0, .int .i64 0], .slice none 0 0, .int .i64 1802]) (by simp [*, results, Try.results11, go_sem]) rfl ⟨none, 0, rfl, HaNew.no ?_⟩
      repeat (with_reducible refine Below.setCell ?_ (by simp) _)
      exact HB.out
theorem rtakehalf {w : World} {ao : Option Addr} {n cap : Nat} {es : List Ha} (hes : HaIn [] w ao n es) (hn : n ≤ 3518437208878) (x t : Int) :
    Calls Try.prog 11 #[.slice ao n cap, .int .i64 x, .int .i64 t] w (HaTri w (haTX es x t) (haTL es x t) (haTE es x t)) :=
  rtakehalf' hes hn x t _ _ _ (fun k h => by unfold haTX haTL haTE; rw [h]; exact ⟨rfl, rfl, rfl⟩) (fun h => by unfold haTX haTL haTE; rw [h]; exact ⟨rfl, rfl, rfl⟩)
end Go.Proofs.Ytikdnmbbiipbjaa
