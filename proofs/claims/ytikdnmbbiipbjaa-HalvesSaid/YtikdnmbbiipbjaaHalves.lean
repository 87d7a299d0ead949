/- The walk of Halves: every call answers as the document's, the row that was handed in stays. Conditions: the row's size. -/
import Derived.Test.YtikdnmbbiipbjaaHaaw
namespace Go.Proofs.Ytikdnmbbiipbjaa
open Go Go.RowKit

theorem ha_pre {w0 w : World} {C : Ass} {g c2 : Nat} {es : List Ha} (hS : At w0 ((rowE THa 5 (.slice (some ⟨g, 0, none⟩) (es ++ haMks).length c2) (es ++ haMks).length (haCells (es ++ haMks))).star C) w) (hn : es.length ≤ 3518437208878) : HaIn [] w (some ⟨g, 0, none⟩) es.length es := by
  obtain ⟨hat, hg⟩ := haAt_row hS
  exact ⟨rfl, .inr ⟨g, 0, rfl, fun i u hu => hat i u (by
    rw [haCells_app, List.getElem?_append_left (by rcases Nat.lt_or_ge i (haCells es).length with c | c; exact c; rw [List.getElem?_eq_none c] at hu; cases hu)]
    exact hu), by simp, hg⟩, by omega⟩
set_option maxRecDepth 100000 in
set_option maxHeartbeats 16000000 in
theorem halves_walk (P : HalvesOk) {w : World} {ao : Option Addr} {cap : Nat} {es : List Ha} (hes : HaIn [] w ao es.length es) (hc : ao = none → cap = 0) (hn : es.length ≤ 3518437208878) (f0 f1 f2 f3 f4 m t x : Int) :
    Calls Try.prog 3 #[.slice ao es.length cap, .agg #[.int .i64 f0, .int .i64 f1, .int .i64 f2, .int .i64 f3, .int .i64 f4], .int .i64 m, .int .i64 t, .int .i64 x] w fun e w' => e = .returned (.bool true) ∧ Below w.heap.size w w' := by
  have hb0 := habox w #[.int .i64 f0, .int .i64 f1, .int .i64 f2, .int .i64 f3, .int .i64 f4]
  have kh := Blk.new w #[.int .i64 f0, .int .i64 f1, .int .i64 f2, .int .i64 f3, .int .i64 f4] THa
  have hes := hes.on hb0
  have HB := Lib.hid hb0
  have HN := Lib.hid hn
  have HL := Lib.hid (ha_lend (cap := cap) hes hc hn)
  generalize hWW : w.alloc (.cells #[.int .i64 f0, .int .i64 f1, .int .i64 f2, .int .i64 f3, .int .i64 f4] THa) = wB at *
  have hwB := hWW.symm
  have HK := Lib.hid (fun W (h : Below wB.heap.size wB W) => (kh.step h).cell)
  have HI := Lib.hid (fun W (h : Below wB.heap.size wB W) => hes.on h)
  have L1 := Lib.hid (show (haAL es ⟨f0, f1, f2, f3, f4⟩ m t).length ≤ 3518437208883 from by have := haAL_len es ⟨f0, f1, f2, f3, f4⟩ m t; omega)
  have L2 := Lib.hid (show (haTL es x t).length ≤ 3518437208883 from by have := haTL_len es x t; omega)
  have L3 := Lib.hid (show (haLeft es t).length ≤ 3518437208883 from by have := haLeft_len es t; omega)
  have HA := Lib.hid (fun (w1 : World) (a1 : Option Addr) (c1 : Nat) (h : HaIn [] w1 a1 es.length es) => P.add (cap := c1) h hn f0 f1 f2 f3 f4 m t)
  have HC := Lib.hid (fun (w1 : World) (a1 : Option Addr) (c1 : Nat) (h : HaIn [] w1 a1 es.length es) => raddhalf (cap := c1) h hn f0 f1 f2 f3 f4 m t)
  have HT := Lib.hid (fun (w1 : World) (a1 : Option Addr) (c1 : Nat) (h : HaIn [] w1 a1 es.length es) => P.take (cap := c1) h hn x t)
  have HU := Lib.hid (fun (w1 : World) (a1 : Option Addr) (c1 : Nat) (h : HaIn [] w1 a1 es.length es) => rtakehalf (cap := c1) h hn x t)
  have HE := Lib.hid (fun (w1 : World) (a1 : Option Addr) (c1 : Nat) (h : HaIn [] w1 a1 es.length es) => P.expire (cap := c1) h hn t)
  have HF := Lib.hid (fun (w1 : World) (a1 : Option Addr) (c1 : Nat) (h : HaIn [] w1 a1 es.length es) => rexpire (cap := c1) h hn t)
  generalize haAL es ⟨f0, f1, f2, f3, f4⟩ m t = U at *
  generalize haAE es ⟨f0, f1, f2, f3, f4⟩ m t = UE at *
  generalize haTX es x t = X at *
  generalize haTL es x t = T at *
  generalize haTE es x t = TE' at *
  generalize haLeft es t = V at *
  clear hes hc hn hb0 kh
  subst hwB
  go_enter Try.func3, Try.ntmps3
  go_wp2_with (first
    | (go_at_call 7; (with_reducible refine HL.out.mono ?_); rintro e w1 ⟨g, c2, rfl, hc2, hb⟩; have hS := (At.add emp_good (At.none (Below.refl (w.alloc (.cells #[.int .i64 f0, .int .i64 f1, .int .i64 f2, .int .i64 f3, .int .i64 f4] THa)).heap.size (w.alloc (.cells #[.int .i64 f0, .int .i64 f1, .int .i64 f2, .int .i64 f3, .int .i64 f4] THa)))) hb).oneA; have hg := (rowE_good THa 5 (.slice (some ⟨g, 0, none⟩) (es ++ haMks).length c2) (es ++ haMks).length (haCells (es ++ haMks))).star emp_good; have eh := HK.out _ hS.bel; clear hb)
    | (go_at_call 8; (with_reducible refine (HA.out _ _ _ (ha_pre hS HN.out)).mono ?_); rintro e w2 ⟨a2, b2, rfl, hq⟩; have hS2 := HaNew.front hg hS hq; have hg2 := (rowE_good THa 5 (.slice a2 U.length b2) U.length (haCells U)).star hg; replace eh := HK.out _ hS2.bel; clear hq)
    | (go_at_call 9; (with_reducible refine (HC.out _ _ _ (HI.out _ hS2.bel)).mono ?_); rintro e w3 ⟨a3, b3, rfl, hq⟩; have hD := HaNew.in hq L1.out; replace hS2 := hS2.lay hg2 hq.bel; clear hq eh)
    | (go_at_call 10; (with_reducible refine (HT.out _ _ _ (ha_pre hS2.drop HN.out)).mono ?_); rintro e w4 ⟨a4, b4, rfl, hq⟩; have hS4 := HaNew.front hg2 hS2 hq; have hg4 := (rowE_good THa 5 (.slice a4 T.length b4) T.length (haCells T)).star hg2; replace hS4 := hS4.lay hg4 (habox w4 (haB X)); replace hD := (hD.on hq.bel).on (habox w4 (haB X)); have kx := Blk.new w4 (haB X) THa; clear hq)
    | (go_at_call 11; (with_reducible refine (HU.out _ _ _ (HI.out _ hS4.bel)).mono ?_); rintro e w5 ⟨a5, b5, rfl, hq⟩; have hG := (HaNew.in hq L2.out).on (habox w5 (haB X)); replace hD := (hD.on hq.bel).on (habox w5 (haB X)); replace hS4 := (hS4.lay hg4 hq.bel).lay hg4 (habox w5 (haB X)); replace kx := (kx.step hq.bel).step (habox w5 (haB X)); have ky := Blk.new w5 (haB X) THa; clear hq)
    | (go_at_call 12; (with_reducible refine (HE.out _ _ _ (ha_pre hS4.drop.drop HN.out)).mono ?_); rintro e w6 ⟨a6, b6, rfl, hq⟩; have hS6 := HaNew.front hg4 hS4 hq; have hg6 := (rowE_good THa 5 (.slice a6 V.length b6) V.length (haCells V)).star hg4; replace hD := hD.on hq.bel; replace hG := hG.on hq.bel; replace kx := kx.step hq.bel; replace ky := ky.step hq.bel; clear hq)
    | (go_at_call 15; (with_reducible refine (HF.out _ _ _ (HI.out _ hS6.bel)).mono ?_); rintro e w7 ⟨a7, b7, rfl, hq⟩; have hO := HaNew.in hq L3.out; replace hS6 := hS6.lay hg6 hq.bel; clear hq)
    | (go_at_call 14; (with_reducible refine (lnum _ _).mono ?_); rintro e wn ⟨rfl, rfl⟩)
    | (go_at_call 13; first
      | ((with_reducible refine (ha_yes (hS6.drop.drop.haIn rfl L1.out) hD).mono ?_); rintro e w10 ⟨rfl, hb⟩; replace hS6 := hS6.lay hg6 hb; replace hG := hG.on hb; replace kx := kx.step hb; replace ky := ky.step hb; have ex := kx.cell; have ey := ky.cell; clear hb hD)
      | ((with_reducible refine (ha_yes (hS6.drop.haIn rfl L2.out) hG).mono ?_); rintro e w10 ⟨rfl, hb⟩; replace hS6 := hS6.lay hg6 hb; clear hb hG kx ky ex ey)
      | ((with_reducible refine (ha_yes (hS6.haIn rfl L3.out) hO).mono ?_); rintro e w10 ⟨rfl, hb⟩; replace hS6 := hS6.lay hg6 hb; clear hb hO))
    | (go_at_call 16; first
      | ((with_reducible refine (ha_spoil ((rowE_good THa 5 (.slice a6 V.length b6) V.length (haCells V)).star ((rowE_good THa 5 (.slice a4 T.length b4) T.length (haCells T)).star hg)) (hS6.imp (Ass.imp.up2 _ _ _ _)) L1.out).mono ?_); rintro e w11 ⟨rfl, hS7⟩)
      | ((with_reducible refine (ha_spoil ((rowE_good THa 5 (.slice a6 V.length b6) V.length (haCells V)).star hg) (hS7.imp (Ass.imp.swap _ _ _)) L2.out).mono ?_); rintro e w12 ⟨rfl, hS8⟩)
      | ((with_reducible refine (ha_spoil hg hS8 L3.out).mono ?_); rintro e w13 ⟨rfl, hS9⟩))
    | (go_at_call 17; (with_reducible refine (ha_kept hS9 (HI.out _ hS9.bel) HN.out hc2).mono ?_); rintro e w14 ⟨rfl, hb⟩; have hB := hab hS9.bel hb; clear hb)
    | (go_at_call 18; (with_reducible refine (awake18 P _).mono ?_); rintro e w15 ⟨rfl, hb⟩; replace hB := hab hB hb))
  go_ret
  exact ⟨rfl, hab HB.out hB⟩
end Go.Proofs.Ytikdnmbbiipbjaa
