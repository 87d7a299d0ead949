/- The walk of Pools: every call answers as the document's, the pool that was handed in stays. Conditions: the row's size. -/
import Derived.Test.YtamhjnjabjfgeaaPab
import Derived.Test.YtamhjnjabjfgeaaPap7
namespace Go.Proofs.Ytamhjnjabjfgeaa
open Go Go.RowKit

theorem At.one {A : Ass} {w0 w : World} (h : At w0 (A.star emp) w) : At w0 A w := by
  obtain ⟨_, ⟨F1, F2, rfl, h1, h2, _⟩, hB, hb⟩ := h
  exact ⟨F1, h1, fun k hk => hB k (by simp [hk]), hb⟩
/-- What a call made is laid in front. -/
theorem PaOut.front {w0 w w' : World} {C : Ass} (hC : C.Good) (hS : At w0 C w) {es : List Pa} {n : Int} {e : Ending} (h : PaOut w es n e w') : ∃ a2 c2, e = .returned (.tuple #[.slice a2 es.length c2, .int .i64 n]) ∧ At w0 ((rowE TPa 3 (.slice a2 es.length c2) es.length (paCells es)).star C) w' ∧ Below w.heap.size w w' := by
  obtain ⟨a2, c2, rfl, hA⟩ := h
  exact ⟨a2, c2, rfl, At.add hC hS (pa_made hA.one), hA.bel⟩
theorem PaOut.read {w w' : World} {es : List Pa} {n : Int} {e : Ending} (h : PaOut w es n e w') (hf : es.length ≤ 1000) : ∃ a2 c2, e = .returned (.tuple #[.slice a2 es.length c2, .int .i64 n]) ∧ PaIn [] w' a2 es.length es ∧ Below w.heap.size w w' := h.rd hf
theorem At.pas {w0 w : World} {C : Ass} {ao : Option Addr} {n cap : Nat} {es : List Pa} (h : At w0 ((rowE TPa 3 (.slice ao n cap) es.length (paCells es)).star C) w) (hn : n = es.length) (hf : es.length ≤ 1000) : PaIn [] w ao n es := by
  subst hn
  refine ⟨rfl, ?_, by omega⟩
  by_cases h0 : es.length = 0
  · exact .inl h0
  · obtain ⟨g, rfl, _, _⟩ := pa_big h (by omega)
    obtain ⟨h1, h2⟩ := paAt_row h
    exact .inr ⟨g, 0, rfl, h1, by simp, h2⟩
theorem pa_pre {w0 w : World} {C : Ass} {g c2 : Nat} {es : List Pa} (hS : At w0 ((rowE TPa 3 (.slice (some ⟨g, 0, none⟩) (es ++ paMks).length c2) (es ++ paMks).length (paCells (es ++ paMks))).star C) w) (hn : es.length ≤ 5864062014800) : PaIn [] w (some ⟨g, 0, none⟩) es.length es := by
  obtain ⟨hat, hg⟩ := paAt_row hS
  exact ⟨rfl, .inr ⟨g, 0, rfl, fun i u hu => hat i u (by
    rw [paCells_app, List.getElem?_append_left (by rcases Nat.lt_or_ge i (paCells es).length with c | c; exact c; rw [List.getElem?_eq_none c] at hu; cases hu)]
    exact hu), by simp, hg⟩, by omega⟩
theorem pa_same_yes {w : World} {ao bo : Option Addr} {n m c1 c2 : Nat} {es : List Pa} (h1 : PaIn [] w ao n es) (h2 : PaIn [] w bo m es) :
    Calls Try.prog 18 #[.slice ao n c1, .slice bo m c2] w fun e w' => e = .returned (.bool true) ∧ Below w.heap.size w w' :=
  (pa_same h1 h2).mono fun e w' ⟨a, b⟩ => ⟨by rw [a]; simp, b⟩
set_option maxRecDepth 100000 in
set_option maxHeartbeats 16000000 in
theorem papools_walk {w : World} {ao : Option Addr} {cap : Nat} {es : List Pa} (hes : PaIn [] w ao es.length es) (hc : ao = none → cap = 0) (hn : es.length ≤ 5864062014800) (k x t m : Int) :
    Calls Try.prog 3 #[.slice ao es.length cap, .int .i64 k, .int .i64 x, .int .i64 t, .int .i64 m] w fun e w' => e = .returned (.bool true) ∧ Below w.heap.size w w' := by
  have P := poolsOk
  have HN := Lib.hid hn
  have HL := Lib.hid (pa_lend (cap := cap) hes hc hn)
  have HI := Lib.hid (fun W (h : Below w.heap.size w W) => hes.on h)
  have l1 := Nat.le_trans (ptL_len es k x) (show 16 ≤ 1000 by decide)
  have l2 := Nat.le_trans (pfL_len es k t) (show 16 ≤ 1000 by decide)
  have l3 := Nat.le_trans (pnL_len m) (show 16 ≤ 1000 by decide)
  have HT := Lib.hid (fun (w1 : World) (a1 : Option Addr) (c1 : Nat) (h : PaIn [] w1 a1 es.length es) => P.take (cap := c1) h hn k x)
  have HU := Lib.hid (fun (w1 : World) (a1 : Option Addr) (c1 : Nat) (h : PaIn [] w1 a1 es.length es) => rtake (cap := c1) h hn k x)
  have HF := Lib.hid (fun (w1 : World) (a1 : Option Addr) (c1 : Nat) (h : PaIn [] w1 a1 es.length es) => P.free (cap := c1) h hn k t)
  have HG := Lib.hid (fun (w1 : World) (a1 : Option Addr) (c1 : Nat) (h : PaIn [] w1 a1 es.length es) => rfree (cap := c1) h hn k t)
  have HP := Lib.hid (fun (w1 : World) (a1 : Option Addr) (c1 : Nat) (h : PaIn [] w1 a1 es.length es) => P.lease (cap := c1) h x t)
  have HR := Lib.hid (fun (w1 : World) (a1 : Option Addr) (c1 : Nat) (h : PaIn [] w1 a1 es.length es) => rlease (cap := c1) h x t)
  have HM := Lib.hid (fun w1 => P.new m w1)
  have HO := Lib.hid (fun w1 => rnewpool m w1)
  generalize plX es x t = X at *
  generalize plE es x t = E at *
  generalize ptL es k x = T at *
  generalize ptE es k x = TE' at *
  generalize pfL es k t = U at *
  generalize pfE es k t = UE at *
  generalize pnL m = V at *
  generalize pnE m = VE at *
  have L1 := Lib.hid l1
  have L2 := Lib.hid l2
  have L3 := Lib.hid l3
  clear hes hc hn l1 l2 l3
  go_enter Try.func3, Try.ntmps3
  go_wp2_with (first
    | (go_at_call 8; (with_reducible refine HL.out.mono ?_); rintro e w1 ⟨g, c2, rfl, hc2, hb⟩; have hS := (At.add emp_good (At.none (Below.refl w.heap.size w)) hb).one; have hg := (rowE_good TPa 3 (.slice (some ⟨g, 0, none⟩) (es ++ paMks).length c2) (es ++ paMks).length (paCells (es ++ paMks))).star emp_good; clear hb)
    | (go_at_call 9; (with_reducible refine (HP.out _ _ _ (pa_pre hS HN.out)).mono ?_); rintro e w2 ⟨rfl, hb⟩; replace hS := hS.lay hg hb; clear hb)
    | (go_at_call 10; (with_reducible refine (HR.out _ _ _ (HI.out _ hS.bel)).mono ?_); rintro e w3 ⟨rfl, hb⟩; replace hS := hS.lay hg hb; clear hb)
    | (go_at_call 11; (with_reducible refine (HT.out _ _ _ (pa_pre hS HN.out)).mono ?_); rintro e w4 hq; obtain ⟨a4, c4, rfl, hS4, hb⟩ := hq.front hg hS; have hg4 := (rowE_good TPa 3 (.slice a4 T.length c4) T.length (paCells T)).star hg; clear hb hq)
    | (go_at_call 12; (with_reducible refine (HU.out _ _ _ (HI.out _ hS4.bel)).mono ?_); rintro e w5 hq; obtain ⟨a5, c5, rfl, hD, hb⟩ := hq.read L1.out; replace hS4 := hS4.lay hg4 hb; clear hb hq)
    | (go_at_call 13; (with_reducible refine (HF.out _ _ _ (pa_pre hS4.drop HN.out)).mono ?_); rintro e w6 hq; obtain ⟨a6, c6, rfl, hS6, hb⟩ := hq.front hg4 hS4; have hg6 := (rowE_good TPa 3 (.slice a6 U.length c6) U.length (paCells U)).star hg4; have hgI := (rowE_good TPa 3 (.slice a6 U.length c6) U.length (paCells U)).star hg; replace hD := hD.on hb; clear hb hq)
    | (go_at_call 14; (with_reducible refine (HG.out _ _ _ (HI.out _ hS6.bel)).mono ?_); rintro e w7 hq; obtain ⟨a7, c7, rfl, hK, hb⟩ := hq.read L2.out; replace hS6 := hS6.lay hg6 hb; replace hD := hD.on hb; clear hb hq)
    | (go_at_call 15; (with_reducible refine (HM.out _).mono ?_); rintro e w8 hq; obtain ⟨a8, c8, rfl, hO, hb⟩ := hq.read L3.out; replace hS6 := hS6.lay hg6 hb; replace hD := hD.on hb; replace hK := hK.on hb; clear hb hq)
    | (go_at_call 16; (with_reducible refine (HO.out _).mono ?_); rintro e w9 hq; obtain ⟨a9, c9, rfl, hQ, hb⟩ := hq.read L3.out; replace hS6 := hS6.lay hg6 hb; replace hD := hD.on hb; replace hK := hK.on hb; replace hO := hO.on hb; clear hb hq)
    | (go_at_call 17; (with_reducible refine (lnum _ _).mono ?_); rintro e wn ⟨rfl, rfl⟩)
    | (go_at_call 18; first
      | ((with_reducible refine (pa_same_yes (hS6.drop.pas rfl L1.out) hD).mono ?_); rintro e w10 ⟨rfl, hb⟩; replace hS6 := hS6.lay hg6 hb; replace hK := hK.on hb; replace hO := hO.on hb; replace hQ := hQ.on hb; clear hb)
      | ((with_reducible refine (pa_same_yes (hS6.pas rfl L2.out) hK).mono ?_); rintro e w10 ⟨rfl, hb⟩; replace hS6 := hS6.lay hg6 hb; replace hO := hO.on hb; replace hQ := hQ.on hb; clear hb)
      | ((with_reducible refine (pa_same_yes hO hQ).mono ?_); rintro e w10 ⟨rfl, hb⟩; replace hS6 := hS6.lay hg6 hb; clear hb))
    | (go_at_call 19; first
      | ((with_reducible refine (pa_spoil hgI (hS6.imp (Ass.imp.swap _ _ _)) L1.out).mono ?_); rintro e w11 ⟨rfl, hS7⟩)
      | ((with_reducible refine (pa_spoil hg hS7 L2.out).mono ?_); rintro e w12 ⟨rfl, hS8⟩))
    | (go_at_call 20; (with_reducible refine (pa_kept hS8 (HI.out _ hS8.bel) HN.out hc2).mono ?_); rintro e w13 ⟨rfl, hb⟩; have hB := pab hS8.bel hb; clear hb)
    | (go_at_call 21; (with_reducible refine (awake16 P _).mono ?_); rintro e w14 ⟨rfl, hb⟩; replace hB := pab hB hb))
  go_ret
  exact ⟨rfl, hB⟩
end Go.Proofs.Ytamhjnjabjfgeaa
