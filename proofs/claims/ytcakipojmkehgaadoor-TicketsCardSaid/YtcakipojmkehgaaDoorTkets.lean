/- The walk of Tickets: any book, epochs, bodies, tags: every call answers as the reference says. Condition: the handle of the type error. -/
import Derived.Test.YtcakipojmkehgaaDoorTkback
import Derived.Test.YtcakipojmkehgaaDoorTkr
import Derived.Test.YtcakipojmkehgaaDoorTkarg
import Derived.Test.YtcakipojmkehgaaDoorIArg
import Derived.Deep.RegionWith
namespace Go.Proofs.YtcakipojmkehgaaDoor
open Go Go.RowKit Go.Maps

theorem below_drew0 (w : World) : Below w.heap.size w w.drew := ⟨rfl, rfl, rfl, Nat.le_refl _, fun _ _ => rfl⟩
theorem drtput_to {p : Nat} {most : Int} {ts T : List ByteArray} {e X E : Int} {u g x s k : Int} (s0 : -9223372036854775808 ≤ e) (s1 : e ≤ 9223372036854775807) (h1 : tpX most ts e ⟨u, g, x, s, k⟩ = X) (h2 : tpE most ts e ⟨u, g, x, s, k⟩ = E) (h3 : tpT most ts e ⟨u, g, x, s, k⟩ = T) :
    Does Tryd.prog (refA p most ts) 11 #[.pointer (some ⟨p, 0, none⟩), .int .i64 e, .agg #[.int .i64 u, .int .i64 g, .int .i64 x, .int .i64 s, .int .i64 k]] (.returned (.tuple #[.int .i64 X, .int .i64 E])) (refA p most T) := by
  subst h1; subst h2; subst h3
  exact drtput p most ts e ⟨u, g, x, s, k⟩ s0 s1
theorem drtget_to {p : Nat} {most : Int} {ts : List ByteArray} {now keep tag E : Int} {u g x s k : Int} (hok : ∀ t ∈ ts, okT t = true) (h1 : tgX ts now keep tag = ⟨u, g, x, s, k⟩) (h2 : tgE ts now keep tag = E) :
    Does Tryd.prog (refA p most ts) 13 #[.pointer (some ⟨p, 0, none⟩), .int .i64 now, .int .i64 keep, .int .i64 tag] (.returned (.tuple #[.agg #[.int .i64 u, .int .i64 g, .int .i64 x, .int .i64 s, .int .i64 k], .int .i64 E])) (refA p most ts) :=
  (drtget p most ts now keep tag hok).to (by rw [h1, h2]; rfl) rfl
theorem LA.ok {w0 W : World} {p q : Nat} {m n : Int} {ts us : List ByteArray} {L : List (Nat × Array Value)} (h : LA w0 ((refA q m ts).star ((bookA p n us).star emp)) L W) : ∀ t ∈ us, okT t = true := by
  obtain ⟨F, ⟨F1, F2, rfl, _, ⟨F3, F4, rfl, h2, _, _⟩, _⟩, _⟩ := h
  exact bookA_ok h2
set_option maxRecDepth 100000 in
theorem tkets_bad (most now keep tag : Int) (ao bo co : Option Addr) (ca cb cc na nb nc : Nat) (w : World) (hg : Gd w) (h : most < 1 ∨ 65536 < most) :
    Calls Tryd.prog 3 #[.int .i64 most, .slice ao na ca, .slice bo nb cb, .slice co nc cc, .int .i64 now, .int .i64 keep, .int .i64 tag] w fun e w' => e = .returned (.bool true) ∧ Below w.heap.size w w' := by
  have Hb := Lib.hid (fun a n c w => twin_bad15 most a n c w h)
  have HG := Lib.hid hg
  clear h hg
  go_enter Tryd.func3, Tryd.ntmps3
  go_wp2_with (first
    | (go_at_call 8; (with_reducible refine (Hb.out _ _ _ _).mono ?_); rintro e w1 ⟨rfl, rfl⟩)
    | (go_at_call 9; (with_reducible refine (awake15 _ HG.out).mono ?_); rintro e w1 ⟨rfl, hb1⟩))
  go_ret
  exact ⟨rfl, hb1⟩
set_option maxRecDepth 100000 in
set_option maxHeartbeats 16000000 in
theorem tkets_ok (most now keep tag : Int) (ao bo co : Option Addr) (ca cb cc : Nat) (ss : List ByteArray) (zs : List Int) (cs : List Bd) (w : World) (hg : Gd w) (hSS : SArg w ao ss) (hZ : IArg w bo zs) (hC : BArg w co cs) (h1 : 1 ≤ most) (h2 : most ≤ 65536) :
    Calls Tryd.prog 3 #[.int .i64 most, .slice ao ss.length ca, .slice bo zs.length cb, .slice co cs.length cc, .int .i64 now, .int .i64 keep, .int .i64 tag] w fun e w' => e = .returned (.bool true) ∧ Below w.heap.size w w' := by
  have hfz := hZ.few
  have hfc := hC.few
  have HS := Lib.hid (fun w1 (hb : Below w.heap.size w w1) => twin_ok15 most ao ca ss w hSS h1 h2)
  have HT := Lib.hid (twin_ok15 most ao ca ss w hSS h1 h2)
  have HG := Lib.hid hg
  have HZ := Lib.hid hZ
  have HC := Lib.hid hC
  clear hZ hC hg hSS HS
  go_enter Tryd.func3, Tryd.ntmps3
  go_wp2_with (go_at_call 8; (with_reducible refine HT.out.mono ?_); rintro e w1 ⟨p, q, ts0, rfl, ht, hb⟩; have hS := LA.start (At.start hb); clear hb ht)
  go_loopw [17] (fun i wr => ∃ (k : Nat) (ts : List ByteArray), k ≤ cs.length ∧ i = .int .i64 k ∧ LA w (two p q most ts) [] wr) (fun i _ => cs.length - (intOf i).toNat)
  case atStart => exact ⟨0, ts0, Nat.zero_le _, rfl, hS⟩
  case round =>
    clear hS
    obtain ⟨k, ts, hk, rfl, hS⟩ := hrel
    have hOK := hS.ok
    by_cases hlt : k < cs.length ∧ k < zs.length ∧ k < 20
    · obtain ⟨hlt, hlz, h20⟩ := hlt
      obtain ⟨b1, off1, z, rfl, hz, ⟨z0, z1⟩, hcz⟩ := HZ.out.at hlz
      obtain ⟨b2, off2, u, g, x, s, kk, rfl, hbd, hcb⟩ := HC.out.at hlt
      obtain ⟨X, hX⟩ : ∃ X, tpX most ts z ⟨u, g, x, s, kk⟩ = X := ⟨_, rfl⟩
      obtain ⟨E, hE⟩ : ∃ E, tpE most ts z ⟨u, g, x, s, kk⟩ = E := ⟨_, rfl⟩
      obtain ⟨T, hT⟩ : ∃ T, tpT most ts z ⟨u, g, x, s, kk⟩ = T := ⟨_, rfl⟩
      have P1 := fun p => dtput_to (p := p) z0 z1 hX hE hT
      have P2 := fun p => drtput_to (p := p) z0 z1 hX hE hT
      obtain ⟨D, hD⟩ : ∃ D, tgX T now keep X = D := ⟨_, rfl⟩
      obtain ⟨E2, hE2⟩ : ∃ E2, tgE T now keep X = E2 := ⟨_, rfl⟩
      obtain ⟨d0, d1, d2, d3, d4⟩ := D
      have P3 := fun p => dtget_to (p := p) (most := most) hD hE2
      have P4 := fun p (hok : ∀ t ∈ T, okT t = true) => drtget_to (p := p) (most := most) hok hD hE2
      have H1 := Lib.hid P1
      have H2 := Lib.hid P2
      have H3 := Lib.hid P3
      have H4 := Lib.hid P4
      have Hcz := Lib.hid hcz
      have Hcb := Lib.hid hcb
      clear P1 P2 P3 P4 hX hE hT hD hE2 hcz hcb hz hbd hOK
      go_wp2
      replace hS := hS.step (two_good _ _ _ _) (below_drew0 _)
      have hc := Hcz.out _ hS.bel
      obtain ⟨c0, c1, c2, c3, c4⟩ := Hcb.out _ hS.bel
      first | (go_region_with (first
        | (go_at_call 10; (with_reducible refine (LA.op1 (H1.out _) (refA_good _ _ _) emp_good hS).mono ?_); rintro r w3 ⟨rfl, hS1⟩; replace hS := hS1; clear hS1))) | fail
      all_goals
        go_wp2
        replace hS := hS.step (rb_good _ _ _ _ _ _) (below_drew0 _)
        replace hc := Hcz.out _ hS.bel
        obtain ⟨k0, k1, k2, k3, k4⟩ := Hcb.out _ hS.bel
        first | (go_region_with (first
          | (go_at_call 11; (with_reducible refine (LA.op0 (H2.out _) (good1 _ _ _) hS).mono ?_); rintro r w4 ⟨rfl, hS1⟩; replace hS := hS1; clear hS1))) | fail
        all_goals
          go_wp2_with (first
            | (go_at_call 12; (with_reducible refine (LA.op1G (H3.out _) (refA_good _ _ _) emp_good HG.out hS).mono ?_); rintro r w5 ⟨rfl, hS1⟩; have hok := hS1.ok; replace hS := hS1.hold (two_good _ _ _ _) #[.int .i64 d0, .int .i64 d1, .int .i64 d2, .int .i64 d3, .int .i64 d4] 34; clear hS1)
            | (go_at_call 13; (with_reducible refine (LA.op0 (H4.out _ hok) (good1 _ _ _) hS).mono ?_); rintro r w6 ⟨rfl, hS1⟩; have et := hS1.b0.cell; have lt := hS1.b0.lt; replace hS := hS1.step (two_good _ _ _ _) (balloc2 _ (.cells #[.int .i64 d0, .int .i64 d1, .int .i64 d2, .int .i64 d3, .int .i64 d4] 34)); clear hS1)
            | (go_at_call 14; (with_reducible refine (lnum _ _).mono ?_); rintro r w9 ⟨rfl, rfl⟩))
          go_roundw
          case rel => exact ⟨k + 1, T, by omega, by go_num, hS.drop⟩
          case measure => simp [intOf]; omega
    · obtain ⟨F, hF⟩ : ∃ F, tgX ts now keep tag = F := ⟨_, rfl⟩
      obtain ⟨E3, hE3⟩ : ∃ E3, tgE ts now keep tag = E3 := ⟨_, rfl⟩
      obtain ⟨f0, f1, f2, f3, f4⟩ := F
      have P5 := fun p => dtget_to (p := p) (most := most) hF hE3
      have P6 := fun p (hok : ∀ t ∈ ts, okT t = true) => drtget_to (p := p) (most := most) hok hF hE3
      have H5 := Lib.hid P5
      have H6 := Lib.hid P6
      clear P5 P6 hF hE3 hOK
      by_cases hl : k < cs.length
      · by_cases hl2 : k < zs.length
        · have h20 : ¬ k < 20 := fun c => hlt ⟨hl, hl2, c⟩
          clear hlt
          go_wp2_with (first
            | (go_at_call 12; (with_reducible refine (LA.op1G (H5.out _) (refA_good _ _ _) emp_good HG.out hS).mono ?_); rintro r w5 ⟨rfl, hS1⟩; have hok := hS1.ok; replace hS := hS1.hold (two_good _ _ _ _) #[.int .i64 f0, .int .i64 f1, .int .i64 f2, .int .i64 f3, .int .i64 f4] 34; clear hS1)
            | (go_at_call 13; (with_reducible refine (LA.op0 (H6.out _ hok) (good1 _ _ _) hS).mono ?_); rintro r w6 ⟨rfl, hS1⟩; have et := hS1.b0.cell; have lt := hS1.b0.lt; replace hS := hS1.step (two_good _ _ _ _) (balloc2 _ (.cells #[.int .i64 f0, .int .i64 f1, .int .i64 f2, .int .i64 f3, .int .i64 f4] 34)); clear hS1)
            | (go_at_call 15; (with_reducible refine (asame15 _ _ _ _ hS.at).mono ?_); rintro r w7 ⟨rfl, hS1⟩; replace hS := LA.start hS1; clear hS1)
            | (go_at_call 9; (with_reducible refine (awake15 _ (hS.gd HG.out)).mono ?_); rintro r w8 ⟨rfl, hb8⟩; replace hS := hS.step (two_good _ _ _ _) hb8; clear hb8)
            | (go_at_call 14; (with_reducible refine (lnum _ _).mono ?_); rintro r w9 ⟨rfl, rfl⟩))
          go_ret
          exact ⟨rfl, hS.bel⟩
        · clear hlt
          go_wp2_with (first
            | (go_at_call 12; (with_reducible refine (LA.op1G (H5.out _) (refA_good _ _ _) emp_good HG.out hS).mono ?_); rintro r w5 ⟨rfl, hS1⟩; have hok := hS1.ok; replace hS := hS1.hold (two_good _ _ _ _) #[.int .i64 f0, .int .i64 f1, .int .i64 f2, .int .i64 f3, .int .i64 f4] 34; clear hS1)
            | (go_at_call 13; (with_reducible refine (LA.op0 (H6.out _ hok) (good1 _ _ _) hS).mono ?_); rintro r w6 ⟨rfl, hS1⟩; have et := hS1.b0.cell; have lt := hS1.b0.lt; replace hS := hS1.step (two_good _ _ _ _) (balloc2 _ (.cells #[.int .i64 f0, .int .i64 f1, .int .i64 f2, .int .i64 f3, .int .i64 f4] 34)); clear hS1)
            | (go_at_call 15; (with_reducible refine (asame15 _ _ _ _ hS.at).mono ?_); rintro r w7 ⟨rfl, hS1⟩; replace hS := LA.start hS1; clear hS1)
            | (go_at_call 9; (with_reducible refine (awake15 _ (hS.gd HG.out)).mono ?_); rintro r w8 ⟨rfl, hb8⟩; replace hS := hS.step (two_good _ _ _ _) hb8; clear hb8)
            | (go_at_call 14; (with_reducible refine (lnum _ _).mono ?_); rintro r w9 ⟨rfl, rfl⟩))
          go_ret
          exact ⟨rfl, hS.bel⟩
      · obtain rfl : k = cs.length := by omega
        clear hlt hl hk
        go_wp2_with (first
          | (go_at_call 12; (with_reducible refine (LA.op1G (H5.out _) (refA_good _ _ _) emp_good HG.out hS).mono ?_); rintro r w5 ⟨rfl, hS1⟩; have hok := hS1.ok; replace hS := hS1.hold (two_good _ _ _ _) #[.int .i64 f0, .int .i64 f1, .int .i64 f2, .int .i64 f3, .int .i64 f4] 34; clear hS1)
          | (go_at_call 13; (with_reducible refine (LA.op0 (H6.out _ hok) (good1 _ _ _) hS).mono ?_); rintro r w6 ⟨rfl, hS1⟩; have et := hS1.b0.cell; have lt := hS1.b0.lt; replace hS := hS1.step (two_good _ _ _ _) (balloc2 _ (.cells #[.int .i64 f0, .int .i64 f1, .int .i64 f2, .int .i64 f3, .int .i64 f4] 34)); clear hS1)
          | (go_at_call 15; (with_reducible refine (asame15 _ _ _ _ hS.at).mono ?_); rintro r w7 ⟨rfl, hS1⟩; replace hS := LA.start hS1; clear hS1)
          | (go_at_call 9; (with_reducible refine (awake15 _ (hS.gd HG.out)).mono ?_); rintro r w8 ⟨rfl, hb8⟩; replace hS := hS.step (two_good _ _ _ _) hb8; clear hb8)
          | (go_at_call 14; (with_reducible refine (lnum _ _).mono ?_); rintro r w9 ⟨rfl, rfl⟩))
        go_ret
        exact ⟨rfl, hS.bel⟩
theorem tkets_walk (most now keep tag : Int) (ao bo co : Option Addr) (ca cb cc : Nat) (ss : List ByteArray) (zs : List Int) (cs : List Bd) (w : World) (hg : Gd w) (hSS : SArg w ao ss) (hZ : IArg w bo zs) (hC : BArg w co cs) :
    Calls Tryd.prog 3 #[.int .i64 most, .slice ao ss.length ca, .slice bo zs.length cb, .slice co cs.length cc, .int .i64 now, .int .i64 keep, .int .i64 tag] w fun e w' => e = .returned (.bool true) ∧ Below w.heap.size w w' := by
  by_cases h : 1 ≤ most ∧ most ≤ 65536
  · exact tkets_ok most now keep tag ao bo co ca cb cc ss zs cs w hg hSS hZ hC h.1 h.2
  · exact tkets_bad most now keep tag ao bo co ca cb cc _ _ _ w hg (by omega)
end Go.Proofs.YtcakipojmkehgaaDoor
