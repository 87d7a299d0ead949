/- Put together: Tws11, Tw11. Conditions: each theorem's own. -/
import Derived.Test.YtbfpfmidjdonjaaGreatDoorBbk
namespace Go.Proofs.YtbfpfmidjdonjaaGreatDoor
open Go Go.RowKit Go.Maps

set_option maxHeartbeats 2000000 in
theorem bsame11 (p q : Nat) (most : Int) (ts : List ByteArray) (w : World) (F G : List Nat) (h : bookA p most ts w F) (g : refA q most ts w G) :
    Calls Tryz.prog 33 #[.pointer (some ⟨p, 0, none⟩), .pointer (some ⟨q, 0, none⟩)] w fun e w' => e = .returned (.bool true) ∧ Below w.heap.size w w' := by
  have hlen : ∀ w', Below w.heap.size w w' → Calls Tryz.prog 37 #[.pointer (some ⟨p, 0, none⟩)] w' fun e w'' => e = .returned (.int .i64 ((ts.length : Nat) : Int)) ∧ w'' = w' := fun w' hb =>
    (blen p most ts w' F ((bookA_good p most ts).below h hb)).mono fun e w'' ⟨a, b⟩ => ⟨a, b.symm⟩
  have hterm : ∀ w' (k : Nat), k < ts.length → Below w.heap.size w w' → Calls Tryz.prog 38 #[.pointer (some ⟨p, 0, none⟩), .int .i64 ((k : Nat) : Int)] w' fun e w'' => e = .returned (.tuple #[.string (ts.getD k ⟨#[]⟩), .int .i64 0]) ∧ Below w.heap.size w w'' := fun w' k hk hb => by
    have := bterm p most ts ((k : Nat) : Int) w' F ((bookA_good p most ts).below h hb)
    rw [tmS_in hk, tmE_in hk] at this
    exact this.mono fun e w'' ⟨a, b⟩ => ⟨a, hb.trans (b.mono hb.size)⟩
  obtain ⟨v, hb, hG⟩ := g
  have hcell : ∀ w', Below w.heap.size w w' → w'.cell? ⟨q, 1, none⟩ = some v := fun w' hbl => (hb.below hbl).c1
  have hrow : ∀ (k : Nat) w', k < ts.length → Below w.heap.size w w' → ∃ g cap, v = .slice (some ⟨g, 0, none⟩) ts.length cap ∧ w'.cell? ⟨g, k, none⟩ = some (.string (ts.getD k ⟨#[]⟩)) := fun k w' hk hbl => rowS_some (hb.below hbl).row hk
  have hl := hb.lm
  have h2 := hb.m2
  have c1 := hb.c1
  obtain ⟨ao, cap, rfl⟩ := rowS_shape hb.row
  have Hlen := Lib.hid hlen
  have Hterm := Lib.hid hterm
  have Hcell := Lib.hid hcell
  have Hrow := Lib.hid hrow
  clear hb hlen hterm hcell hrow h hG
  go_enter Tryz.func33, Tryz.ntmps33
  go_wp2
  go_quiet ((go_at_call 37; exact Calls.quiet_of_same (Hlen.out _ (below_drewN _ _))))
  go_wp2
  go_loopw [5] (fun i wr => ∃ k : Nat, k ≤ ts.length ∧ i = .int .i64 k ∧ Below w.heap.size w wr) (fun i _ => ts.length - (intOf i).toNat)
  case atStart => exact ⟨ts.length - 40, by omega, congrArg (Value.int .i64) (by omega), below_drewN _ _⟩
  case round =>
    obtain ⟨k, hk, rfl, hbel⟩ := hrel
    have d1 := Hcell.out _ hbel
    by_cases hlt : k < ts.length
    · obtain ⟨g, cap', hv, hc⟩ := Hrow.out k _ hlt hbel
      obtain ⟨rfl, rfl⟩ : ao = some ⟨g, 0, none⟩ ∧ cap = cap' := by simpa using hv
      obtain ⟨s, hs⟩ : ∃ s, ts.getD k ⟨#[]⟩ = s := ⟨_, rfl⟩
      have hT := Hterm.out _ k hlt hbel
      rw [hs] at hT hc
      have hcw : ∀ W, Below w.heap.size w W → W.cell? ⟨g, k, none⟩ = some (.string s) := fun W hW => by
        obtain ⟨g2, cap2, hv2, hc2⟩ := Hrow.out k W hlt hW
        have e : g = g2 := by simp at hv2; exact hv2.1
        rw [← e, hs] at hc2
        exact hc2
      have Hcw := Lib.hid hcw
      clear hcw
      have HT := Lib.hid hT
      clear hs hv hT
      go_wp2_with (first
        | (go_at_call 38; (with_reducible refine HT.out.mono ?_); rintro e w1 ⟨rfl, hb1⟩; have d2 := Hcell.out _ hb1; have hc2 := Hcw.out _ hb1)
        | (go_at_call 16; refine (lnum _ _).mono ?_; rintro e w1 ⟨rfl, rfl⟩))
      go_roundw
      case rel => exact ⟨k + 1, by omega, by go_num, hb1⟩
      case measure => simp [intOf]; omega
    · have Hk := Lib.hid (Nat.le_antisymm hk (by omega))
      go_wp2
      go_ret
      exact ⟨rfl, hbel⟩
end Go.Proofs.YtbfpfmidjdonjaaGreatDoor

namespace Go.Proofs.YtbfpfmidjdonjaaGreatDoor
open Go Go.RowKit Go.Maps

theorem asame11 (p q : Nat) (most : Int) (ts : List ByteArray) {w0 w : World} (h : At w0 (two p q most ts) w) :
    Calls Tryz.prog 33 #[.pointer (some ⟨p, 0, none⟩), .pointer (some ⟨q, 0, none⟩)] w fun e w' => e = .returned (.bool true) ∧ At w0 (two p q most ts) w' := by
  have hg : (two p q most ts).Good := two_good _ _ _ _
  have h' := h
  obtain ⟨F, ⟨F1, _, rfl, hq, ⟨F2, _, rfl, hp, _, _⟩, _⟩, _, _⟩ := h
  refine (bsame11 p q most ts w F2 F1 hp hq).mono ?_
  rintro e w' ⟨he, hb⟩
  exact ⟨he, h'.lay hg hb⟩
theorem twin_bad11 (most : Int) (a : Option Addr) (n cap : Nat) (w : World) (h : most < 1 ∨ 65536 < most) :
    Calls Tryz.prog 10 #[.int .i64 most, .slice a n cap] w fun e w' => e = .returned (.tuple #[.pointer none, .pointer none]) ∧ w = w' := by
  have Hb := Lib.hid (fun w => bnew_bad most w h)
  have Hr := Lib.hid (fun w => rnew_bad most w h)
  clear h
  go_enter Tryz.func10, Tryz.ntmps10
  go_wp2_with (first
    | (go_at_call 42; (with_reducible refine (Hb.out _).mono ?_); rintro e w1 ⟨rfl, rfl⟩)
    | (go_at_call 36; (with_reducible refine (Hr.out _).mono ?_); rintro e w1 ⟨rfl, rfl⟩)
    | (go_at_call 16; refine (lnum _ _).mono ?_; rintro e w1 ⟨rfl, rfl⟩))
  go_ret2
  exact ⟨rfl, rfl⟩

set_option maxRecDepth 100000 in
set_option maxHeartbeats 4000000 in
theorem twin_ok11 (most : Int) (ao : Option Addr) (cap : Nat) (ss : List ByteArray) (w : World) (hA : SArg w ao ss) (h1 : 1 ≤ most) (h2 : most ≤ 65536) :
    Calls Tryz.prog 10 #[.int .i64 most, .slice ao ss.length cap] w (TwinP most ss w) := by
  have hfew := hA.few
  have HA := Lib.hid hA
  clear hA
  have hS := At.none (Below.refl w.heap.size w)
  go_enter Tryz.func10, Tryz.ntmps10
  go_wp2_with (first
    | (go_at_call 42; (with_reducible refine (bnew_ok most _ h1 h2).mono ?_); rintro e w1 ⟨p, rfl, hb⟩; replace hS := At.add emp_good hS hb; clear hb)
    | (go_at_call 36; (with_reducible refine (rnew_ok most _ h1 h2).mono ?_); rintro e w1 ⟨q, rfl, hb⟩; replace hS := At.add (good1 _ _ _) hS hb; clear hb)
    | (go_at_call 16; refine (lnum _ _).mono ?_; rintro e w1 ⟨rfl, rfl⟩))
  go_loopw [10] (fun i wr => ∃ (k : Nat) (ts : List ByteArray), k ≤ ss.length ∧ i = .int .i64 k ∧ (k = 0 → ts = []) ∧ At w (two p q most ts) wr) (fun i _ => ss.length - (intOf i).toNat)
  case atStart => exact ⟨0, [], Nat.zero_le _, rfl, fun _ => rfl, hS⟩
  case round =>
    clear hS
    obtain ⟨k, ts, hk, rfl, h0, hS⟩ := hrel
    by_cases hlt : k < ss.length
    · have H0 := Lib.hid h0
      clear h0
      by_cases h60 : k < 400
      · obtain ⟨b, off, s, rfl, hs, hsz, hcw⟩ := HA.out.at hlt
        have Hcw := Lib.hid hcw
        have hc := hcw _ hS.bel
        clear hcw hs H0
        go_wp2_with (first
          | (go_at_call 43; (with_reducible refine (At.op1 (dname _ _ _ s hsz) (refA_good _ _ _) emp_good hS).mono ?_); rintro e w1 ⟨rfl, hS1⟩; replace hS := hS1; clear hS1; have hc := Hcw.out _ hS.bel)
          | (go_at_call 39; (with_reducible refine (At.op0 (drname _ _ _ s hsz) (good1 _ _ _) hS).mono ?_); rintro e w1 ⟨rfl, hS1⟩; replace hS := hS1; clear hS1; have hc := Hcw.out _ hS.bel))
        go_roundw
        case rel => exact ⟨k + 1, _, by omega, by go_num, fun e => absurd e (by omega), hS⟩
        case measure => simp [intOf]; omega
      · go_wp2
        go_ret2
        exact ⟨p, q, ts, rfl, (fun e => by subst e; cases hlt), hS.made⟩
    · have hk0 : k = ss.length := by omega
      subst hk0
      have H0 := Lib.hid h0
      clear h0 hlt
      go_wp2
      go_ret2
      exact ⟨p, q, ts, rfl, (fun e => H0.out (by rw [e]; rfl)), hS.made⟩
theorem twin_none11 (most : Int) (w : World) (h1 : 1 ≤ most) (h2 : most ≤ 65536) :
    Calls Tryz.prog 10 #[.int .i64 most, .slice none 0 0] w fun e w' => ∃ p q : Nat, e = .returned (.tuple #[.pointer (some ⟨p, 0, none⟩), .pointer (some ⟨q, 0, none⟩)]) ∧ Becomes [] (two p q most []) w w' := by
  refine (twin_ok11 most none 0 [] w ⟨(fun j hj => by cases hj), (fun j hj => by cases hj), by simp⟩ h1 h2).mono ?_
  rintro e w' ⟨p, q, ts, he, ht, hb⟩
  obtain rfl := ht rfl
  exact ⟨p, q, he, hb⟩

end Go.Proofs.YtbfpfmidjdonjaaGreatDoor

