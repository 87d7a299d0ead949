/- The statements' own helpers over books: twin, sameBooks (chapter 15's). No condition. -/
import Derived.Test.YtcakipojmkehgaaDoorTws15
import Derived.Test.YtcakipojmkehgaaDoorBbk
namespace Go.Proofs.YtcakipojmkehgaaDoor
open Go Go.RowKit Go.Maps

theorem asame15 (p q : Nat) (most : Int) (ts : List ByteArray) {w0 w : World} (h : At w0 (two p q most ts) w) :
    Calls Tryd.prog 15 #[.pointer (some ⟨p, 0, none⟩), .pointer (some ⟨q, 0, none⟩)] w fun e w' => e = .returned (.bool true) ∧ At w0 (two p q most ts) w' := by
  have hg : (two p q most ts).Good := two_good _ _ _ _
  have h' := h
  obtain ⟨F, ⟨F1, _, rfl, hq, ⟨F2, _, rfl, hp, _, _⟩, _⟩, _, _⟩ := h
  refine (bsame15 p q most ts w F2 F1 hp hq).mono ?_
  rintro e w' ⟨he, hb⟩
  exact ⟨he, h'.lay hg hb⟩
theorem twin_bad15 (most : Int) (a : Option Addr) (n cap : Nat) (w : World) (h : most < 1 ∨ 65536 < most) :
    Calls Tryd.prog 8 #[.int .i64 most, .slice a n cap] w fun e w' => e = .returned (.tuple #[.pointer none, .pointer none]) ∧ w = w' := by
  have Hb := Lib.hid (fun w => bnew_bad most w h)
  have Hr := Lib.hid (fun w => rnew_bad most w h)
  clear h
  go_enter Tryd.func8, Tryd.ntmps8
  go_wp2_with (first
    | (go_at_call 20; (with_reducible refine (Hb.out _).mono ?_); rintro e w1 ⟨rfl, rfl⟩)
    | (go_at_call 21; (with_reducible refine (Hr.out _).mono ?_); rintro e w1 ⟨rfl, rfl⟩)
    | (go_at_call 14; refine (lnum _ _).mono ?_; rintro e w1 ⟨rfl, rfl⟩))
  go_ret2
  exact ⟨rfl, rfl⟩

set_option maxRecDepth 100000 in
set_option maxHeartbeats 4000000 in
theorem twin_ok15 (most : Int) (ao : Option Addr) (cap : Nat) (ss : List ByteArray) (w : World) (hA : SArg w ao ss) (h1 : 1 ≤ most) (h2 : most ≤ 65536) :
    Calls Tryd.prog 8 #[.int .i64 most, .slice ao ss.length cap] w (TwinP most ss w) := by
  have hfew := hA.few
  have HA := Lib.hid hA
  clear hA
  have hS := At.none (Below.refl w.heap.size w)
  go_enter Tryd.func8, Tryd.ntmps8
  go_wp2_with (first
    | (go_at_call 20; (with_reducible refine (bnew_ok most _ h1 h2).mono ?_); rintro e w1 ⟨p, rfl, hb⟩; replace hS := At.add emp_good hS hb; clear hb)
    | (go_at_call 21; (with_reducible refine (rnew_ok most _ h1 h2).mono ?_); rintro e w1 ⟨q, rfl, hb⟩; replace hS := At.add (good1 _ _ _) hS hb; clear hb)
    | (go_at_call 14; refine (lnum _ _).mono ?_; rintro e w1 ⟨rfl, rfl⟩))
  go_loopw [10] (fun i wr => ∃ (k : Nat) (ts : List ByteArray), k ≤ ss.length ∧ i = .int .i64 k ∧ (k = 0 → ts = []) ∧ At w (two p q most ts) wr) (fun i _ => ss.length - (intOf i).toNat)
  case atStart => exact ⟨0, [], Nat.zero_le _, rfl, fun _ => rfl, hS⟩
  case round =>
    clear hS
    obtain ⟨k, ts, hk, rfl, h0, hS⟩ := hrel
    by_cases hlt : k < ss.length
    · have H0 := Lib.hid h0
      clear h0
      by_cases h60 : k < 400
      · obtain ⟨b, off, s, rfl, hs, hsz, hcw⟩ := HA.out.at hlt
        have Hcw := Lib.hid hcw
        have hc := hcw _ hS.bel
        clear hcw hs H0
        go_wp2_with (first
          | (go_at_call 19; (with_reducible refine (At.op1 (dname _ _ _ s hsz) (refA_good _ _ _) emp_good hS).mono ?_); rintro e w1 ⟨rfl, hS1⟩; replace hS := hS1; clear hS1; have hc := Hcw.out _ hS.bel)
          | (go_at_call 22; (with_reducible refine (At.op0 (drname _ _ _ s hsz) (good1 _ _ _) hS).mono ?_); rintro e w1 ⟨rfl, hS1⟩; replace hS := hS1; clear hS1; have hc := Hcw.out _ hS.bel))
        go_roundw
        case rel => exact ⟨k + 1, _, by omega, by go_num, fun e => absurd e (by omega), hS⟩
        case measure => simp [intOf]; omega
      · go_wp2
        go_ret2
        exact ⟨p, q, ts, rfl, (fun e => by subst e; cases hlt), hS.made⟩
    · have hk0 : k = ss.length := by omega
      subst hk0
      have H0 := Lib.hid h0
      clear h0 hlt
      go_wp2
      go_ret2
      exact ⟨p, q, ts, rfl, (fun e => H0.out (by rw [e]; rfl)), hS.made⟩
theorem twin_none15 (most : Int) (w : World) (h1 : 1 ≤ most) (h2 : most ≤ 65536) :
    Calls Tryd.prog 8 #[.int .i64 most, .slice none 0 0] w fun e w' => ∃ p q : Nat, e = .returned (.tuple #[.pointer (some ⟨p, 0, none⟩), .pointer (some ⟨q, 0, none⟩)]) ∧ Becomes [] (two p q most []) w w' := by
  refine (twin_ok15 most none 0 [] w ⟨(fun j hj => by cases hj), (fun j hj => by cases hj), by simp⟩ h1 h2).mono ?_
  rintro e w' ⟨p, q, ts, he, ht, hb⟩
  obtain rfl := ht rfl
  exact ⟨p, q, he, hb⟩

end Go.Proofs.YtcakipojmkehgaaDoor
