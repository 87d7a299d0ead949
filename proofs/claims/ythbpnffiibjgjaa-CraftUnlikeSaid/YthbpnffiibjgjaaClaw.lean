/- The statements' own helpers over package craft: twin, sameBooks, awake. No condition. -/
import Derived.Test.YthbpnffiibjgjaaCsame
import Derived.Test.YthbpnffiibjgjaaSArg
import Derived.Test.YthbpnffiibjgjaaCcraft
import Derived.Test.YthbpnffiibjgjaaCref
namespace Go.Proofs.Ythbpnffiibjgjaa
open Go Go.RowKit Go.Maps

theorem asame3 (p q : Nat) (most : Int) (ts : List ByteArray) {w0 w : World} (h : At w0 (two p q most ts) w) :
    Calls Try.prog 17 #[.pointer (some ⟨p, 0, none⟩), .pointer (some ⟨q, 0, none⟩)] w fun e w' => e = .returned (.bool true) ∧ At w0 (two p q most ts) w' := by
  have hg : (two p q most ts).Good := two_good _ _ _ _
  have h' := h
  obtain ⟨F, ⟨F1, _, rfl, hq, ⟨F2, _, rfl, hp, _, _⟩, _⟩, _, _⟩ := h
  refine (bsame p q most ts w F2 F1 hp hq).mono ?_
  rintro e w' ⟨he, hb⟩
  exact ⟨he, h'.lay hg hb⟩
theorem At.made {A : Ass} {w w' : World} (h : At w A w') : Becomes [] A w w' := by
  obtain ⟨F, h1, h2, h3⟩ := h
  exact ⟨F, h1, Tn.ofBelow h3 [], fun k hk => .inr (h2 k hk)⟩

theorem twin_bad (most : Int) (a : Option Addr) (n cap : Nat) (w : World) (h : most < 1 ∨ 65536 < most) :
    Calls Try.prog 8 #[.int .i64 most, .slice a n cap] w fun e w' => e = .returned (.tuple #[.pointer none, .pointer none]) ∧ w = w' := by
  have Hb := Lib.hid (fun w => bnew_bad most w h)
  have Hr := Lib.hid (fun w => rnew_bad most w h)
  clear h
  go_enter Try.func8, Try.ntmps8
  go_wp2_with (first
    | (go_at_call 26; (with_reducible refine (Hb.out _).mono ?_); rintro e w1 ⟨rfl, rfl⟩)
    | (go_at_call 30; (with_reducible refine (Hr.out _).mono ?_); rintro e w1 ⟨rfl, rfl⟩)
    | (go_at_call 16; refine (lnum _ _).mono ?_; rintro e w1 ⟨rfl, rfl⟩))
  go_ret2
  exact ⟨rfl, rfl⟩

def NoneP (ss ts : List ByteArray) : Prop := ss = [] → ts = []
def TwinP (most : Int) (ss : List ByteArray) (w : World) (e : Ending) (w' : World) : Prop := ∃ (p q : Nat) (ts : List ByteArray), e = .returned (.tuple #[.pointer (some ⟨p, 0, none⟩), .pointer (some ⟨q, 0, none⟩)]) ∧ NoneP ss ts ∧ Becomes [] (two p q most ts) w w'

set_option maxRecDepth 100000 in
set_option maxHeartbeats 4000000 in
theorem twin_ok (most : Int) (ao : Option Addr) (cap : Nat) (ss : List ByteArray) (w : World) (hA : SArg w ao ss) (h1 : 1 ≤ most) (h2 : most ≤ 65536) :
    Calls Try.prog 8 #[.int .i64 most, .slice ao ss.length cap] w (TwinP most ss w) := by
  have hfew := hA.few
  have HA := Lib.hid hA
  clear hA
  have hS := At.none (Below.refl w.heap.size w)
  go_enter Try.func8, Try.ntmps8
  go_wp2_with (first
    | (go_at_call 26; (with_reducible refine (bnew_ok most _ h1 h2).mono ?_); rintro e w1 ⟨p, rfl, hb⟩; replace hS := At.add emp_good hS hb; clear hb)
    | (go_at_call 30; (with_reducible refine (rnew_ok most _ h1 h2).mono ?_); rintro e w1 ⟨q, rfl, hb⟩; replace hS := At.add (good1 _ _ _) hS hb; clear hb)
    | (go_at_call 16; refine (lnum _ _).mono ?_; rintro e w1 ⟨rfl, rfl⟩))
  go_loopw [10] (fun i wr => ∃ (k : Nat) (ts : List ByteArray), k ≤ ss.length ∧ i = .int .i64 k ∧ (k = 0 → ts = []) ∧ At w (two p q most ts) wr) (fun i _ => ss.length - (intOf i).toNat)
  case atStart => exact ⟨0, [], Nat.zero_le _, rfl, fun _ => rfl, hS⟩
  case round =>
    clear hS
    obtain ⟨k, ts, hk, rfl, h0, hS⟩ := hrel
    by_cases hlt : k < ss.length
    · have H0 := Lib.hid h0
      clear h0
      by_cases h60 : k < 400
      · obtain ⟨b, off, s, rfl, hs, hsz, hcw⟩ := HA.out.at hlt
        have Hcw := Lib.hid hcw
        have hc := hcw _ hS.bel
        clear hcw hs H0
        go_wp2_with (first
          | (go_at_call 31; (with_reducible refine (At.op1 (dname _ _ _ s hsz) (refA_good _ _ _) emp_good hS).mono ?_); rintro e w1 ⟨rfl, hS1⟩; replace hS := hS1; clear hS1; have hc := Hcw.out _ hS.bel)
          | (go_at_call 32; (with_reducible refine (At.op0 (drname _ _ _ s hsz) (good1 _ _ _) hS).mono ?_); rintro e w1 ⟨rfl, hS1⟩; replace hS := hS1; clear hS1; have hc := Hcw.out _ hS.bel))
        go_roundw
        case rel => exact ⟨k + 1, _, by omega, by go_num, fun e => absurd e (by omega), hS⟩
        case measure => simp [intOf]; omega
      · go_wp2
        go_ret2
        exact ⟨p, q, ts, rfl, (fun e => by subst e; cases hlt), hS.made⟩
    · have hk0 : k = ss.length := by omega
      subst hk0
      have H0 := Lib.hid h0
      clear h0 hlt
      go_wp2
      go_ret2
      exact ⟨p, q, ts, rfl, (fun e => H0.out (by rw [e]; rfl)), hS.made⟩
theorem twin_none (most : Int) (w : World) (h1 : 1 ≤ most) (h2 : most ≤ 65536) :
    Calls Try.prog 8 #[.int .i64 most, .slice none 0 0] w fun e w' => ∃ p q : Nat, e = .returned (.tuple #[.pointer (some ⟨p, 0, none⟩), .pointer (some ⟨q, 0, none⟩)]) ∧ Becomes [] (two p q most []) w w' := by
  refine (twin_ok most none 0 [] w ⟨(fun j hj => by cases hj), (fun j hj => by cases hj), by simp⟩ h1 h2).mono ?_
  rintro e w' ⟨p, q, ts, he, ht, hb⟩
  obtain rfl := ht rfl
  exact ⟨p, q, he, hb⟩

/- The samples. -/
theorem t1 (p : Nat) : Does Try.prog (bookA p 9 []) 18 #[.pointer (some ⟨p, 0, none⟩), .string ⟨#[107]⟩] (.returned (.tuple #[.int .i64 0, .int .i64 0])) (bookA p 9 [⟨#[65, 107]⟩]) :=
  (datom p 9 [] ⟨#[107]⟩ (by decide)).to (by kernel_rfl) (congrArg (bookA p 9) (by kernel_rfl))
theorem t2 (p : Nat) : Does Try.prog (bookA p 9 [⟨#[65, 107]⟩]) 20 #[.pointer (some ⟨p, 0, none⟩), .string ⟨#[120]⟩] (.returned (.tuple #[.int .i64 1, .int .i64 0])) (bookA p 9 [⟨#[65, 107]⟩, ⟨#[72, 120]⟩]) :=
  (dhash p 9 [⟨#[65, 107]⟩] ⟨#[120]⟩ (by decide)).to (by kernel_rfl) (congrArg (bookA p 9) (by kernel_rfl))
theorem t3 (p : Nat) : Does Try.prog (bookA p 9 [⟨#[65, 107]⟩, ⟨#[72, 120]⟩]) 22 #[.pointer (some ⟨p, 0, none⟩), .int .i64 0, .string ⟨#[120]⟩] (.returned (.tuple #[.int .i64 2, .int .i64 0])) (bookA p 9 [⟨#[65, 107]⟩, ⟨#[72, 120]⟩, ⟨#[77, 0, 120]⟩]) :=
  (dmac p 9 [⟨#[65, 107]⟩, ⟨#[72, 120]⟩] 0 ⟨#[120]⟩ (by decide) (by decide) (by decide)).to (by kernel_rfl) (congrArg (bookA p 9) (by kernel_rfl))
theorem t4 (p : Nat) : Does Try.prog (bookA p 9 [⟨#[65, 107]⟩, ⟨#[72, 120]⟩, ⟨#[77, 0, 120]⟩]) 24 #[.pointer (some ⟨p, 0, none⟩), .int .i64 0, .string ⟨#[98, 111, 100, 121]⟩] (.returned (.tuple #[.int .i64 3, .int .i64 0])) (bookA p 9 [⟨#[65, 107]⟩, ⟨#[72, 120]⟩, ⟨#[77, 0, 120]⟩, ⟨#[83, 0, 98, 111, 100, 121]⟩]) :=
  (dseal p 9 [⟨#[65, 107]⟩, ⟨#[72, 120]⟩, ⟨#[77, 0, 120]⟩] 0 ⟨#[98, 111, 100, 121]⟩ (by decide) (by decide) (by decide)).to (by kernel_rfl) (congrArg (bookA p 9) (by kernel_rfl))
theorem t5 (p : Nat) : Does Try.prog (bookA p 9 [⟨#[65, 107]⟩, ⟨#[72, 120]⟩, ⟨#[77, 0, 120]⟩, ⟨#[83, 0, 98, 111, 100, 121]⟩]) 12 #[.pointer (some ⟨p, 0, none⟩), .int .i64 0, .int .i64 3] (.returned (.tuple #[.string ⟨#[98, 111, 100, 121]⟩, .int .i64 0])) (bookA p 9 [⟨#[65, 107]⟩, ⟨#[72, 120]⟩, ⟨#[77, 0, 120]⟩, ⟨#[83, 0, 98, 111, 100, 121]⟩]) :=
  (dopen p 9 [⟨#[65, 107]⟩, ⟨#[72, 120]⟩, ⟨#[77, 0, 120]⟩, ⟨#[83, 0, 98, 111, 100, 121]⟩] 0 3 (by decide) (by decide)).to (by kernel_rfl) rfl
theorem t6 (p : Nat) : Does Try.prog (bookA p 9 [⟨#[65, 107]⟩, ⟨#[72, 120]⟩, ⟨#[77, 0, 120]⟩, ⟨#[83, 0, 98, 111, 100, 121]⟩]) 12 #[.pointer (some ⟨p, 0, none⟩), .int .i64 1, .int .i64 3] (.returned (.tuple #[.string ⟨#[]⟩, .int .i64 301])) (bookA p 9 [⟨#[65, 107]⟩, ⟨#[72, 120]⟩, ⟨#[77, 0, 120]⟩, ⟨#[83, 0, 98, 111, 100, 121]⟩]) :=
  (dopen p 9 [⟨#[65, 107]⟩, ⟨#[72, 120]⟩, ⟨#[77, 0, 120]⟩, ⟨#[83, 0, 98, 111, 100, 121]⟩] 1 3 (by decide) (by decide)).to (by kernel_rfl) rfl
theorem t7 (p : Nat) : Does Try.prog (bookA p 9 [⟨#[65, 107]⟩, ⟨#[72, 120]⟩, ⟨#[77, 0, 120]⟩, ⟨#[83, 0, 98, 111, 100, 121]⟩]) 22 #[.pointer (some ⟨p, 0, none⟩), .int .i64 (-1), .string ⟨#[120]⟩] (.returned (.tuple #[.int .i64 0, .int .i64 300])) (bookA p 9 [⟨#[65, 107]⟩, ⟨#[72, 120]⟩, ⟨#[77, 0, 120]⟩, ⟨#[83, 0, 98, 111, 100, 121]⟩]) :=
  (dmac p 9 [⟨#[65, 107]⟩, ⟨#[72, 120]⟩, ⟨#[77, 0, 120]⟩, ⟨#[83, 0, 98, 111, 100, 121]⟩] (-1) ⟨#[120]⟩ (by decide) (by decide) (by decide)).to (by kernel_rfl) rfl
theorem t8 (p : Nat) : Does Try.prog (bookA p 9 [⟨#[65, 107]⟩, ⟨#[72, 120]⟩, ⟨#[77, 0, 120]⟩, ⟨#[83, 0, 98, 111, 100, 121]⟩]) 11 #[.pointer (some ⟨p, 0, none⟩), .int .i64 0, .string ⟨#[120]⟩, .int .i64 2] (.returned (.bool true)) (bookA p 9 [⟨#[65, 107]⟩, ⟨#[72, 120]⟩, ⟨#[77, 0, 120]⟩, ⟨#[83, 0, 98, 111, 100, 121]⟩]) :=
  (dismac p 9 [⟨#[65, 107]⟩, ⟨#[72, 120]⟩, ⟨#[77, 0, 120]⟩, ⟨#[83, 0, 98, 111, 100, 121]⟩] 0 ⟨#[120]⟩ 2 (by decide) (by decide) (by decide)).to (by kernel_rfl) rfl
theorem t9 (p : Nat) : Does Try.prog (bookA p 9 [⟨#[65, 107]⟩, ⟨#[72, 120]⟩, ⟨#[77, 0, 120]⟩, ⟨#[83, 0, 98, 111, 100, 121]⟩]) 11 #[.pointer (some ⟨p, 0, none⟩), .int .i64 0, .string ⟨#[121]⟩, .int .i64 4] (.returned (.bool false)) (bookA p 9 [⟨#[65, 107]⟩, ⟨#[72, 120]⟩, ⟨#[77, 0, 120]⟩, ⟨#[83, 0, 98, 111, 100, 121]⟩]) :=
  (dismac p 9 [⟨#[65, 107]⟩, ⟨#[72, 120]⟩, ⟨#[77, 0, 120]⟩, ⟨#[83, 0, 98, 111, 100, 121]⟩] 0 ⟨#[121]⟩ 4 (by decide) (by decide) (by decide)).to (by kernel_rfl) rfl
theorem t10 (p : Nat) : Does Try.prog (bookA p 9 [⟨#[65, 107]⟩, ⟨#[72, 120]⟩, ⟨#[77, 0, 120]⟩, ⟨#[83, 0, 98, 111, 100, 121]⟩]) 10 #[.pointer (some ⟨p, 0, none⟩), .string ⟨#[120]⟩, .int .i64 1] (.returned (.bool true)) (bookA p 9 [⟨#[65, 107]⟩, ⟨#[72, 120]⟩, ⟨#[77, 0, 120]⟩, ⟨#[83, 0, 98, 111, 100, 121]⟩]) :=
  (dishash p 9 [⟨#[65, 107]⟩, ⟨#[72, 120]⟩, ⟨#[77, 0, 120]⟩, ⟨#[83, 0, 98, 111, 100, 121]⟩] ⟨#[120]⟩ 1 (by decide)).to (by kernel_rfl) rfl
theorem t11 (p : Nat) : Does Try.prog (bookA p 9 [⟨#[65, 107]⟩, ⟨#[72, 120]⟩, ⟨#[77, 0, 120]⟩, ⟨#[83, 0, 98, 111, 100, 121]⟩]) 27 #[.pointer (some ⟨p, 0, none⟩)] (.returned (.int .i64 4)) (bookA p 9 [⟨#[65, 107]⟩, ⟨#[72, 120]⟩, ⟨#[77, 0, 120]⟩, ⟨#[83, 0, 98, 111, 100, 121]⟩]) :=
  (dlen p 9 [⟨#[65, 107]⟩, ⟨#[72, 120]⟩, ⟨#[77, 0, 120]⟩, ⟨#[83, 0, 98, 111, 100, 121]⟩]).to rfl rfl
theorem t12 : (⟨#[120]⟩ : ByteArray).size ≤ 9223372036854770000 := by decide

set_option maxRecDepth 100000 in
set_option maxHeartbeats 4000000 in
theorem awake3 (w : World) : Calls Try.prog 9 #[] w fun e w' => e = .returned (.bool true) ∧ Below w.heap.size w w' := by
  go_enter Try.func9, Try.ntmps9
  go_wp2_with (first
    | (go_at_call 8; (with_reducible refine (twin_none 9 _ (by omega) (by omega)).mono ?_); rintro e w1 ⟨p, q, rfl, hb⟩; have hS := At.start hb; clear hb)
    | (go_at_call 18; first | ((with_reducible refine (At.op1 (t1 _) (refA_good _ _ _) emp_good hS).mono ?_); rintro e w1 ⟨rfl, hS1⟩; replace hS := hS1; clear hS1) | ((with_reducible refine (catom_nil _ _).mono ?_); rintro e w1 ⟨rfl, rfl⟩))
    | (go_at_call 20; ((with_reducible refine (At.op1 (t2 _) (refA_good _ _ _) emp_good hS).mono ?_); rintro e w1 ⟨rfl, hS1⟩; replace hS := hS1; clear hS1))
    | (go_at_call 22; first | ((with_reducible refine (At.op1 (t3 _) (refA_good _ _ _) emp_good hS).mono ?_); rintro e w1 ⟨rfl, hS1⟩; replace hS := hS1; clear hS1) | ((with_reducible refine (At.op1 (t7 _) (refA_good _ _ _) emp_good hS).mono ?_); rintro e w1 ⟨rfl, hS1⟩; replace hS := hS1; clear hS1))
    | (go_at_call 24; ((with_reducible refine (At.op1 (t4 _) (refA_good _ _ _) emp_good hS).mono ?_); rintro e w1 ⟨rfl, hS1⟩; replace hS := hS1; clear hS1))
    | (go_at_call 12; first | ((with_reducible refine (At.op1 (t5 _) (refA_good _ _ _) emp_good hS).mono ?_); rintro e w1 ⟨rfl, hS1⟩; replace hS := hS1; clear hS1) | ((with_reducible refine (At.op1 (t6 _) (refA_good _ _ _) emp_good hS).mono ?_); rintro e w1 ⟨rfl, hS1⟩; replace hS := hS1; clear hS1))
    | (go_at_call 11; first | ((with_reducible refine (At.op1 (t8 _) (refA_good _ _ _) emp_good hS).mono ?_); rintro e w1 ⟨rfl, hS1⟩; replace hS := hS1; clear hS1) | ((with_reducible refine (At.op1 (t9 _) (refA_good _ _ _) emp_good hS).mono ?_); rintro e w1 ⟨rfl, hS1⟩; replace hS := hS1; clear hS1))
    | (go_at_call 10; first | ((with_reducible refine (At.op1 (t10 _) (refA_good _ _ _) emp_good hS).mono ?_); rintro e w1 ⟨rfl, hS1⟩; replace hS := hS1; clear hS1) | ((with_reducible refine (cishash_nil _ _ _ t12).mono ?_); rintro e w1 ⟨rfl, hb⟩; replace hS := hS.lay ((refA_good _ _ _).star (good1 _ _ _)) hb; clear hb))
    | (go_at_call 27; ((with_reducible refine (At.op1 (t11 _) (refA_good _ _ _) emp_good hS).mono ?_); rintro e w1 ⟨rfl, hS1⟩; replace hS := hS1; clear hS1))
    | (go_at_call 16; refine (lnum _ _).mono ?_; rintro e w1 ⟨rfl, rfl⟩))
  go_ret
  exact ⟨rfl, hS.bel⟩
end Go.Proofs.Ythbpnffiibjgjaa
