/- StateUsers: failures, logins, unlocks, revocations of one user turn nothing of another one, nor of sessions. Conditions: the rows' sizes. -/
import Derived.Test.YtopkcaflmpjhgaaSboots
import Derived.Test.YtopkcaflmpjhgaaBss
import Derived.Deep.CutBlock
import Derived.Test.YtopkcaflmpjhgaaBsp
namespace Go.Proofs.Ytopkcaflmpjhgaa
open Go Go.RowKit

def usM : List Ev := [⟨5, 1, 0, 2, 0, 0, 0, 3⟩]
theorem usM_in (W : World) {p : Nat} (hp : W.heap.size = p) : MoreIn (W.alloc (.cells #[.int .i64 5, .int .i64 1, .int .i64 0, .int .i64 2, .int .i64 0, .int .i64 0, .int .i64 0, .int .i64 3] TEv)) (some ⟨p, 0, none⟩) 1 1 usM := MoreIn.lit W usM (by decide) hp rfl rfl
abbrev usAd : List Pa := [⟨false, -1, 0⟩, ⟨false, -1, 0⟩, ⟨true, 1, 0⟩]
abbrev usS (lf lu st g : Int) : St := ⟨1, 0, 1, [⟨0, 5, 6, 50, 0, lf, lu, st, g⟩, ⟨1, 7, 8, 60, 0, 0, 0, 0, 0⟩], [⟨0, 1, 2, 3⟩], usAd, []⟩
theorem usS_is : saS cfP (begB ++ usM) = usS 0 0 0 0 ∧ decide (saE cfP (begB ++ usM) = 0) = true := by decide +kernel
theorem usS_sm (lf lu st g : Int) : (usS lf lu st g).sm 1 := by
  refine ⟨?_, by show 1 ≤ _; decide, by show 3 ≤ _; decide, by show 0 + 1 ≤ _; decide, ⟨by show -9223372036854775808 ≤ (0 : Int); decide, ?_⟩, by show ∀ y ∈ ([] : List Int), _; simp⟩
  · show 2 + uFree _ ≤ _
    have := uFree_le (usS lf lu st g).us
    omega
  · intro x hx
    have hx' : x = ⟨0, 5, 6, 50, 0, lf, lu, st, g⟩ ∨ x = ⟨1, 7, 8, 60, 0, 0, 0, 0, 0⟩ := by simpa using hx
    rcases hx' with rfl | rfl <;> (show -9223372036854775808 ≤ (0 : Int) ∧ (0 : Int) ≤ 9223372036854775807; decide)
theorem pa_yes {w : World} {ao bo : Option Addr} {n m c1 c2 : Nat} {es : List Pa} (h1 : PaIn [] w ao n es) (h2 : PaIn [] w bo m es) :
    Calls Try.prog 17 #[.slice ao n c1, .slice bo m c2] w fun e w' => e = .returned (.bool true) ∧ Below w.heap.size w w' :=
  (pa_same h1 h2).mono fun e w' ⟨a, b⟩ => ⟨by rw [a]; simp, b⟩
theorem us_may (kind t a : Int) (h : (kind = 2 ∧ 0 ≤ t ∧ t ≤ 1000 ∧ a = 0) ∨ (kind = 3 ∧ t = 0 ∧ 0 ≤ a ∧ a ≤ 1000) ∨ (kind = 4 ∧ t = 0 ∧ a = 0) ∨ (kind = 7 ∧ t = 0 ∧ a = 0)) (lf lu st g : Int) : stOk cfP (usS lf lu st g) ⟨kind, 0, 0, 0, a, 0, 0, t⟩ = true := by
  show (cfP.may && Ev.may ⟨kind, 0, 0, 0, a, 0, 0, t⟩ && decide ((usAd.length : Int) = 3)) = true
  have e : Ev.may ⟨kind, 0, 0, 0, a, 0, 0, t⟩ = true := by
    rcases h with ⟨rfl, h1, h2, rfl⟩ | ⟨rfl, rfl, h1, h2⟩ | ⟨rfl, rfl, rfl⟩ | ⟨rfl, rfl, rfl⟩
    · have c1 : decide (0 ≤ t) = true := decide_eq_true h1
      have c2 : decide (t ≤ 1048575) = true := decide_eq_true (by omega)
      simp [Ev.may, Ev.rng, Ev.part, Ev.lim, okNum, c1, c2]
    · have c1 : decide (0 ≤ a) = true := decide_eq_true h1
      have c2 : decide (a ≤ 1073741823) = true := decide_eq_true (by omega)
      simp [Ev.may, Ev.rng, Ev.part, Ev.lim, okNum, c1, c2]
    · decide
    · decide
  rw [e]
  decide
theorem us_turn {kind t a lf lu st g : Int} (hk : kind = 2 ∨ kind = 3 ∨ kind = 4 ∨ kind = 7) (ho : stOk cfP (usS lf lu st g) ⟨kind, 0, 0, 0, a, 0, 0, t⟩ = true) :
    (∀ x : Us, stTurn cfP ⟨0, 5, 6, 50, 0, lf, lu, st, g⟩ ⟨kind, 0, 0, 0, a, 0, 0, t⟩ = some x → stAS cfP (usS lf lu st g) ⟨kind, 0, 0, 0, a, 0, 0, t⟩ = { usS lf lu st g with us := [x, ⟨1, 7, 8, 60, 0, 0, 0, 0, 0⟩] } ∧ stAE cfP (usS lf lu st g) ⟨kind, 0, 0, 0, a, 0, 0, t⟩ = 0) ∧
    (stTurn cfP ⟨0, 5, 6, 50, 0, lf, lu, st, g⟩ ⟨kind, 0, 0, 0, a, 0, 0, t⟩ = none → stAS cfP (usS lf lu st g) ⟨kind, 0, 0, 0, a, 0, 0, t⟩ = ⟨0, 0, 0, [], [], [], []⟩ ∧ stAE cfP (usS lf lu st g) ⟨kind, 0, 0, 0, a, 0, 0, t⟩ = 2001) := by
  have hE : stEv cfP (usS lf lu st g) ⟨kind, 0, 0, 0, a, 0, 0, t⟩ = (stTurn cfP ⟨0, 5, 6, 50, 0, lf, lu, st, g⟩ ⟨kind, 0, 0, 0, a, 0, 0, t⟩).map fun x => { usS lf lu st g with us := [x, ⟨1, 7, 8, 60, 0, 0, 0, 0, 0⟩] } := by
    unfold stEv
    rcases hk with rfl | rfl | rfl | rfl
    all_goals
      simp only [show ¬ ((2 : Int) = 0) by decide, show ¬ ((2 : Int) = 5) by decide, show ¬ ((2 : Int) = 6) by decide, show ¬ ((2 : Int) = 8) by decide, show ¬ ((2 : Int) = 9) by decide, show ¬ ((2 : Int) = 1) by decide, show ¬ ((3 : Int) = 0) by decide, show ¬ ((3 : Int) = 5) by decide, show ¬ ((3 : Int) = 6) by decide, show ¬ ((3 : Int) = 8) by decide, show ¬ ((3 : Int) = 9) by decide, show ¬ ((3 : Int) = 1) by decide, show ¬ ((4 : Int) = 0) by decide, show ¬ ((4 : Int) = 5) by decide, show ¬ ((4 : Int) = 6) by decide, show ¬ ((4 : Int) = 8) by decide, show ¬ ((4 : Int) = 9) by decide, show ¬ ((4 : Int) = 1) by decide, show ¬ ((7 : Int) = 0) by decide, show ¬ ((7 : Int) = 5) by decide, show ¬ ((7 : Int) = 6) by decide, show ¬ ((7 : Int) = 8) by decide, show ¬ ((7 : Int) = 9) by decide, show ¬ ((7 : Int) = 1) by decide, if_false]
      rfl
  constructor
  · intro x hx
    rw [hx] at hE
    unfold stAS stAE
    rw [ho, hE]
    exact ⟨rfl, rfl⟩
  · intro hx
    rw [hx] at hE
    unfold stAS stAE
    rw [ho, hE]
    exact ⟨rfl, rfl⟩
def UsV (k : Nat) (tk lf lu st g : Int) : Prop := 0 ≤ tk ∧ tk ≤ 15 * (k : Int) ∧ 0 ≤ lf ∧ lf ≤ 8 ∧ 0 ≤ lu ∧ lu ≤ tk + 20 ∧ 0 ≤ st ∧ st ≤ (k : Int) ∧ 0 ≤ g ∧ g ≤ (k : Int)
/-- What comes of an event: its numbers, whether it is taken, what the user is then. -/
structure UsE (k : Nat) (lf lu st g t2 kd a t s2 : Int) (ok : Bool) (lf' lu' g' : Int) : Prop where
  S : (ok = true → stAS cfP (usS lf lu st g) ⟨kd, 0, 0, 0, a, 0, 0, t⟩ = usS lf' lu' s2 g' ∧ stAE cfP (usS lf lu st g) ⟨kd, 0, 0, 0, a, 0, 0, t⟩ = 0) ∧ (ok = false → stAS cfP (usS lf lu st g) ⟨kd, 0, 0, 0, a, 0, 0, t⟩ = ⟨0, 0, 0, [], [], [], []⟩ ∧ stAE cfP (usS lf lu st g) ⟨kd, 0, 0, 0, a, 0, 0, t⟩ = 2001)
  V : UsV (k + 1) t2 lf' lu' s2 g'
  no : ok = false → kd = 2 ∧ ¬ lu ≤ t2 ∧ st = s2
  vno : ok = false → UsV (k + 1) t2 lf lu st g
  yes : ok = true → kd = 2 ∨ (kd = 3 ∧ lf' = 0 ∧ lu' = 0) ∨ (kd = 4 ∧ lf' = 0 ∧ lu' = 0) ∨ (kd = 7 ∧ g' = g + 1)
theorem UsE.two {k : Nat} {tk lf lu st g m t2 : Int} (v : UsV k tk lf lu st g) (hk : k < 40) (ht : tk + m = t2) (m0 : 0 ≤ m) (m1 : m ≤ 15) : ∃ (ok : Bool) (lf' lu' : Int), UsE k lf lu st g t2 2 0 t2 st ok lf' lu' g := by
  obtain ⟨v0, v1, v2, v3, v4, v5, v6, v7, v8, v9⟩ := v
  by_cases hok : lkOk lf lu t2 2 20
  · refine ⟨true, lkF lf lu t2 2 20, lkU lf lu t2 2 20, ⟨⟨fun _ => (us_turn (.inl rfl) (us_may 2 t2 0 (.inl ⟨rfl, by omega, by omega, rfl⟩) lf lu st g)).1 ⟨0, 5, 6, 50, 0, lkF lf lu t2 2 20, lkU lf lu t2 2 20, st, g⟩ (by
      show (if lkOk lf lu t2 2 20 then some _ else none) = _
      rw [if_pos hok]), fun c => (by cases c)⟩, ?_, fun c => (by cases c), fun c => (by cases c), fun _ => .inl rfl⟩⟩
    obtain ⟨-, e1, e2⟩ := lk_yes hok
    have hb := lkC_bd v2 (show (1 : Int) ≤ 2 by decide)
    rw [e1, e2]
    unfold UsV
    refine ⟨by omega, by omega, by omega, by omega, ?_, ?_, by omega, by omega, by omega, by omega⟩ <;> (split <;> omega)
  · have V2 : UsV (k + 1) t2 lf lu st g := by unfold UsV; omega
    exact ⟨false, lf, lu, ⟨⟨fun c => (by cases c), fun _ => (us_turn (.inl rfl) (us_may 2 t2 0 (.inl ⟨rfl, by omega, by omega, rfl⟩) lf lu st g)).2 (by
      show (if lkOk lf lu t2 2 20 then some _ else none) = _
      rw [if_neg hok])⟩, V2, fun _ => ⟨rfl, fun c => hok ⟨⟨v2, v3⟩, ⟨v4, by omega⟩, ⟨by omega, by omega⟩, by decide, by decide, c⟩, rfl⟩, fun _ => V2, fun c => (by cases c)⟩⟩
theorem UsE.three {k : Nat} {tk lf lu st g m t2 : Int} (v : UsV k tk lf lu st g) (hk : k < 40) (ht : tk + m = t2) (m0 : 0 ≤ m) (m1 : m ≤ 15) : UsE k lf lu st g t2 3 (st + 1) 0 (st + 1) true 0 0 g := by
  obtain ⟨v0, v1, v2, v3, v4, v5, v6, v7, v8, v9⟩ := v
  refine ⟨⟨fun _ => (us_turn (.inr (.inl rfl)) (us_may 3 0 (st + 1) (.inr (.inl ⟨rfl, rfl, by omega, by omega⟩)) lf lu st g)).1 ⟨0, 5, 6, 50, 0, 0, 0, st + 1, g⟩ (by
    show (if st < st + 1 then some _ else none) = _
    rw [if_pos (by omega)]), fun c => (by cases c)⟩, by unfold UsV; omega, fun c => (by cases c), fun c => (by cases c), fun _ => .inr (.inl ⟨rfl, rfl, rfl⟩)⟩
theorem UsE.four {k : Nat} {tk lf lu st g m t2 : Int} (v : UsV k tk lf lu st g) (hk : k < 40) (ht : tk + m = t2) (m0 : 0 ≤ m) (m1 : m ≤ 15) : UsE k lf lu st g t2 4 0 0 st true 0 0 g := by
  obtain ⟨v0, v1, v2, v3, v4, v5, v6, v7, v8, v9⟩ := v
  exact ⟨⟨fun _ => (us_turn (.inr (.inr (.inl rfl))) (us_may 4 0 0 (.inr (.inr (.inl ⟨rfl, rfl, rfl⟩))) lf lu st g)).1 ⟨0, 5, 6, 50, 0, 0, 0, st, g⟩ rfl, fun c => (by cases c)⟩, by unfold UsV; omega, fun c => (by cases c), fun c => (by cases c), fun _ => .inr (.inr (.inl ⟨rfl, rfl, rfl⟩))⟩
theorem UsE.seven {k : Nat} {tk lf lu st g m t2 : Int} (v : UsV k tk lf lu st g) (hk : k < 40) (ht : tk + m = t2) (m0 : 0 ≤ m) (m1 : m ≤ 15) : UsE k lf lu st g t2 7 0 0 st true lf lu (g + 1) := by
  obtain ⟨v0, v1, v2, v3, v4, v5, v6, v7, v8, v9⟩ := v
  exact ⟨⟨fun _ => (us_turn (.inr (.inr (.inr rfl))) (us_may 7 0 0 (.inr (.inr (.inr ⟨rfl, rfl, rfl⟩))) lf lu st g)).1 ⟨0, 5, 6, 50, 0, lf, lu, st, g + 1⟩ (by
    show (if 0 ≤ g ∧ g < 1073741823 then some _ else none) = _
    rw [if_pos (by omega)]), fun c => (by cases c)⟩, by unfold UsV; omega, fun c => (by cases c), fun c => (by cases c), fun _ => .inr (.inr (.inr ⟨rfl, rfl⟩))⟩
set_option maxRecDepth 100000 in
set_option maxHeartbeats 16000000 in
set_option linter.unusedSimpArgs false in
theorem stusers (P : StatesOk) {w : World} {ao : Option Addr} {n cap : Nat} {as' : List Int} (has : InIn [] w ao n as') :
    Calls Try.prog 5 #[.slice ao n cap] w fun e w' => e = .returned (.bool true) ∧ Below w.heap.size w w' := by
  have HEL := Lib.hid (fun k (hk : k < n) => in_el has (k := k) hk)
  clear has
  have q0 : At w (OB [] (STS [] emp)) w := OB.start (Below.refl w.heap.size w)
  go_enter Try.func5, Try.ntmps5
  go_wp2_with (first
    | (go_at_call 9; (with_reducible refine (awake20 P _).mono ?_); rintro r w1 ⟨rfl, hb⟩; have q1 := OB.lay (STS.good emp_good) q0 hb; clear hb)
    | (go_at_call 14; (with_reducible refine (lplain _).mono ?_); rintro e w2 ⟨rfl, hb⟩; have q2 : At w (OB [(w2.heap.size, cfC cfP, TCf)] (STS [] emp)) (w2.alloc (.cells (cfC cfP) TCf)) := OB.hold (STS.good emp_good) (OB.lay (STS.good emp_good) q1 hb) (cfC cfP) TCf rfl; clear hb)
    | (go_at_call 15; (with_reducible refine (obegun P emp_good (OB.lay1 (STS.good emp_good) q2 _) (usM_in _ (by go_simp)) usS_is.1 usS_is.2).mono ?_); rintro e w3 ⟨⟨hu, huc, hs, hsc, hp, hpc, hi, hic⟩, rfl, qa⟩; obtain ⟨ub, uo, e4, hcc⟩ := STS.us qa (i := 0) rfl (usS_sm _ _ _ _) (j := 1) (by show 1 < 2; decide) (a := ⟨1, 7, 8, 60, 0, 0, 0, 0, 0⟩) rfl; dsimp only at e4; subst e4; have q3 : At w (OB [(w2.heap.size, cfC cfP, TCf), (w3.heap.size, (stN 1 0 1 ⟨some ⟨ub, uo, none⟩, huc, hs, hsc, hp, hpc, hi, hic⟩ 2 1 3 0), TSt)] (STS [(⟨some ⟨ub, uo, none⟩, huc, hs, hsc, hp, hpc, hi, hic⟩, usS 0 0 0 0)] emp)) (w3.alloc (.cells (stN 1 0 1 ⟨some ⟨ub, uo, none⟩, huc, hs, hsc, hp, hpc, hi, hic⟩ 2 1 3 0) TSt)) := OB.hold (STS.good emp_good) qa (stN 1 0 1 ⟨some ⟨ub, uo, none⟩, huc, hs, hsc, hp, hpc, hi, hic⟩ 2 1 3 0) TSt rfl; clear qa; have q4 : At w (OB [(w2.heap.size, cfC cfP, TCf), (w3.heap.size, (stN 1 0 1 ⟨some ⟨ub, uo, none⟩, huc, hs, hsc, hp, hpc, hi, hic⟩ 2 1 3 0), TSt), (w3.heap.size + 1, #[.int .i64 1, .int .i64 7, .int .i64 8, .int .i64 60, .int .i64 0, .int .i64 0, .int .i64 0, .int .i64 0, .int .i64 0], TUs)] (STS [(⟨some ⟨ub, uo, none⟩, huc, hs, hsc, hp, hpc, hi, hic⟩, usS 0 0 0 0)] emp)) ((w3.alloc (.cells (stN 1 0 1 ⟨some ⟨ub, uo, none⟩, huc, hs, hsc, hp, hpc, hi, hic⟩ 2 1 3 0) TSt)).alloc (.cells #[.int .i64 1, .int .i64 7, .int .i64 8, .int .i64 60, .int .i64 0, .int .i64 0, .int .i64 0, .int .i64 0, .int .i64 0] TUs)) := OB.hold (STS.good emp_good) q3 #[.int .i64 1, .int .i64 7, .int .i64 8, .int .i64 60, .int .i64 0, .int .i64 0, .int .i64 0, .int .i64 0, .int .i64 0] TUs (by simp); obtain ⟨z0, z1, z2, z3, z4, z5, z6, z7, z8⟩ := hcc _ (stal (Below.refl _ _) (.cells (stN 1 0 1 ⟨some ⟨ub, uo, none⟩, huc, hs, hsc, hp, hpc, hi, hic⟩ 2 1 3 0) TSt)); simp only [Nat.one_mul] at z0 z1 z2 z3 z4 z5 z6 z7 z8; clear hcc))
  clear q0 q1 q2 q3 z0 z1 z2 z3 z4 z5 z6 z7 z8
  generalize (w3.alloc (.cells (stN 1 0 1 ⟨some ⟨ub, uo, none⟩, huc, hs, hsc, hp, hpc, hi, hic⟩ 2 1 3 0) TSt)).alloc (.cells #[.int .i64 1, .int .i64 7, .int .i64 8, .int .i64 60, .int .i64 0, .int .i64 0, .int .i64 0, .int .i64 0, .int .i64 0] TUs) = W4 at *
  generalize w2.heap.size = b1 at *
  generalize hb3 : w3.heap.size + 1 = b3 at *
  generalize w3.heap.size = b2 at *
  clear hb3
  have HQ := Lib.hid q4
  clear q4
  go_loopw [7, 8, 9] (fun tt stp i wr => ∃ (k : Nat) (tk lf lu st g : Int) (h : Sv), k ≤ n ∧ k ≤ 40 ∧ i = .int .i64 (k : Int) ∧ tt = .int .i64 tk ∧ stp = .int .i64 st ∧ Aside (UsV k tk lf lu st g) ∧ Aside (At w (OB [(b1, cfC cfP, TCf), (b2, (stN 1 0 1 h 2 1 3 0), TSt), (b3, #[.int .i64 1, .int .i64 7, .int .i64 8, .int .i64 60, .int .i64 0, .int .i64 0, .int .i64 0, .int .i64 0, .int .i64 0], TUs)] (STS [(h, usS lf lu st g)] emp)) wr)) (fun _ _ i _ => 40 - (intOf i).toNat)
  case atStart => exact ⟨0, 0, 0, 0, 0, 0, ⟨some ⟨ub, uo, none⟩, huc, hs, hsc, hp, hpc, hi, hic⟩, Nat.zero_le _, by decide, rfl, rfl, rfl, (show Aside _ from (by unfold UsV; omega : UsV 0 0 0 0 0 0)), (show Aside _ from HQ.out)⟩
  case round => as_aux_lemma =>
    clear HQ
    obtain ⟨k, tk, lf, lu, st, g, h, hkn, hk40, rfl, rfl, rfl, hv, hall⟩ := hrel
    have q := hall.out
    have HVV := Lib.hid hv.out
    obtain ⟨v0, v1, v2, v3, v4, v5, v6, v7, v8, v9⟩ := hv.out
    clear hall hv
    by_cases hlt : k < n ∧ k < 40
    · obtain ⟨hltn, hlt40⟩ := hlt
      have hltI : (k : Int) < (n : Int) := by omega
      have hltJ : (k : Int) < 40 := by omega
      obtain ⟨b, off, x, rfl, hx, hcell⟩ := HEL.out k hltn
      have hc := hcell _ q.bel
      clear hcell hx
      obtain ⟨m, hm, m0, m1⟩ := and15 x
      obtain ⟨kk, hkk, kk0, kk1⟩ := and3 (x / 16)
      have lcb := World.block_lt_of_cell? wr ⟨b, off + k, none⟩ hc
      dsimp only at lcb
      have hws : IntKind.i64.wrap (st + 1) = st + 1 := by rw [IntKind.wrap_i64]; omega
      have hwg : IntKind.i64.wrap (g + 1) = g + 1 := by rw [IntKind.wrap_i64]; omega
      have ec := (OB.at q (i := 0) rfl).cell
      have lc := (OB.at q (i := 0) rfl).lt
      have es1 := (OB.at q (i := 1) rfl).cell
      have ls1 := (OB.at q (i := 1) rfl).lt
      obtain ⟨t2, ht2⟩ : ∃ t2, tk + m = t2 := ⟨_, rfl⟩
      have hwa : IntKind.i64.wrap t2 = t2 := by rw [IntKind.wrap_i64]; omega
      have hkc : kk = 0 ∨ kk = 1 ∨ kk = 2 ∨ kk = 3 := by omega
      have HB := Lib.hid q
      have E2 := Lib.hid (UsE.two HVV.out hlt40 ht2 m0 m1)
      have E3 := Lib.hid (UsE.three HVV.out hlt40 ht2 m0 m1)
      have E4 := Lib.hid (UsE.four HVV.out hlt40 ht2 m0 m1)
      have E7 := Lib.hid (UsE.seven HVV.out hlt40 ht2 m0 m1)
      clear v0 v1 v2 v3 v4 v5 v6 v7 v8 v9
      go_upto_block 2 with fail
      go_cut [8] from 35 to 177 (fun s8 w' => ∃ (kd a t s2 : Int) (ok : Bool) (lf' lu' g' : Int), s8 = .int .i64 s2 ∧ w' = wr.alloc (.cells #[.int .i64 kd, .int .i64 0, .int .i64 0, .int .i64 0, .int .i64 a, .int .i64 0, .int .i64 0, .int .i64 t] TEvt) ∧ UsE k lf lu st g t2 kd a t s2 ok lf' lu' g')
      case first => as_aux_lemma =>
        rcases hkc with rfl | rfl | rfl | rfl
        · obtain ⟨ok, lf', lu', hE⟩ := E2.out
          have HE := Lib.hid hE
          clear hE
          go_wp2
          go_meet
          exact ⟨2, 0, t2, st, ok, lf', lu', g, rfl, rfl, HE.out⟩
        · go_wp2
          go_meet
          exact ⟨3, st + 1, 0, st + 1, true, 0, 0, g, rfl, rfl, E3.out⟩
        · go_wp2
          go_meet
          exact ⟨4, 0, 0, st, true, 0, 0, g, rfl, rfl, E4.out⟩
        · go_wp2
          go_meet
          exact ⟨7, 0, 0, st, true, lf, lu, g + 1, rfl, rfl, E7.out⟩
      case rest => as_aux_lemma =>
        obtain ⟨kd, a, t, s2, ok, lf', lu', g', rfl, rfl, hE⟩ := hcut
        have q := HB.out
        have q8 : At w (OB [(b1, cfC cfP, TCf), (b2, (stN 1 0 1 h 2 1 3 0), TSt), (b3, #[.int .i64 1, .int .i64 7, .int .i64 8, .int .i64 60, .int .i64 0, .int .i64 0, .int .i64 0, .int .i64 0, .int .i64 0], TUs), (wr.heap.size, #[.int .i64 kd, .int .i64 0, .int .i64 0, .int .i64 0, .int .i64 a, .int .i64 0, .int .i64 0, .int .i64 t], TEvt)] (STS [(h, usS lf lu st g)] emp)) (wr.alloc (.cells #[.int .i64 kd, .int .i64 0, .int .i64 0, .int .i64 0, .int .i64 a, .int .i64 0, .int .i64 0, .int .i64 t] TEvt)) := OB.hold (STS.good emp_good) q #[.int .i64 kd, .int .i64 0, .int .i64 0, .int .i64 0, .int .i64 a, .int .i64 0, .int .i64 0, .int .i64 t] TEvt rfl
        have ec := (OB.at q8 (i := 0) rfl).cell
        have es1 := (OB.at q8 (i := 1) rfl).cell
        have ee := (OB.at q8 (i := 3) rfl).cell
        have HE := Lib.hid hE
        clear hE q HB E2 E3 E4 E7 hkc lc ls1 lcb
        generalize wr.alloc (.cells #[.int .i64 kd, .int .i64 0, .int .i64 0, .int .i64 0, .int .i64 a, .int .i64 0, .int .i64 0, .int .i64 t] TEvt) = W6 at *
        generalize wr.heap.size = be at *
        cases ok with
        | false => as_aux_lemma =>
          have HS := Lib.hid (HE.out.S.2 rfl)
          obtain ⟨hkd, hnl, hst⟩ := HE.out.no rfl
          subst hst hkd
          go_wp2_with (first
            | (go_at_call 13; (with_reducible refine (P.oapplyA (e := ⟨2, 0, 0, 0, a, 0, 0, t⟩) emp_good q8 (i := 0) rfl (usS_sm lf lu st g) (stN 1 0 1 h 2 1 3 0) rfl HS.out.1 HS.out.2).mono ?_); rintro r w5 ⟨h5, rfl, qa⟩; have q5 : At w (OB [(b1, cfC cfP, TCf), (b2, (stN 1 0 1 h 2 1 3 0), TSt), (b3, #[.int .i64 1, .int .i64 7, .int .i64 8, .int .i64 60, .int .i64 0, .int .i64 0, .int .i64 0, .int .i64 0, .int .i64 0], TUs), (be, #[.int .i64 2, .int .i64 0, .int .i64 0, .int .i64 0, .int .i64 a, .int .i64 0, .int .i64 0, .int .i64 t], TEvt)] (STS [(h, usS lf lu st g)] emp)) (w5.alloc (.cells (stN 0 0 0 h5 0 0 0 0) TSt)) := OB.lay1 (STS.good emp_good) (STS.drop 0 rfl qa) _; clear qa; have f1 := (OB.at q5 (i := 1) rfl).cell; have f2 := (OB.at q5 (i := 3) rfl).cell; obtain ⟨sb, so, e4, hsc⟩ := STS.us q5 (i := 0) rfl (usS_sm _ _ _ _) (j := 0) (by show 0 < 2; decide) (a := ⟨0, 5, 6, 50, 0, lf, lu, st, g⟩) rfl; obtain ⟨z0, z1, z2, z3, z4, z5, z6, z7, z8⟩ := hsc _ (Below.refl _ _); simp only [Nat.zero_mul, Nat.add_zero] at z0 z1 z2 z3 z4 z5 z6 z7 z8; clear hsc)
            | (go_at_call 11; (with_reducible refine (lnum _ _).mono ?_); rintro r wn ⟨rfl, rfl⟩))
          have q9 : At w (OB [(b1, cfC cfP, TCf), (b2, (stN 1 0 1 h 2 1 3 0), TSt), (b3, #[.int .i64 1, .int .i64 7, .int .i64 8, .int .i64 60, .int .i64 0, .int .i64 0, .int .i64 0, .int .i64 0, .int .i64 0], TUs)] (STS [(h, usS lf lu st g)] emp)) _ := OB.drop 3 rfl q5
          have HQ9 := Lib.hid q9
          clear q9
          go_roundw
          case rel => exact ⟨k + 1, t2, lf, lu, st, g, h, by omega, by omega, by go_num, rfl, rfl, (show Aside _ from HE.out.vno rfl), (show Aside _ from HQ9.out)⟩
          case measure => simp [intOf]; omega
        | true => as_aux_lemma =>
          have HS := Lib.hid (HE.out.S.1 rfl)
          go_wp2_with (first
            | (go_at_call 13; (with_reducible refine (P.oapplyA (e := ⟨kd, 0, 0, 0, a, 0, 0, t⟩) emp_good q8 (i := 0) rfl (usS_sm lf lu st g) (stN 1 0 1 h 2 1 3 0) rfl HS.out.1 HS.out.2).mono ?_); rintro r w5 ⟨⟨tu, tuc, ts, tsc, tp, tpc, ti, tic⟩, rfl, qa⟩; obtain ⟨tb, tof, e5, -⟩ := STS.us qa (i := 0) rfl (usS_sm _ _ _ _) (j := 0) (by show 0 < 2; decide) (a := ⟨0, 5, 6, 50, 0, lf', lu', s2, g'⟩) rfl; dsimp only at e5; subst e5; have q5 : At w (OB [(b1, cfC cfP, TCf), (b2, (stN 1 0 1 h 2 1 3 0), TSt), (b3, #[.int .i64 1, .int .i64 7, .int .i64 8, .int .i64 60, .int .i64 0, .int .i64 0, .int .i64 0, .int .i64 0, .int .i64 0], TUs), (be, #[.int .i64 kd, .int .i64 0, .int .i64 0, .int .i64 0, .int .i64 a, .int .i64 0, .int .i64 0, .int .i64 t], TEvt), (w5.heap.size, (stN 1 0 1 ⟨some ⟨tb, tof, none⟩, tuc, ts, tsc, tp, tpc, ti, tic⟩ 2 1 3 0), TSt)] (STS [(⟨some ⟨tb, tof, none⟩, tuc, ts, tsc, tp, tpc, ti, tic⟩, (usS lf' lu' s2 g')), (h, usS lf lu st g)] emp)) (w5.alloc (.cells (stN 1 0 1 ⟨some ⟨tb, tof, none⟩, tuc, ts, tsc, tp, tpc, ti, tic⟩ 2 1 3 0) TSt)) := OB.hold (STS.good emp_good) qa (stN 1 0 1 ⟨some ⟨tb, tof, none⟩, tuc, ts, tsc, tp, tpc, ti, tic⟩ 2 1 3 0) TSt rfl; clear qa)
            | (go_at_call 11; (with_reducible refine (lnum _ _).mono ?_); rintro r wn ⟨rfl, rfl⟩))
          generalize w5.alloc (.cells (stN 1 0 1 ⟨some ⟨tb, tof, none⟩, tuc, ts, tsc, tp, tpc, ti, tic⟩ 2 1 3 0) TSt) = W8 at *
          generalize w5.heap.size = bt at *
          obtain ⟨b5, o5, e5, htc⟩ := STS.us q5 (i := 0) rfl (usS_sm _ _ _ _) (j := 0) (by show 0 < 2; decide) (a := ⟨0, 5, 6, 50, 0, lf', lu', s2, g'⟩) rfl
          obtain ⟨rfl, rfl⟩ : tb = b5 ∧ tof = o5 := by simpa using e5
          obtain ⟨b6, o6, e6, htd⟩ := STS.us q5 (i := 0) rfl (usS_sm _ _ _ _) (j := 1) (by show 1 < 2; decide) (a := ⟨1, 7, 8, 60, 0, 0, 0, 0, 0⟩) rfl
          obtain ⟨rfl, rfl⟩ : tb = b6 ∧ tof = o6 := by simpa using e6
          obtain ⟨sb, so, e4, hsc⟩ := STS.us q5 (i := 1) rfl (usS_sm _ _ _ _) (j := 0) (by show 0 < 2; decide) (a := ⟨0, 5, 6, 50, 0, lf, lu, st, g⟩) rfl
          have HT := Lib.hid (And.intro htc htd)
          have HC := Lib.hid hsc
          have HQ8 := Lib.hid q5
          clear htc htd hsc q5 e5 e6 q8
          have f1 := fun s : Wl W8 => (OB.at (OB.lay (STS.good emp_good) HQ8.out s.h) (i := 4) rfl).cell
          have f2 := fun s : Wl W8 => (OB.at (OB.lay (STS.good emp_good) HQ8.out s.h) (i := 1) rfl).cell
          have f3 := fun s : Wl W8 => (OB.at (OB.lay (STS.good emp_good) HQ8.out s.h) (i := 2) rfl).cell
          have f4 := fun s : Wl W8 => (OB.at (OB.lay (STS.good emp_good) HQ8.out s.h) (i := 3) rfl).cell
          have y0 := fun s : Wl W8 => HT.out.2 _ s.h
          simp only [Nat.one_mul] at y0
          refine wp_region_wl W8 (Below.refl _ _) (by kernel_rfl) (by kernel_rfl) ?_
          repeat (go_big_quiet_step (first
            | (go_at_call 16; exact Calls.wl (se_yes (show SeIn [] _ ts 1 [⟨0, 1, 2, 3⟩] from (STS.at (OB.lay (STS.good emp_good) HQ8.out (Wl.h _)) (i := 0) rfl (usS_sm _ _ _ _)).ss) (show SeIn [] _ h.s 1 [⟨0, 1, 2, 3⟩] from (STS.at (OB.lay (STS.good emp_good) HQ8.out (Wl.h _)) (i := 1) rfl (usS_sm _ _ _ _)).ss)))
            | (go_at_call 17; exact Calls.wl (pa_yes (show PaIn [] _ tp 3 usAd from (STS.at (OB.lay (STS.good emp_good) HQ8.out (Wl.h _)) (i := 0) rfl (usS_sm _ _ _ _)).ad) (show PaIn [] _ h.p 3 usAd from (STS.at (OB.lay (STS.good emp_good) HQ8.out (Wl.h _)) (i := 1) rfl (usS_sm _ _ _ _)).ad)))))
          refine wpQuiet_nil ?_
          rintro _ ⟨⟨Y, hY0⟩, rfl⟩
          clear f1 f2 f3 f4 y0
          have hYY := hY0
          go_upto_region 28 with fail
          go_cut [176] from 35 to 177 (fun s w' => s = .bool false ∧ Below W8.heap.size W8 w')
          case first => as_aux_lemma =>
            have hY := hYY
            rcases HE.out.yes rfl with rfl | ⟨rfl, rfl, rfl⟩ | ⟨rfl, rfl, rfl⟩ | ⟨rfl, rfl⟩
            · have f1 := fun s : Wl W8 => (OB.at (OB.lay (STS.good emp_good) HQ8.out s.h) (i := 4) rfl).cell
              have f2 := fun s : Wl W8 => (OB.at (OB.lay (STS.good emp_good) HQ8.out s.h) (i := 1) rfl).cell
              have f3 := fun s : Wl W8 => (OB.at (OB.lay (STS.good emp_good) HQ8.out s.h) (i := 2) rfl).cell
              have f4 := fun s : Wl W8 => (OB.at (OB.lay (STS.good emp_good) HQ8.out s.h) (i := 3) rfl).cell
              have x5 := fun s : Wl W8 => (HT.out.1 _ s.h).2.2.2.2.2.1
              have x6 := fun s : Wl W8 => (HT.out.1 _ s.h).2.2.2.2.2.2.1
              have x7 := fun s : Wl W8 => (HT.out.1 _ s.h).2.2.2.2.2.2.2.1
              have x8 := fun s : Wl W8 => (HT.out.1 _ s.h).2.2.2.2.2.2.2.2
              have z5 := fun s : Wl W8 => (HC.out _ s.h).2.2.2.2.2.1
              have z6 := fun s : Wl W8 => (HC.out _ s.h).2.2.2.2.2.2.1
              have z7 := fun s : Wl W8 => (HC.out _ s.h).2.2.2.2.2.2.2.1
              have z8 := fun s : Wl W8 => (HC.out _ s.h).2.2.2.2.2.2.2.2
              simp only [Nat.zero_mul, Nat.add_zero] at x5 x6 x7 x8 z5 z6 z7 z8
              refine wp_region_wl W8 hY (by kernel_rfl) (by kernel_rfl) ?_
              repeat (go_big_quiet_step (fail))
              refine wpQuiet_nil ?_
              rintro _ ⟨⟨Z, hZ⟩, rfl⟩
              go_wp2
              go_meet
              exact ⟨rfl, hZ⟩
            · have f1 := fun s : Wl W8 => (OB.at (OB.lay (STS.good emp_good) HQ8.out s.h) (i := 4) rfl).cell
              have f2 := fun s : Wl W8 => (OB.at (OB.lay (STS.good emp_good) HQ8.out s.h) (i := 1) rfl).cell
              have f3 := fun s : Wl W8 => (OB.at (OB.lay (STS.good emp_good) HQ8.out s.h) (i := 2) rfl).cell
              have f4 := fun s : Wl W8 => (OB.at (OB.lay (STS.good emp_good) HQ8.out s.h) (i := 3) rfl).cell
              have x5 := fun s : Wl W8 => (HT.out.1 _ s.h).2.2.2.2.2.1
              have x6 := fun s : Wl W8 => (HT.out.1 _ s.h).2.2.2.2.2.2.1
              have x7 := fun s : Wl W8 => (HT.out.1 _ s.h).2.2.2.2.2.2.2.1
              have x8 := fun s : Wl W8 => (HT.out.1 _ s.h).2.2.2.2.2.2.2.2
              have z5 := fun s : Wl W8 => (HC.out _ s.h).2.2.2.2.2.1
              have z6 := fun s : Wl W8 => (HC.out _ s.h).2.2.2.2.2.2.1
              have z7 := fun s : Wl W8 => (HC.out _ s.h).2.2.2.2.2.2.2.1
              have z8 := fun s : Wl W8 => (HC.out _ s.h).2.2.2.2.2.2.2.2
              simp only [Nat.zero_mul, Nat.add_zero] at x5 x6 x7 x8 z5 z6 z7 z8
              refine wp_region_wl W8 hY (by kernel_rfl) (by kernel_rfl) ?_
              repeat (go_big_quiet_step (fail))
              refine wpQuiet_nil ?_
              rintro _ ⟨⟨Z, hZ⟩, rfl⟩
              go_wp2
              go_meet
              exact ⟨rfl, hZ⟩
            · have f1 := fun s : Wl W8 => (OB.at (OB.lay (STS.good emp_good) HQ8.out s.h) (i := 4) rfl).cell
              have f2 := fun s : Wl W8 => (OB.at (OB.lay (STS.good emp_good) HQ8.out s.h) (i := 1) rfl).cell
              have f3 := fun s : Wl W8 => (OB.at (OB.lay (STS.good emp_good) HQ8.out s.h) (i := 2) rfl).cell
              have f4 := fun s : Wl W8 => (OB.at (OB.lay (STS.good emp_good) HQ8.out s.h) (i := 3) rfl).cell
              have x5 := fun s : Wl W8 => (HT.out.1 _ s.h).2.2.2.2.2.1
              have x6 := fun s : Wl W8 => (HT.out.1 _ s.h).2.2.2.2.2.2.1
              have x7 := fun s : Wl W8 => (HT.out.1 _ s.h).2.2.2.2.2.2.2.1
              have x8 := fun s : Wl W8 => (HT.out.1 _ s.h).2.2.2.2.2.2.2.2
              have z5 := fun s : Wl W8 => (HC.out _ s.h).2.2.2.2.2.1
              have z6 := fun s : Wl W8 => (HC.out _ s.h).2.2.2.2.2.2.1
              have z7 := fun s : Wl W8 => (HC.out _ s.h).2.2.2.2.2.2.2.1
              have z8 := fun s : Wl W8 => (HC.out _ s.h).2.2.2.2.2.2.2.2
              simp only [Nat.zero_mul, Nat.add_zero] at x5 x6 x7 x8 z5 z6 z7 z8
              refine wp_region_wl W8 hY (by kernel_rfl) (by kernel_rfl) ?_
              repeat (go_big_quiet_step (fail))
              refine wpQuiet_nil ?_
              rintro _ ⟨⟨Z, hZ⟩, rfl⟩
              go_wp2
              go_meet
              exact ⟨rfl, hZ⟩
            · have f1 := fun s : Wl W8 => (OB.at (OB.lay (STS.good emp_good) HQ8.out s.h) (i := 4) rfl).cell
              have f2 := fun s : Wl W8 => (OB.at (OB.lay (STS.good emp_good) HQ8.out s.h) (i := 1) rfl).cell
              have f3 := fun s : Wl W8 => (OB.at (OB.lay (STS.good emp_good) HQ8.out s.h) (i := 2) rfl).cell
              have f4 := fun s : Wl W8 => (OB.at (OB.lay (STS.good emp_good) HQ8.out s.h) (i := 3) rfl).cell
              have x5 := fun s : Wl W8 => (HT.out.1 _ s.h).2.2.2.2.2.1
              have x6 := fun s : Wl W8 => (HT.out.1 _ s.h).2.2.2.2.2.2.1
              have x7 := fun s : Wl W8 => (HT.out.1 _ s.h).2.2.2.2.2.2.2.1
              have x8 := fun s : Wl W8 => (HT.out.1 _ s.h).2.2.2.2.2.2.2.2
              have z5 := fun s : Wl W8 => (HC.out _ s.h).2.2.2.2.2.1
              have z6 := fun s : Wl W8 => (HC.out _ s.h).2.2.2.2.2.2.1
              have z7 := fun s : Wl W8 => (HC.out _ s.h).2.2.2.2.2.2.2.1
              have z8 := fun s : Wl W8 => (HC.out _ s.h).2.2.2.2.2.2.2.2
              simp only [Nat.zero_mul, Nat.add_zero] at x5 x6 x7 x8 z5 z6 z7 z8
              refine wp_region_wl W8 hY (by kernel_rfl) (by kernel_rfl) ?_
              repeat (go_big_quiet_step (fail))
              refine wpQuiet_nil ?_
              rintro _ ⟨⟨Z, hZ⟩, rfl⟩
              go_wp2
              go_meet
              exact ⟨rfl, hZ⟩
          case rest => as_aux_lemma =>
            obtain ⟨rfl, hZ⟩ := hcut
            have q9 := OB.lay (STS.good emp_good) HQ8.out hZ
            have f1 := (OB.at q9 (i := 4) rfl).cell
            have f2 := (OB.at q9 (i := 1) rfl).cell
            have g2 := (OB.at q9 (i := 1) rfl).froz
            have q10 := OB.put7 (STS.good emp_good) q9 (i := 1) rfl (.int .i64 1) (.int .i64 0) (.int .i64 1) (.slice (some ⟨tb, tof, none⟩) 2 tuc) (.slice ts 1 tsc) (.slice tp 3 tpc) (.slice ti 0 tic)
            have q11 : At w (OB [(b1, cfC cfP, TCf), (b2, (stN 1 0 1 ⟨some ⟨tb, tof, none⟩, tuc, ts, tsc, tp, tpc, ti, tic⟩ 2 1 3 0), TSt), (b3, #[.int .i64 1, .int .i64 7, .int .i64 8, .int .i64 60, .int .i64 0, .int .i64 0, .int .i64 0, .int .i64 0, .int .i64 0], TUs)] (STS [(⟨some ⟨tb, tof, none⟩, tuc, ts, tsc, tp, tpc, ti, tic⟩, (usS lf' lu' s2 g'))] emp)) _ := STS.drop 1 rfl (OB.drop 3 rfl (OB.drop 4 rfl q10))
            have HQ11 := Lib.hid q11
            clear q9 q10 q11
            go_wp2
            go_roundw
            case rel => exact ⟨k + 1, t2, lf', lu', s2, g', _, by omega, by omega, by go_num, rfl, rfl, (show Aside _ from HE.out.V), (show Aside _ from HQ11.out)⟩
            case measure => simp [intOf]; omega
    · have hcond : ¬ ((k : Int) < (n : Int) ∧ (k : Int) < 40) := by omega
      have HQ := Lib.hid q
      clear q v0 v1 v2 v3 v4 v5 v6 v7 v8 v9
      by_cases h1 : (k : Int) < (n : Int)
      · have h2 : ¬ (k : Int) < 40 := fun c => hcond ⟨h1, c⟩
        clear hcond
        go_wp2
        go_ret
        exact ⟨rfl, HQ.out.bel⟩
      · clear hcond
        go_wp2
        go_ret
        exact ⟨rfl, HQ.out.bel⟩
end Go.Proofs.Ytopkcaflmpjhgaa
