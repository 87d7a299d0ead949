/- Put together: Cfp, Epm, Tdh. Conditions: each theorem's own. -/
import Derived.Test.YtopkcaflmpjhgaaGreatStr2
import Derived.Test.YtopkcaflmpjhgaaGreatBsp
import Derived.Test.YtopkcaflmpjhgaaGreatBpl
import Derived.Test.YtopkcaflmpjhgaaGreatRnb
import Derived.WalkKit
import Derived.LoopTactic
import Derived.Lib.BitFns
import Derived.Lib.Hide
import Derived.Deep.RegionWith
import Derived.Test.YtopkcaflmpjhgaaGreatBta
import Derived.Lib.SliceRun
namespace Go.Proofs.YtopkcaflmpjhgaaGreat
open Go Go.RowKit

theorem cfwithin (x a b : Int) (r : Bool) (h : r = decide (a ≤ x ∧ x ≤ b)) (w : World) : Calls Tryz.prog 70 #[.int .i64 x, .int .i64 a, .int .i64 b] w fun e w' => e = .returned (.bool r) ∧ w = w' := by
  subst h
  go_enter Tryz.func70, Tryz.ntmps70
  go_wp2
  all_goals (go_ret; refine ⟨?_, rfl⟩; congr 2; simp [*] <;> omega)
set_option maxRecDepth 100000 in
set_option maxHeartbeats 4000000 in
theorem cflives (l : List Int) (R : Bool) (h : l.all cfLife = R) (m : Nat) (hm : l.length = m) (hm4 : m ≤ 6) (W : World) (b : Nat) (hc : ∀ j, j < m → W.cell? ⟨b, j, none⟩ = some (.int .i64 (l.getD j 0))) : Calls Tryz.prog 71 #[.slice (some ⟨b, 0, none⟩) m m] W fun e w' => e = .returned (.bool R) ∧ W = w' := by
  have HM : R = true ↔ ∀ j, j < m → cfLife (l.getD j 0) = true := by
    rw [← h, List.all_eq_true]
    constructor
    · intro h j hj
      rw [List.getD, List.getElem?_eq_getElem (by omega)]
      exact h _ (List.getElem_mem _)
    · intro h x hx
      obtain ⟨j, hj, rfl⟩ := List.mem_iff_getElem.1 hx
      have := h j (by omega)
      rw [List.getD, List.getElem?_eq_getElem hj] at this
      exact this
  replace HM := Lib.hid HM
  have HC := Lib.hid hc
  clear h hm hc
  go_enter Tryz.func71, Tryz.ntmps71
  go_wp2
  go_loopw [7] (fun i wr => ∃ n : Nat, n ≤ m ∧ i = .int .i64 n ∧ (∀ j, j < n → cfLife (l.getD j 0) = true) ∧ W = wr) (fun i _ => m - (intOf i).toNat)
  case atStart => exact ⟨0, by omega, rfl, fun j hj => absurd hj (by omega), rfl⟩
  case round =>
    obtain ⟨n, hn, rfl, hall, rfl⟩ := hrel
    have HA := Lib.hid hall
    clear hall
    by_cases hlt : n < m
    · have hcell := HC.out n hlt
      obtain ⟨z, hz⟩ : ∃ z, l.getD n 0 = z := ⟨_, rfl⟩
      rw [hz] at hcell
      have Hz := Lib.hid hz
      clear hz
      have HW := Lib.hid (fun w => cfwithin z 1 65536 (cfLife z) (by unfold cfLife; simp) w)
      cases ho : cfLife z with
      | true =>
        have HO := Lib.hid ho
        rw [ho] at HW
        clear ho
        go_wp2_with (go_at_call 70; (with_reducible refine (HW.out _).mono ?_); rintro e w1 ⟨rfl, rfl⟩)
        go_roundw
        case rel =>
          refine ⟨n + 1, by omega, by go_num, fun j hj => ?_, trivial⟩
          by_cases e : j = n
          · subst e; rw [Hz.out]; exact HO.out
          · exact HA.out j (by omega)
        case measure => simp [intOf]; omega
      | false =>
        have HO := Lib.hid ho
        rw [ho] at HW
        clear ho
        obtain rfl : R = false := by
          cases R with
          | false => rfl
          | true =>
            have := HM.out.1 rfl n hlt
            rw [Hz.out, HO.out] at this
            cases this
        go_wp2_with (go_at_call 70; (with_reducible refine (HW.out _).mono ?_); rintro e w1 ⟨rfl, rfl⟩)
        go_ret
        exact ⟨rfl, rfl⟩
    · obtain rfl : n = m := by omega
      obtain rfl : R = true := HM.out.2 HA.out
      go_wp2
      go_ret
      exact ⟨rfl, rfl⟩
set_option maxRecDepth 100000 in
set_option maxHeartbeats 8000000 in
theorem pcfmay (c : Cf) (w : World) : Calls Tryz.prog 54 #[.agg (cfC c)] w fun e w' => e = .returned (.bool c.may) ∧ Below w.heap.size w w' := by
  have HB := Lib.hid (And.intro ((Below.refl w.heap.size w).alloc (Nat.le_refl _) (.cells (cfC c) TCf)) (fun (O : Obj) => ((Below.refl w.heap.size w).alloc (Nat.le_refl _) (.cells (cfC c) TCf)).alloc (by simp) O))
  obtain ⟨sec, hal, ses, adr, fai, loc, hlf, idl, abs, qua, tlf, kee⟩ := c
  have H0 := Lib.hid (fun w => cfwithin sec 3 256 _ rfl w)
  have H1 := Lib.hid (fun w => cfwithin hal 1 8 _ rfl w)
  have H2 := Lib.hid (fun w => cfwithin ses 1 8 _ rfl w)
  have H3 := Lib.hid (fun w => cfwithin adr 1 16 _ rfl w)
  have H4 := Lib.hid (fun w => cfwithin fai 1 8 _ rfl w)
  have H5 := Lib.hid (fun (W : World) (b : Nat) (hb : W.heap.size = b) => cflives [loc, hlf, idl, abs, qua, tlf] _ rfl 6 rfl (by omega) (W.alloc (.cells #[.int .i64 loc, .int .i64 hlf, .int .i64 idl, .int .i64 abs, .int .i64 qua, .int .i64 tlf] 3)) b (fun j hj => by
    rw [(Blk.new' W b hb #[.int .i64 loc, .int .i64 hlf, .int .i64 idl, .int .i64 abs, .int .i64 qua, .int .i64 tlf] 3).cell]
    match j, hj with
    | 0, _ => rfl
    | 1, _ => rfl
    | 2, _ => rfl
    | 3, _ => rfl
    | 4, _ => rfl
    | 5, _ => rfl))
  have H6 := Lib.hid (fun w => cfwithin kee 0 4 _ rfl w)
  have hM : (Cf.mk sec hal ses adr fai loc hlf idl abs qua tlf kee).may = (decide (3 ≤ sec ∧ sec ≤ 256) && decide (1 ≤ hal ∧ hal ≤ 8) && decide (1 ≤ ses ∧ ses ≤ 8) && decide (1 ≤ adr ∧ adr ≤ 16) && decide (1 ≤ fai ∧ fai ≤ 8) && [loc, hlf, idl, abs, qua, tlf].all cfLife && decide (0 ≤ kee ∧ kee ≤ 4)) := by
    unfold Cf.may
    simp only [Bool.decide_and, List.all_cons, List.all_nil, Bool.and_true, Bool.and_assoc]
  rw [hM]
  clear hM
  generalize decide (3 ≤ sec ∧ sec ≤ 256) = B0 at *
  generalize decide (1 ≤ hal ∧ hal ≤ 8) = B1 at *
  generalize decide (1 ≤ ses ∧ ses ≤ 8) = B2 at *
  generalize decide (1 ≤ adr ∧ adr ≤ 16) = B3 at *
  generalize decide (1 ≤ fai ∧ fai ≤ 8) = B4 at *
  generalize List.all [loc, hlf, idl, abs, qua, tlf] cfLife = B5 at *
  generalize decide (0 ≤ kee ∧ kee ≤ 4) = B6 at *
  have hcase : B0 = false ∨ (B0 = true ∧ B1 = false) ∨ (B0 = true ∧ B1 = true ∧ B2 = false) ∨ (B0 = true ∧ B1 = true ∧ B2 = true ∧ B3 = false) ∨ (B0 = true ∧ B1 = true ∧ B2 = true ∧ B3 = true ∧ B4 = false) ∨ (B0 = true ∧ B1 = true ∧ B2 = true ∧ B3 = true ∧ B4 = true) := by
    cases B0 <;> cases B1 <;> cases B2 <;> cases B3 <;> cases B4 <;> simp
  rcases hcase with rfl | ⟨rfl, rfl⟩ | ⟨rfl, rfl, rfl⟩ | ⟨rfl, rfl, rfl, rfl⟩ | ⟨rfl, rfl, rfl, rfl, rfl⟩ | ⟨rfl, rfl, rfl, rfl, rfl⟩
  case inr.inr.inr.inr.inr =>
    cases B5 with
    | false =>
      go_enter Tryz.func54, Tryz.ntmps54
      go_wp2_with (first
        | (go_at_call 70; (with_reducible refine (H0.out _).mono ?_); rintro e w1 ⟨rfl, rfl⟩)
        | (go_at_call 70; (with_reducible refine (H1.out _).mono ?_); rintro e w1 ⟨rfl, rfl⟩)
        | (go_at_call 70; (with_reducible refine (H2.out _).mono ?_); rintro e w1 ⟨rfl, rfl⟩)
        | (go_at_call 70; (with_reducible refine (H3.out _).mono ?_); rintro e w1 ⟨rfl, rfl⟩)
        | (go_at_call 70; (with_reducible refine (H4.out _).mono ?_); rintro e w1 ⟨rfl, rfl⟩)
        | (go_at_call 71; (with_reducible refine (H5.out _ _ (by simp)).mono ?_); rintro e w1 ⟨rfl, rfl⟩))
      go_ret
      exact ⟨rfl, HB.out.2 _⟩
    | true =>
      go_enter Tryz.func54, Tryz.ntmps54
      go_wp2_with (first
        | (go_at_call 70; (with_reducible refine (H0.out _).mono ?_); rintro e w1 ⟨rfl, rfl⟩)
        | (go_at_call 70; (with_reducible refine (H1.out _).mono ?_); rintro e w1 ⟨rfl, rfl⟩)
        | (go_at_call 70; (with_reducible refine (H2.out _).mono ?_); rintro e w1 ⟨rfl, rfl⟩)
        | (go_at_call 70; (with_reducible refine (H3.out _).mono ?_); rintro e w1 ⟨rfl, rfl⟩)
        | (go_at_call 70; (with_reducible refine (H4.out _).mono ?_); rintro e w1 ⟨rfl, rfl⟩)
        | (go_at_call 71; (with_reducible refine (H5.out _ _ (by simp)).mono ?_); rintro e w1 ⟨rfl, rfl⟩)
        | (go_at_call 70; (with_reducible refine (H6.out _).mono ?_); rintro e w1 ⟨rfl, rfl⟩))
      go_ret
      exact ⟨by simp, HB.out.2 _⟩
  all_goals
    go_enter Tryz.func54, Tryz.ntmps54
    go_wp2_with (first
        | (go_at_call 70; (with_reducible refine (H0.out _).mono ?_); rintro e w1 ⟨rfl, rfl⟩)
        | (go_at_call 70; (with_reducible refine (H1.out _).mono ?_); rintro e w1 ⟨rfl, rfl⟩)
        | (go_at_call 70; (with_reducible refine (H2.out _).mono ?_); rintro e w1 ⟨rfl, rfl⟩)
        | (go_at_call 70; (with_reducible refine (H3.out _).mono ?_); rintro e w1 ⟨rfl, rfl⟩)
        | (go_at_call 70; (with_reducible refine (H4.out _).mono ?_); rintro e w1 ⟨rfl, rfl⟩))
    go_ret
    exact ⟨rfl, HB.out.1⟩
end Go.Proofs.YtopkcaflmpjhgaaGreat

namespace Go.Proofs.YtopkcaflmpjhgaaGreat
open Go Go.RowKit

theorem ret_bo {a b : Bool} (h : a = b) : Ending.returned (.bool a) = .returned (.bool b) := by rw [h]
theorem ret_in {k : IntKind} {a b : Int} (h : a = b) : Ending.returned (.int k a) = .returned (.int k b) := by rw [h]
/-- Is the place in the set? -/
def pT (h : Nat) (j : Int) : Bool := bits BinOp.and IntKind.u64 (h / 2 ^ j.toNat) 1 == 1
theorem pHas (h : Nat) (j : Int) (w : World) (j0 : 0 ≤ j) (j1 : j ≤ 31) : Calls Tryz.prog 91 #[.int .u64 h, .int .i64 j] w fun e w' => e = .returned (.bool (pT h j)) ∧ w = w' := by
  go_enter Tryz.func91, Tryz.ntmps91
  go_wp2
  go_ret
  exact ⟨rfl, rfl⟩
/-- May the row's numbers be? -/
def okRow (U : Nat) (n : Nat) (r M : Nat → Int) : Bool := (List.range n).all fun j => (decide (0 ≤ r j) && decide (r j ≤ M j)) && (decide (r j = 0) || pT U j)
theorem okRow_no {U n : Nat} {r M : Nat → Int} (j : Nat) (hj : j < n) (h : r j < 0 ∨ M j < r j ∨ (r j ≠ 0 ∧ pT U j = false)) : okRow U n r M = false := by
  unfold okRow
  rw [List.all_eq_false]
  refine ⟨j, List.mem_range.2 hj, ?_⟩
  rcases h with h | h | ⟨h1, h2⟩
  · simp; omega
  · simp; omega
  · simp [h1, h2]
theorem okRow_yes {U n : Nat} {r M : Nat → Int} (h : ∀ j, j < n → 0 ≤ r j ∧ r j ≤ M j ∧ (r j = 0 ∨ pT U j = true)) : okRow U n r M = true := by
  unfold okRow
  rw [List.all_eq_true]
  intro j hj
  obtain ⟨h1, h2, h3⟩ := h j (List.mem_range.1 hj)
  simp [h1, h2, h3]

theorem okRow_step {U : Nat} {r M : Nat → Int} (j : Nat) (h : ∀ m : Nat, m < j → 0 ≤ r m ∧ r m ≤ M m ∧ (r m = 0 ∨ pT U m = true)) (h1 : 0 ≤ r j) (h2 : r j ≤ M j) (h3 : r j = 0 ∨ pT U j = true) : ∀ m : Nat, m < j + 1 → 0 ≤ r m ∧ r m ≤ M m ∧ (r m = 0 ∨ pT U m = true) := by
  intro m hm
  by_cases e : m = j
  · subst e; exact ⟨h1, h2, h3⟩
  · exact h m (by omega)
theorem or_of {x : Int} {b : Bool} (h : (x != 0) = false ∨ (!b) = false) : x = 0 ∨ b = true := by
  rcases h with h | h
  · exact .inl (by simpa using h)
  · exact .inr (by simpa using h)

set_option maxHeartbeats 2000000 in
theorem pMay (U n : Nat) (r M : Nat → Int) (b1 b2 : Nat) (w : World) (hn : n ≤ 32) (h1 : ∀ j, j < n → w.cell? ⟨b1, j, none⟩ = some (.int .i64 (r j))) (h2 : ∀ j, j < n → w.cell? ⟨b2, j, none⟩ = some (.int .i64 (M j))) :
    Calls Tryz.prog 73 #[.int .u64 U, .slice (some ⟨b1, 0, none⟩) n n, .slice (some ⟨b2, 0, none⟩) n n] w fun e w' => e = .returned (.bool (okRow U n r M)) ∧ w = w' := by
  have H1 := Lib.hid h1
  have H2 := Lib.hid h2
  have HH := Lib.hid (fun (j : Int) w j0 j1 => pHas U j w j0 j1)
  have HN := Lib.hid (fun j hj h => okRow_no (U := U) (n := n) (r := r) (M := M) j hj h)
  have HY := Lib.hid (fun h => okRow_yes (U := U) (n := n) (r := r) (M := M) h)
  generalize okRow U n r M = B at *
  clear h1 h2
  go_enter Tryz.func73, Tryz.ntmps73
  go_wp2
  go_loop [11] (fun i => ∃ j : Nat, j ≤ n ∧ (∀ m, m < j → 0 ≤ r m ∧ r m ≤ M m ∧ (r m = 0 ∨ pT U m = true)) ∧ i = .int .i64 j) (fun i => n - (intOf i).toNat)
  case atStart => exact ⟨0, by omega, fun m hm => absurd hm (by omega), rfl⟩
  case round =>
    obtain ⟨j, hj, hall, rfl⟩ := hrel
    have HA := Lib.hid hall
    clear hall
    by_cases hlt : j < n
    · have e1 := H1.out j hlt
      have e2 := H2.out j hlt
      have HHj := Lib.hid (fun w => HH.out (j : Int) w (by omega) (by omega))
      have HNj := Lib.hid (HN.out j hlt)
      have HXj := Lib.hid (okRow_step (U := U) (r := r) (M := M) j HA.out)
      generalize hx : r j = x at *
      generalize hM : M j = m0 at *
      generalize hp : pT U (j : Int) = tb at *
      go_wp2_with (go_at_call 91; (with_reducible refine (HHj.out _).mono ?_); rintro e w1 ⟨rfl, rfl⟩)
      all_goals first
        | (go_ret; refine ⟨ret_bo (HNj.out ?_).symm, rfl⟩; first | omega | (refine .inr (.inr ?_); simp_all))
        | (go_round
           case rel => exact ⟨j + 1, by omega, HXj.out (by omega) (by omega) (by first | exact .inl (by assumption) | exact .inr (by assumption) | exact or_of (by assumption) | simp_all), by go_num⟩
           case measure => simp [intOf]; omega)
    · obtain rfl : j = n := by omega
      go_wp2
      go_ret
      exact ⟨ret_bo (HY.out HA.out).symm, rfl⟩
def rowL (l : List Int) : Nat → Int := fun j => l.getD j 0
def arrN (n : Nat) (r : Nat → Int) : Array Value := ((List.range n).map fun i => Value.int .i64 (r i)).toArray
theorem arrN_get (n : Nat) (r : Nat → Int) (j : Nat) (hj : j < n) : (arrN n r)[j]? = some (.int .i64 (r j)) := by
  unfold arrN; simp [hj]
/-- Which places a kind has, a bit each; the greatest number of each. -/
def epU (k : Int) : Nat := if k = 0 then 64 else if k = 1 then 58 else if k = 2 then 66 else if k = 3 then 10 else if k = 4 then 2 else if k = 5 then 71 else if k = 6 then 89 else if k = 7 then 2 else if k = 8 then 0 else if k = 9 then 1 else 0
def epM (k : Int) : Nat → Int := if k = 6 then rowL [1073741823, 7, 15, 1073741823, 4, 1048576, 1048575] else rowL [1073741823, 7, 15, 1073741823, 1073741823, 1048576, 1048575]
def epI (k : Int) : Bool := decide (k = 0) || decide (k = 1) || decide (k = 2) || decide (k = 3) || decide (k = 4) || decide (k = 5) || decide (k = 6) || decide (k = 7) || decide (k = 8) || decide (k = 9)
theorem epnamed (k : Int) (w : World) : Calls Tryz.prog 72 #[.int .i64 k] w fun e w' => e = .returned (.tuple #[.int .u64 ((epU k : Nat) : Int), .bool (epI k)]) ∧ w = w' := by
  by_cases h0 : k = 0
  · subst h0
    show Calls _ _ _ _ fun e w' => e = .returned (.tuple #[.int .u64 (64 : Int), .bool true]) ∧ w = w'
    go_enter Tryz.func72, Tryz.ntmps72
    go_wp2
    go_ret2
    exact ⟨rfl, rfl⟩
  by_cases h1 : k = 1
  · subst h1
    show Calls _ _ _ _ fun e w' => e = .returned (.tuple #[.int .u64 (58 : Int), .bool true]) ∧ w = w'
    go_enter Tryz.func72, Tryz.ntmps72
    go_wp2
    go_ret2
    exact ⟨rfl, rfl⟩
  by_cases h2 : k = 2
  · subst h2
    show Calls _ _ _ _ fun e w' => e = .returned (.tuple #[.int .u64 (66 : Int), .bool true]) ∧ w = w'
    go_enter Tryz.func72, Tryz.ntmps72
    go_wp2
    go_ret2
    exact ⟨rfl, rfl⟩
  by_cases h3 : k = 3
  · subst h3
    show Calls _ _ _ _ fun e w' => e = .returned (.tuple #[.int .u64 (10 : Int), .bool true]) ∧ w = w'
    go_enter Tryz.func72, Tryz.ntmps72
    go_wp2
    go_ret2
    exact ⟨rfl, rfl⟩
  by_cases h4 : k = 4
  · subst h4
    show Calls _ _ _ _ fun e w' => e = .returned (.tuple #[.int .u64 (2 : Int), .bool true]) ∧ w = w'
    go_enter Tryz.func72, Tryz.ntmps72
    go_wp2
    go_ret2
    exact ⟨rfl, rfl⟩
  by_cases h5 : k = 5
  · subst h5
    show Calls _ _ _ _ fun e w' => e = .returned (.tuple #[.int .u64 (71 : Int), .bool true]) ∧ w = w'
    go_enter Tryz.func72, Tryz.ntmps72
    go_wp2
    go_ret2
    exact ⟨rfl, rfl⟩
  by_cases h6 : k = 6
  · subst h6
    show Calls _ _ _ _ fun e w' => e = .returned (.tuple #[.int .u64 (89 : Int), .bool true]) ∧ w = w'
    go_enter Tryz.func72, Tryz.ntmps72
    go_wp2
    go_ret2
    exact ⟨rfl, rfl⟩
  by_cases h7 : k = 7
  · subst h7
    show Calls _ _ _ _ fun e w' => e = .returned (.tuple #[.int .u64 (2 : Int), .bool true]) ∧ w = w'
    go_enter Tryz.func72, Tryz.ntmps72
    go_wp2
    go_ret2
    exact ⟨rfl, rfl⟩
  by_cases h8 : k = 8
  · subst h8
    show Calls _ _ _ _ fun e w' => e = .returned (.tuple #[.int .u64 (0 : Int), .bool true]) ∧ w = w'
    go_enter Tryz.func72, Tryz.ntmps72
    go_wp2
    go_ret2
    exact ⟨rfl, rfl⟩
  by_cases h9 : k = 9
  · subst h9
    show Calls _ _ _ _ fun e w' => e = .returned (.tuple #[.int .u64 (1 : Int), .bool true]) ∧ w = w'
    go_enter Tryz.func72, Tryz.ntmps72
    go_wp2
    go_ret2
    exact ⟨rfl, rfl⟩
  rw [show epU k = 0 by unfold epU; rw [if_neg h0, if_neg h1, if_neg h2, if_neg h3, if_neg h4, if_neg h5, if_neg h6, if_neg h7, if_neg h8, if_neg h9], show epI k = false by unfold epI; simp [h0, h1, h2, h3, h4, h5, h6, h7, h8, h9]]
  show Calls _ _ _ _ fun e w' => e = .returned (.tuple #[.int .u64 (0 : Int), .bool false]) ∧ w = w'
  have g0 : (k == 0) = false := by simpa using h0
  clear h0
  have g1 : (k == 1) = false := by simpa using h1
  clear h1
  have g2 : (k == 2) = false := by simpa using h2
  clear h2
  have g3 : (k == 3) = false := by simpa using h3
  clear h3
  have g4 : (k == 4) = false := by simpa using h4
  clear h4
  have g5 : (k == 5) = false := by simpa using h5
  clear h5
  have g6 : (k == 6) = false := by simpa using h6
  clear h6
  have g7 : (k == 7) = false := by simpa using h7
  clear h7
  have g8 : (k == 8) = false := by simpa using h8
  clear h8
  have g9 : (k == 9) = false := by simpa using h9
  clear h9
  go_enter Tryz.func72, Tryz.ntmps72
  go_wp2
  go_ret2
  exact ⟨rfl, rfl⟩
theorem eplimits (k : Int) (w : World) : Calls Tryz.prog 75 #[.int .i64 k] w fun e w' => ∃ b, e = .returned (.slice (some ⟨b, 0, none⟩) 7 7) ∧ Below w.heap.size w w' ∧ w.heap.size ≤ b ∧ Blk w' b (arrN 7 (epM k)) := by
  by_cases h6 : k = 6
  · subst h6
    go_enter Tryz.func75, Tryz.ntmps75
    go_wp2
    refine bodyPost_ret (v := .slice (some ⟨w.heap.size, 0, none⟩) 7 7) (by simp [results, Tryz.results75, go_sem]) rfl ⟨w.heap.size, rfl, (Below.refl _ _).alloc (Nat.le_refl _) _, Nat.le_refl _, Blk.new _ _ _⟩
  rw [show epM k = rowL [1073741823, 7, 15, 1073741823, 1073741823, 1048576, 1048575] by unfold epM; rw [if_neg h6]]
  have g6 : (k == 6) = false := by simpa using h6
  clear h6
  go_enter Tryz.func75, Tryz.ntmps75
  go_wp2
  refine bodyPost_ret (v := .slice (some ⟨w.heap.size, 0, none⟩) 7 7) (by simp [results, Tryz.results75, go_sem]) rfl ⟨w.heap.size, rfl, (Below.refl _ _).alloc (Nat.le_refl _) _, Nat.le_refl _, Blk.new _ _ _⟩
theorem eprow (k u s a x y z t : Int) (w : World) : Calls Tryz.prog 74 #[.agg #[.int .i64 k, .int .i64 u, .int .i64 s, .int .i64 a, .int .i64 x, .int .i64 y, .int .i64 z, .int .i64 t]] w fun e w' => ∃ b, e = .returned (.slice (some ⟨b, 0, none⟩) 7 7) ∧ Below w.heap.size w w' ∧ w.heap.size ≤ b ∧ Blk w' b (arrN 7 (rowL [s, u, a, x, y, z, t])) := by
  go_enter Tryz.func74, Tryz.ntmps74
  go_wp2
  refine bodyPost_ret (v := .slice (some ⟨w.heap.size + 1, 0, none⟩) 7 7) (by simp [results, Tryz.results74, go_sem]) rfl ⟨w.heap.size + 1, rfl, ((Below.refl _ _).alloc (Nat.le_refl _) _).alloc (by simp) _, by omega, Blk.new' _ _ (by simp) _ _⟩
/-- What the program asks. -/
def epok (k u s a x y z t : Int) : Bool := (epI k) && okRow (epU k) 7 (rowL [s, u, a, x, y, z, t]) (epM k)
set_option maxHeartbeats 2000000 in
theorem epmayR (k u s a x y z t : Int) (w : World) : Calls Tryz.prog 55 #[.agg #[.int .i64 k, .int .i64 u, .int .i64 s, .int .i64 a, .int .i64 x, .int .i64 y, .int .i64 z, .int .i64 t]] w fun e w' => e = .returned (.bool (epok k u s a x y z t)) ∧ Below w.heap.size w w' := by
  have HN := Lib.hid (fun w => epnamed k w)
  have HR := Lib.hid (fun w => eprow k u s a x y z t w)
  have HL := Lib.hid (fun w => eplimits k w)
  have HM := Lib.hid (fun b1 b2 w h1 h2 => pMay (epU k) 7 (rowL [s, u, a, x, y, z, t]) (epM k) b1 b2 w (by omega) h1 h2)
  have HP : Hid (epok k u s a x y z t = ((epI k) && okRow (epU k) 7 (rowL [s, u, a, x, y, z, t]) (epM k))) := Lib.hid rfl
  have HA1 := Lib.hid (fun j hj => arrN_get 7 (rowL [s, u, a, x, y, z, t]) j hj)
  have HA2 := Lib.hid (fun j hj => arrN_get 7 (epM k) j hj)
  generalize epok k u s a x y z t = B at *
  generalize okRow (epU k) 7 (rowL [s, u, a, x, y, z, t]) (epM k) = B1 at *
  generalize (rowL [s, u, a, x, y, z, t]) = r at *
  generalize (epM k) = m at *
  generalize epI k = I at *
  generalize epU k = u0 at *
  cases hI : I with
  | false =>
    rw [hI] at HP HN
    go_enter Tryz.func55, Tryz.ntmps55
    go_wp2_with (go_at_call 72; (with_reducible refine (HN.out _).mono ?_); rintro e w1 ⟨rfl, rfl⟩)
    have kp := ((Blk.new w #[.int .i64 k, .int .i64 u, .int .i64 s, .int .i64 a, .int .i64 x, .int .i64 y, .int .i64 z, .int .i64 t] 45)).drew
    have e1 := kp.cell
    have hb' : Below w.heap.size w (w.alloc (.cells #[.int .i64 k, .int .i64 u, .int .i64 s, .int .i64 a, .int .i64 x, .int .i64 y, .int .i64 z, .int .i64 t] 45)).drew := ((Below.refl _ _).alloc (Nat.le_refl _) _).trans ⟨rfl, rfl, rfl, Nat.le_refl _, fun _ _ => rfl⟩
    first
      | (go_region_with (first
    | (go_at_call 74; (with_reducible refine (HR.out _).mono ?_); rintro e w1 ⟨x1, rfl, hb, -, k1⟩; replace kp := kp.step hb; have e1 := kp.cell; have g1 := kp.froz; have l1 := kp.lt; replace hb' := hb'.trans (hb.mono hb'.size); clear hb)
    | (go_at_call 75; (with_reducible refine (HL.out _).mono ?_); rintro e w2 ⟨x2, rfl, hb, -, k2⟩; replace kp := kp.step hb; have e1 := kp.cell; have g1 := kp.froz; have l1 := kp.lt; replace k1 := k1.step hb; replace hb' := hb'.trans (hb.mono hb'.size); clear hb)
    | (go_at_call 73; (with_reducible refine (HM.out _ _ _ (fun j hj => (k1.cell j).trans (HA1.out j hj)) (fun j hj => (k2.cell j).trans (HA2.out j hj))).mono ?_); rintro e w3 ⟨rfl, rfl⟩)))
      | fail
    all_goals
      go_wp2
      go_ret
      exact ⟨ret_bo (by rw [HP.out]; rfl), hb'⟩
  | true =>
    rw [hI] at HP HN
    go_enter Tryz.func55, Tryz.ntmps55
    go_wp2_with (go_at_call 72; (with_reducible refine (HN.out _).mono ?_); rintro e w1 ⟨rfl, rfl⟩)
    have kp := ((Blk.new w #[.int .i64 k, .int .i64 u, .int .i64 s, .int .i64 a, .int .i64 x, .int .i64 y, .int .i64 z, .int .i64 t] 45)).drew
    have e1 := kp.cell
    have hb' : Below w.heap.size w (w.alloc (.cells #[.int .i64 k, .int .i64 u, .int .i64 s, .int .i64 a, .int .i64 x, .int .i64 y, .int .i64 z, .int .i64 t] 45)).drew := ((Below.refl _ _).alloc (Nat.le_refl _) _).trans ⟨rfl, rfl, rfl, Nat.le_refl _, fun _ _ => rfl⟩
    first
      | (go_region_with (first
    | (go_at_call 74; (with_reducible refine (HR.out _).mono ?_); rintro e w1 ⟨x1, rfl, hb, -, k1⟩; replace kp := kp.step hb; have e1 := kp.cell; have g1 := kp.froz; have l1 := kp.lt; replace hb' := hb'.trans (hb.mono hb'.size); clear hb)
    | (go_at_call 75; (with_reducible refine (HL.out _).mono ?_); rintro e w2 ⟨x2, rfl, hb, -, k2⟩; replace kp := kp.step hb; have e1 := kp.cell; have g1 := kp.froz; have l1 := kp.lt; replace k1 := k1.step hb; replace hb' := hb'.trans (hb.mono hb'.size); clear hb)
    | (go_at_call 73; (with_reducible refine (HM.out _ _ _ (fun j hj => (k1.cell j).trans (HA1.out j hj)) (fun j hj => (k2.cell j).trans (HA2.out j hj))).mono ?_); rintro e w3 ⟨rfl, rfl⟩)))
      | fail
    all_goals
      go_wp2
      go_ret
      exact ⟨ret_bo (by rw [HP.out]; rfl), hb'⟩
theorem epok_of {k : Int} (U : Nat) (m0 m1 m2 m3 m4 m5 m6 : Int) (B0 B1 B2 B3 B4 B5 B6 : Bool) (hU : epU k = U) (hI : (epI k) = true) (hM : (epM k) = rowL [m0, m1, m2, m3, m4, m5, m6]) (e0 : pT U ((0 : Nat) : Int) = B0) (e1 : pT U ((1 : Nat) : Int) = B1) (e2 : pT U ((2 : Nat) : Int) = B2) (e3 : pT U ((3 : Nat) : Int) = B3) (e4 : pT U ((4 : Nat) : Int) = B4) (e5 : pT U ((5 : Nat) : Int) = B5) (e6 : pT U ((6 : Nat) : Int) = B6) (u s a x y z t : Int) :
    epok k u s a x y z t = true ↔ ((0 ≤ s ∧ s ≤ m0) ∧ (s = 0 ∨ B0 = true)) ∧ ((0 ≤ u ∧ u ≤ m1) ∧ (u = 0 ∨ B1 = true)) ∧ ((0 ≤ a ∧ a ≤ m2) ∧ (a = 0 ∨ B2 = true)) ∧ ((0 ≤ x ∧ x ≤ m3) ∧ (x = 0 ∨ B3 = true)) ∧ ((0 ≤ y ∧ y ≤ m4) ∧ (y = 0 ∨ B4 = true)) ∧ ((0 ≤ z ∧ z ≤ m5) ∧ (z = 0 ∨ B5 = true)) ∧ ((0 ≤ t ∧ t ≤ m6) ∧ (t = 0 ∨ B6 = true)) := by
  unfold epok okRow
  rw [hI, hU, hM, show List.range 7 = [0, 1, 2, 3, 4, 5, 6] from rfl]
  simp only [List.all_cons, List.all_nil, Bool.and_eq_true, Bool.or_eq_true, decide_eq_true_eq, Bool.and_true, true_and, e0, e1, e2, e3, e4, e5, e6]
  simp only [rowL, List.getD_cons_zero, List.getD_cons_succ]
theorem epmay_ok (k u s a x y z t : Int) : epok k u s a x y z t = (Ev.mk k u s a x y z t).may := by
  rw [Bool.eq_iff_iff, Ev.may_iff, Ev.rng_iff]
  simp only [okNum_iff]
  by_cases h0 : k = 0
  · subst h0
    rw [epok_of 64 1073741823 7 15 1073741823 1073741823 1048576 1048575 false false false false false false true rfl rfl rfl (by kernel_rfl) (by kernel_rfl) (by kernel_rfl) (by kernel_rfl) (by kernel_rfl) (by kernel_rfl) (by kernel_rfl)]
    simp [Ev.part, Ev.lim]
    grind
  by_cases h1 : k = 1
  · subst h1
    rw [epok_of 58 1073741823 7 15 1073741823 1073741823 1048576 1048575 false true false true true true false rfl rfl rfl (by kernel_rfl) (by kernel_rfl) (by kernel_rfl) (by kernel_rfl) (by kernel_rfl) (by kernel_rfl) (by kernel_rfl)]
    simp [Ev.part, Ev.lim]
    grind
  by_cases h2 : k = 2
  · subst h2
    rw [epok_of 66 1073741823 7 15 1073741823 1073741823 1048576 1048575 false true false false false false true rfl rfl rfl (by kernel_rfl) (by kernel_rfl) (by kernel_rfl) (by kernel_rfl) (by kernel_rfl) (by kernel_rfl) (by kernel_rfl)]
    simp [Ev.part, Ev.lim]
    grind
  by_cases h3 : k = 3
  · subst h3
    rw [epok_of 10 1073741823 7 15 1073741823 1073741823 1048576 1048575 false true false true false false false rfl rfl rfl (by kernel_rfl) (by kernel_rfl) (by kernel_rfl) (by kernel_rfl) (by kernel_rfl) (by kernel_rfl) (by kernel_rfl)]
    simp [Ev.part, Ev.lim]
    grind
  by_cases h4 : k = 4
  · subst h4
    rw [epok_of 2 1073741823 7 15 1073741823 1073741823 1048576 1048575 false true false false false false false rfl rfl rfl (by kernel_rfl) (by kernel_rfl) (by kernel_rfl) (by kernel_rfl) (by kernel_rfl) (by kernel_rfl) (by kernel_rfl)]
    simp [Ev.part, Ev.lim]
    grind
  by_cases h5 : k = 5
  · subst h5
    rw [epok_of 71 1073741823 7 15 1073741823 1073741823 1048576 1048575 true true true false false false true rfl rfl rfl (by kernel_rfl) (by kernel_rfl) (by kernel_rfl) (by kernel_rfl) (by kernel_rfl) (by kernel_rfl) (by kernel_rfl)]
    simp [Ev.part, Ev.lim]
    grind
  by_cases h6 : k = 6
  · subst h6
    rw [epok_of 89 1073741823 7 15 1073741823 4 1048576 1048575 true false false true true false true rfl rfl rfl (by kernel_rfl) (by kernel_rfl) (by kernel_rfl) (by kernel_rfl) (by kernel_rfl) (by kernel_rfl) (by kernel_rfl)]
    simp [Ev.part, Ev.lim]
    grind
  by_cases h7 : k = 7
  · subst h7
    rw [epok_of 2 1073741823 7 15 1073741823 1073741823 1048576 1048575 false true false false false false false rfl rfl rfl (by kernel_rfl) (by kernel_rfl) (by kernel_rfl) (by kernel_rfl) (by kernel_rfl) (by kernel_rfl) (by kernel_rfl)]
    simp [Ev.part, Ev.lim]
    grind
  by_cases h8 : k = 8
  · subst h8
    rw [epok_of 0 1073741823 7 15 1073741823 1073741823 1048576 1048575 false false false false false false false rfl rfl rfl (by kernel_rfl) (by kernel_rfl) (by kernel_rfl) (by kernel_rfl) (by kernel_rfl) (by kernel_rfl) (by kernel_rfl)]
    simp [Ev.part, Ev.lim]
    grind
  by_cases h9 : k = 9
  · subst h9
    rw [epok_of 1 1073741823 7 15 1073741823 1073741823 1048576 1048575 true false false false false false false rfl rfl rfl (by kernel_rfl) (by kernel_rfl) (by kernel_rfl) (by kernel_rfl) (by kernel_rfl) (by kernel_rfl) (by kernel_rfl)]
    simp [Ev.part, Ev.lim]
    grind
  have e2 : epok k u s a x y z t = false := by
    unfold epok
    rw [show epI k = false by unfold epI; simp [h0, h1, h2, h3, h4, h5, h6, h7, h8, h9]]
    rfl
  rw [e2]
  simp [Ev.part, h0, h1, h2, h3, h4, h5, h6, h7, h8, h9]
theorem epmay (p : Ev) (w : World) : Calls Tryz.prog 55 #[p.val] w fun e w' => e = .returned (.bool p.may) ∧ Below w.heap.size w w' := by
  obtain ⟨k, u, s, a, x, y, z, t⟩ := p
  rw [← epmay_ok]
  exact epmayR k u s a x y z t w
end Go.Proofs.YtopkcaflmpjhgaaGreat

namespace Go.Proofs.YtopkcaflmpjhgaaGreat
open Go Go.RowKit Go.Maps

set_option maxRecDepth 100000 in
set_option maxHeartbeats 2000000 in
theorem tclU {w0 w : World} {C : Ass} (hC : C.Good) {ao : Option Addr} {n cap : Nat} {es : List Us} (hes : UsIn [] w ao n es) (hc : ao = none → cap = 0) (hn : n ≤ 1954687338263) (hA : At w0 C w) :
    Calls Tryz.prog 26 #[.slice ao n cap] w fun e w' => ∃ a2 c2, e = .returned (.slice a2 n c2) ∧ At w0 ((rowE TUs 9 (.slice a2 n c2) es.length (usCells es)).star C) w' := by
  have HD := Lib.hid (fun ty => us_dup hC hA hes hc hn ty)
  cases ao with
  | none =>
    obtain rfl := hc rfl
    have hq := Lib.run_eql_slice_nil (P := Tryz.prog) w 24 TUs none n 0 0 0 Tryz.underlying24
    obtain rfl : n = 0 := by
      rcases hes.row with c | ⟨_, _, e, _⟩
      · exact c
      · cases e
    obtain rfl : es = [] := List.length_eq_zero_iff.1 hes.len.symm
    have HA := Lib.hid (At.erow0 TUs 9 hA)
    clear hes hn hA HD hc
    go_enter Tryz.func26, Tryz.ntmps26
    go_wp2
    go_ret
    exact ⟨_, _, rfl, HA.out⟩
  | some a =>
    have hq := Lib.run_eql_slice_nil (P := Tryz.prog) w 24 TUs (some a) n cap 0 0 Tryz.underlying24
    clear hes hn hA hc
    go_enter Tryz.func26, Tryz.ntmps26
    go_wp2_with (at_builtin; obtain ⟨a2, c2, w2, hrun, hS⟩ := HD.out _; refine us_app rfl _ _ rfl rfl rfl hrun ?_)
    go_ret
    exact ⟨a2, c2, rfl, hS⟩
set_option maxRecDepth 100000 in
set_option maxHeartbeats 2000000 in
theorem tclS {w0 w : World} {C : Ass} (hC : C.Good) {ao : Option Addr} {n cap : Nat} {es : List Se} (hes : SeIn [] w ao n es) (hc : ao = none → cap = 0) (hn : n ≤ 4398046511099) (hA : At w0 C w) :
    Calls Tryz.prog 27 #[.slice ao n cap] w fun e w' => ∃ a2 c2, e = .returned (.slice a2 n c2) ∧ At w0 ((rowE TSe 4 (.slice a2 n c2) es.length (seCells es)).star C) w' := by
  have HD := Lib.hid (fun ty => se_dup hC hA hes hc hn ty)
  cases ao with
  | none =>
    obtain rfl := hc rfl
    have hq := Lib.run_eql_slice_nil (P := Tryz.prog) w 25 TSe none n 0 0 0 Tryz.underlying25
    obtain rfl : n = 0 := by
      rcases hes.row with c | ⟨_, _, e, _⟩
      · exact c
      · cases e
    obtain rfl : es = [] := List.length_eq_zero_iff.1 hes.len.symm
    have HA := Lib.hid (At.erow0 TSe 4 hA)
    clear hes hn hA HD hc
    go_enter Tryz.func27, Tryz.ntmps27
    go_wp2
    go_ret
    exact ⟨_, _, rfl, HA.out⟩
  | some a =>
    have hq := Lib.run_eql_slice_nil (P := Tryz.prog) w 25 TSe (some a) n cap 0 0 Tryz.underlying25
    clear hes hn hA hc
    go_enter Tryz.func27, Tryz.ntmps27
    go_wp2_with (at_builtin; obtain ⟨a2, c2, w2, hrun, hS⟩ := HD.out _; refine se_app rfl _ _ rfl rfl rfl hrun ?_)
    go_ret
    exact ⟨a2, c2, rfl, hS⟩
set_option maxRecDepth 100000 in
set_option maxHeartbeats 2000000 in
theorem tclP {w0 w : World} {C : Ass} (hC : C.Good) {ao : Option Addr} {n cap : Nat} {es : List Pa} (hes : PaIn [] w ao n es) (hc : ao = none → cap = 0) (hn : n ≤ 5864062014800) (hA : At w0 C w) :
    Calls Tryz.prog 28 #[.slice ao n cap] w fun e w' => ∃ a2 c2, e = .returned (.slice a2 n c2) ∧ At w0 ((rowE TPa 3 (.slice a2 n c2) es.length (paCells es)).star C) w' := by
  have HD := Lib.hid (fun ty => pa_dup hC hA hes hc hn ty)
  cases ao with
  | none =>
    obtain rfl := hc rfl
    have hq := Lib.run_eql_slice_nil (P := Tryz.prog) w 26 TPa none n 0 0 0 Tryz.underlying26
    obtain rfl : n = 0 := by
      rcases hes.row with c | ⟨_, _, e, _⟩
      · exact c
      · cases e
    obtain rfl : es = [] := List.length_eq_zero_iff.1 hes.len.symm
    have HA := Lib.hid (At.erow0 TPa 3 hA)
    clear hes hn hA HD hc
    go_enter Tryz.func28, Tryz.ntmps28
    go_wp2
    go_ret
    exact ⟨_, _, rfl, HA.out⟩
  | some a =>
    have hq := Lib.run_eql_slice_nil (P := Tryz.prog) w 26 TPa (some a) n cap 0 0 Tryz.underlying26
    clear hes hn hA hc
    go_enter Tryz.func28, Tryz.ntmps28
    go_wp2_with (at_builtin; obtain ⟨a2, c2, w2, hrun, hS⟩ := HD.out _; refine pa_app rfl _ _ rfl rfl rfl hrun ?_)
    go_ret
    exact ⟨a2, c2, rfl, hS⟩
set_option maxRecDepth 100000 in
set_option maxHeartbeats 2000000 in
theorem tclI {w0 w : World} {C : Ass} (hC : C.Good) {ao : Option Addr} {n cap : Nat} {es : List Int} (hes : InIn [] w ao n es) (hc : ao = none → cap = 0) (hn : n ≤ 17592186044411) (hA : At w0 C w) :
    Calls Tryz.prog 29 #[.slice ao n cap] w fun e w' => ∃ a2 c2, e = .returned (.slice a2 n c2) ∧ At w0 ((rowE TIn 1 (.slice a2 n c2) es.length (inCells es)).star C) w' := by
  have HD := Lib.hid (fun ty => in_dup hC hA hes hc hn ty)
  cases ao with
  | none =>
    obtain rfl := hc rfl
    have hq := Lib.run_eql_slice_nil (P := Tryz.prog) w 27 TIn none n 0 0 0 Tryz.underlying27
    obtain rfl : n = 0 := by
      rcases hes.row with c | ⟨_, _, e, _⟩
      · exact c
      · cases e
    obtain rfl : es = [] := List.length_eq_zero_iff.1 hes.len.symm
    have HA := Lib.hid (At.erow0 TIn 1 hA)
    clear hes hn hA HD hc
    go_enter Tryz.func29, Tryz.ntmps29
    go_wp2
    go_ret
    exact ⟨_, _, rfl, HA.out⟩
  | some a =>
    have hq := Lib.run_eql_slice_nil (P := Tryz.prog) w 27 TIn (some a) n cap 0 0 Tryz.underlying27
    clear hes hn hA hc
    go_enter Tryz.func29, Tryz.ntmps29
    go_wp2_with (at_builtin; obtain ⟨a2, c2, w2, hrun, hS⟩ := HD.out _; refine in_app rfl _ _ rfl rfl rfl hrun ?_)
    go_ret
    exact ⟨a2, c2, rfl, hS⟩
theorem row_in0 (A : Ass) : (A.star emp).imp (A.star ((rowE TIn 1 (.slice none 0 0) 0 []).star emp)) := by
  refine Ass.imp.under ?_ A
  rintro w F hF
  exact ⟨F, ⟨[], F, rfl, ⟨World.ownsRow_nil _ _ _ _, rfl⟩, hF, fun k hk => by cases hk⟩, fun k => Iff.rfl⟩
set_option maxRecDepth 100000 in
set_option maxHeartbeats 2000000 in
/-- New. -/
theorem tnew (n : Int) (w : World) : Calls Tryz.prog 4 #[.int .i64 n] w fun e w' => ∃ h' : Sv, e = .returned (.tuple #[.agg (stC h' (snS n)), .int .i64 (snE n)]) ∧ StNew w h' (snS n) w' := by
  have HP := Lib.hid (fun V => pnew n V)
  have hb := (Below.refl w.heap.size w).alloc (Nat.le_refl _) (.cells #[.int .i64 0, .int .i64 0, .int .i64 0, .slice none 0 0, .slice none 0 0, .slice none 0 0, .slice none 0 0] TSt)
  have kb := Blk.new w #[.int .i64 0, .int .i64 0, .int .i64 0, .slice none 0 0, .slice none 0 0, .slice none 0 0, .slice none 0 0] TSt
  have HB := Lib.hid hb
  have HK := Lib.hid kb
  have q0 := At.hold emp_good (At.none (Below.refl w.heap.size w)) #[.int .i64 0, .int .i64 0, .int .i64 0, .slice none 0 0, .slice none 0 0, .slice none 0 0, .slice none 0 0] TSt
  have HQ := Lib.hid q0
  clear hb kb q0
  cases ho : pnOk n with
  | false =>
    rw [show snS n = St.none by unfold snS pnL; rw [ho]; rfl, show snE n = 2000 by unfold snE; rw [ho]; rfl]
    rw [show pnL n = [] by unfold pnL; rw [ho]; rfl, show pnE n = 1600 by unfold pnE; rw [ho]; rfl] at HP
    clear ho
    go_enter Tryz.func4, Tryz.ntmps4
    go_wp2_with (go_at_call 17; (with_reducible refine (HP.out _).mono ?_); rintro e w1 ⟨a2, c2, rfl, hS⟩; have k1 := HK.out.step hS.bel; have e1 := k1.cell; have f1 := k1.froz; have l1 := k1.lt; have q1 := At.lay ((ownA_good _ _ _).star emp_good) HQ.out hS.bel; have HX := Lib.hid (((((((q1.poke emp_good 0 (.int .i64 0)).poke emp_good 1 (.int .i64 0)).poke emp_good 2 (.int .i64 0)).poke emp_good 3 (.slice none 0 0)).poke emp_good 4 (.slice none 0 0)).poke emp_good 5 (.slice none 0 0)).poke emp_good 6 (.slice none 0 0)); clear k1 q1 hS)
    refine bodyPost_ret (v := .tuple #[.agg (stC .none .none), .int .i64 2000]) (by simp [*, St.none, results, Tryz.results4, go_sem]) rfl ⟨.none, rfl, StNew.no ?_⟩
    exact HX.out.bel
  | true =>
    obtain ⟨L, hL⟩ : ∃ L, pnL n = L := ⟨_, rfl⟩
    rw [show snS n = { St.none with ad := L } by unfold snS; rw [hL], show snE n = 0 by unfold snE; rw [ho]; rfl]
    rw [hL, show pnE n = 0 by unfold pnE; rw [ho]; rfl] at HP
    clear ho hL
    go_enter Tryz.func4, Tryz.ntmps4
    go_wp2_with (go_at_call 17; (with_reducible refine (HP.out _).mono ?_); rintro e w1 ⟨a2, c2, rfl, hS⟩; have k1 := HK.out.step hS.bel; have e1 := k1.cell; have f1 := k1.froz; have l1 := k1.lt; have q1 := (At.add ((ownA_good _ _ _).star emp_good) HQ.out (pa_made hS)).imp ((row_front _ _).trans (Ass.imp.swap _ _ _)); have g1 := ((rowE_good TPa 3 (.slice a2 L.length c2) L.length (paCells L)).star emp_good); have HX := Lib.hid ((((((((q1.poke g1 0 (.int .i64 0)).poke g1 1 (.int .i64 0)).poke g1 2 (.int .i64 0)).poke g1 3 (.slice none 0 0)).poke g1 4 (.slice none 0 0)).poke g1 5 (.slice a2 L.length c2)).poke g1 6 (.slice none 0 0)).drop); clear k1 q1 hS g1)
    refine bodyPost_ret (v := .tuple #[.agg (stC ⟨none, 0, none, 0, a2, c2, none, 0⟩ { St.none with ad := L }), .int .i64 0]) (by simp [*, St.none, results, Tryz.results4, go_sem]) rfl ⟨⟨none, 0, none, 0, a2, c2, none, 0⟩, rfl, ?_⟩
    exact At.erow0 TUs 9 (At.erow0 TSe 4 ((HX.out.imp ((Ass.imp.refl _))).imp (row_in0 _)))
section
variable {w0 W : World} {C : Ass} {p : Nat} {c : Cf} {h : Sv} {s : St} {m : Option Nat} {kind user session address ea eb ec tick : Int}
set_option maxRecDepth 100000 in
set_option maxHeartbeats 8000000 in
theorem tmay_a (hC : C.Good) (q : At w0 (TD p c h s m C) W) (hc : c.may = false) :
    Calls Tryz.prog 41 #[.pointer (some ⟨p, 0, none⟩), .agg (evA ⟨kind, user, session, address, ea, eb, ec, tick⟩)] W fun e w' => e = .returned (.bool false) ∧ Below W.heap.size W w' := by
  have HB := Lib.hid ((Below.refl W.heap.size W).alloc (Nat.le_refl _) (.cells (evA ⟨kind, user, session, address, ea, eb, ec, tick⟩) TEv))
  have HQ := Lib.hid (At.lay1 (TD_good hC) q (.cells (evA ⟨kind, user, session, address, ea, eb, ec, tick⟩) TEv))
  have HK := Lib.hid (Blk.new W (evA ⟨kind, user, session, address, ea, eb, ec, tick⟩) TEv)
  have HC := Lib.hid (fun V => hc ▸ pcfmay c V)
  have HE := Lib.hid (fun V => epmay ⟨kind, user, session, address, ea, eb, ec, tick⟩ V)
  clear hc
  clear q
  go_enter Tryz.func41, Tryz.ntmps41
  go_wp2
  generalize hW1 : W.alloc (.cells (evA ⟨kind, user, session, address, ea, eb, ec, tick⟩) TEv) = W1 at *
  have f1 := fun z : Wl W1 => (TD.blk (HQ.out.lay (TD_good hC) z.h)).cell
  have f2 := fun z : Wl W1 => (HK.out.step z.h).cell
  refine wp_region_wl W1 (Below.refl _ _) (by kernel_rfl) (by kernel_rfl) ?_
  repeat (go_big_quiet_step (first | (go_at_call 54; exact Calls.wl (HC.out _)) | (go_at_call 55; exact Calls.wl (HE.out _))))
  refine wpQuiet_nil ?_
  rintro _ ⟨⟨Z, hZ⟩, rfl⟩
  go_wp2
  go_ret
  exact ⟨rfl, HB.out.trans (hZ.mono HB.out.size)⟩
set_option maxRecDepth 100000 in
set_option maxHeartbeats 8000000 in
theorem tmay_b (hC : C.Good) (q : At w0 (TD p c h s m C) W) (hc : c.may = true) (he : (Ev.mk kind user session address ea eb ec tick).may = false) :
    Calls Tryz.prog 41 #[.pointer (some ⟨p, 0, none⟩), .agg (evA ⟨kind, user, session, address, ea, eb, ec, tick⟩)] W fun e w' => e = .returned (.bool false) ∧ Below W.heap.size W w' := by
  have HB := Lib.hid ((Below.refl W.heap.size W).alloc (Nat.le_refl _) (.cells (evA ⟨kind, user, session, address, ea, eb, ec, tick⟩) TEv))
  have HQ := Lib.hid (At.lay1 (TD_good hC) q (.cells (evA ⟨kind, user, session, address, ea, eb, ec, tick⟩) TEv))
  have HK := Lib.hid (Blk.new W (evA ⟨kind, user, session, address, ea, eb, ec, tick⟩) TEv)
  have HC := Lib.hid (fun V => hc ▸ pcfmay c V)
  have HE := Lib.hid (fun V => he ▸ epmay ⟨kind, user, session, address, ea, eb, ec, tick⟩ V)
  clear hc he
  clear q
  go_enter Tryz.func41, Tryz.ntmps41
  go_wp2
  generalize hW1 : W.alloc (.cells (evA ⟨kind, user, session, address, ea, eb, ec, tick⟩) TEv) = W1 at *
  have f1 := fun z : Wl W1 => (TD.blk (HQ.out.lay (TD_good hC) z.h)).cell
  have f2 := fun z : Wl W1 => (HK.out.step z.h).cell
  refine wp_region_wl W1 (Below.refl _ _) (by kernel_rfl) (by kernel_rfl) ?_
  repeat (go_big_quiet_step (first | (go_at_call 54; exact Calls.wl (HC.out _)) | (go_at_call 55; exact Calls.wl (HE.out _))))
  refine wpQuiet_nil ?_
  rintro _ ⟨⟨Z, hZ⟩, rfl⟩
  go_wp2
  go_ret
  exact ⟨rfl, HB.out.trans (hZ.mono HB.out.size)⟩
set_option maxRecDepth 100000 in
set_option maxHeartbeats 8000000 in
theorem tmay_c (hC : C.Good) (q : At w0 (TD p c h s m C) W) (hc : c.may = true) (he : (Ev.mk kind user session address ea eb ec tick).may = true) :
    Calls Tryz.prog 41 #[.pointer (some ⟨p, 0, none⟩), .agg (evA ⟨kind, user, session, address, ea, eb, ec, tick⟩)] W fun e w' => e = .returned (.bool (decide ((s.ad.length : Int) = c.adr))) ∧ Below W.heap.size W w' := by
  have HB := Lib.hid ((Below.refl W.heap.size W).alloc (Nat.le_refl _) (.cells (evA ⟨kind, user, session, address, ea, eb, ec, tick⟩) TEv))
  have HQ := Lib.hid (At.lay1 (TD_good hC) q (.cells (evA ⟨kind, user, session, address, ea, eb, ec, tick⟩) TEv))
  have HK := Lib.hid (Blk.new W (evA ⟨kind, user, session, address, ea, eb, ec, tick⟩) TEv)
  have HC := Lib.hid (fun V => hc ▸ pcfmay c V)
  have HE := Lib.hid (fun V => he ▸ epmay ⟨kind, user, session, address, ea, eb, ec, tick⟩ V)
  clear hc he
  clear q
  go_enter Tryz.func41, Tryz.ntmps41
  go_wp2
  generalize hW1 : W.alloc (.cells (evA ⟨kind, user, session, address, ea, eb, ec, tick⟩) TEv) = W1 at *
  have f1 := fun z : Wl W1 => (TD.blk (HQ.out.lay (TD_good hC) z.h)).cell
  have f2 := fun z : Wl W1 => (HK.out.step z.h).cell
  refine wp_region_wl W1 (Below.refl _ _) (by kernel_rfl) (by kernel_rfl) ?_
  repeat (go_big_quiet_step (first | (go_at_call 54; exact Calls.wl (HC.out _)) | (go_at_call 55; exact Calls.wl (HE.out _))))
  refine wpQuiet_nil ?_
  rintro _ ⟨⟨Z, hZ⟩, rfl⟩
  go_wp2
  go_ret
  exact ⟨by first | rfl | (simp; done) | (congr 2), HB.out.trans (hZ.mono HB.out.size)⟩
theorem tmay (hC : C.Good) (q : At w0 (TD p c h s m C) W) (e : Ev) : Calls Tryz.prog 41 #[.pointer (some ⟨p, 0, none⟩), .agg (evA e)] W fun r w' => r = .returned (.bool (stOk c s e)) ∧ Below W.heap.size W w' := by
  obtain ⟨kind, user, session, address, ea, eb, ec, tick⟩ := e
  unfold stOk
  cases hc : c.may with
  | false => exact tmay_a hC q hc
  | true =>
    cases he : (Ev.mk kind user session address ea eb ec tick).may with
    | false => exact tmay_b hC q hc he
    | true => simpa using tmay_c hC q hc he
end
end Go.Proofs.YtopkcaflmpjhgaaGreat

