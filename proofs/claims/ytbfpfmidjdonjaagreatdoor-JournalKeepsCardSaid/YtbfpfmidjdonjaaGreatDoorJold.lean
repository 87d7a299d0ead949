/- The walk of JournalOld. Conditions: the argument's bounds, the handle of the type error. (Written by tools/genjold.py.) -/
import Derived.Test.YtbfpfmidjdonjaaGreatDoorJswap
import Derived.Test.YtbfpfmidjdonjaaGreatDoorBpk
namespace Go.Proofs.YtbfpfmidjdonjaaGreatDoor
open Go Go.RowKit

theorem mask7 (z : Int) : bits .and .i64 z 7 = z % 8 := by
  have := i64_mask z 3 (by omega)
  simpa using this
theorem mask1 (z : Int) : bits .and .i64 z 1 = z % 2 := by
  have := i64_mask z 1 (by omega)
  simpa using this
theorem spL_get {k c : Nat} (h : c < k) : (spL 0 k).getD c Ev.zero = spE (c : Int) := by
  induction k with
  | zero => omega
  | succ k ih =>
    rw [spL_next]
    by_cases hc : c = k
    · subst hc
      rw [List.getD, List.getElem?_append_right (by rw [spL_len]; exact Nat.le_refl _), spL_len, Nat.sub_self]; rfl
    · rw [List.getD, List.getElem?_append_left (by rw [spL_len]; omega)]
      exact ih (by omega)
theorem spL_cut {k c : Nat} (h : c ≤ k) : (spL 0 k).take c = spL 0 c := by
  induction k with
  | zero => obtain rfl : c = 0 := by omega
            rfl
  | succ k ih =>
    by_cases hc : c = k + 1
    · subst hc; rw [List.take_of_length_le (by rw [spL_len]; exact Nat.le_refl _)]
    · rw [spL_next, List.take_append_of_le_length (by rw [spL_len]; omega)]
      exact ih (by omega)
theorem spL_cells {w0 w : World} {C : Ass} {g k c2 c : Nat} (h : At w0 ((rowE TE 8 (.slice (some ⟨g, 0, none⟩) k c2) (spL 0 k).length (ecells (spL 0 k))).star C) w) (hc : c < k ∧ k ≤ 1000) :
    w.cell? ⟨g, c * 8, none⟩ = some (.int .i64 9) ∧ w.cell? ⟨g, c * 8 + 1, none⟩ = some (.int .i64 0) ∧ w.cell? ⟨g, c * 8 + 2, none⟩ = some (.int .i64 (c : Int)) ∧ w.cell? ⟨g, c * 8 + 3, none⟩ = some (.int .i64 0) ∧ w.cell? ⟨g, c * 8 + 4, none⟩ = some (.int .i64 0) ∧ w.cell? ⟨g, c * 8 + 5, none⟩ = some (.int .i64 0) ∧ w.cell? ⟨g, c * 8 + 6, none⟩ = some (.int .i64 0) ∧ w.cell? ⟨g, c * 8 + 7, none⟩ = some (.int .i64 0) := by
  have h1 := esin_at h (by rw [spL_len]; omega)
  rcases h1.row with a | ⟨b, off, e, h2, _, _⟩
  · omega
  · obtain ⟨rfl, rfl⟩ : g = b ∧ off = 0 := by simp at e; omega
    have h3 := h2.elem (j := c) (by rw [spL_len]; exact hc.1)
    rw [spL_get hc.1, Nat.zero_add] at h3
    exact h3
/-- The mask of all but the c-th. -/
theorem mask_old {k c : Nat} (hk : k ≤ 10) (hc : c < k) {mv : Int} (hm : mv = 1073741823 - 2 ^ c) : 0 ≤ mv ∧ mv ≤ 9223372036854775807 ∧ ∀ q, q < k → bitK mv.toNat q = !decide (q = c) := by
  have h10 : c < 10 := by omega
  have key : ∀ c : Fin 10, ((0 : Int) ≤ 1073741823 - 2 ^ c.val ∧ (1073741823 - 2 ^ c.val : Int) ≤ 9223372036854775807) ∧ ∀ q : Fin 10, bitK (1073741823 - 2 ^ c.val : Int).toNat q.val = !decide (q.val = c.val) := by decide
  subst hm
  obtain ⟨⟨a1, a2⟩, a3⟩ := key ⟨c, h10⟩
  exact ⟨a1, a2, fun q hq => a3 ⟨q, by omega⟩⟩
theorem mask_form {c : Nat} (hc : c < 10) : bits .andNot .i64 1073741823 (wrap64 (2 ^ c)) = 1073741823 - 2 ^ c := by
  have key : ((List.range 10).all fun c => decide (bits .andNot .i64 1073741823 (wrap64 (2 ^ c)) = 1073741823 - 2 ^ c)) = true := by kernel_rfl
  exact of_decide_eq_true (List.all_eq_true.1 key c (List.mem_range.2 hc))
set_option maxRecDepth 100000 in
set_option maxHeartbeats 16000000 in
theorem joldlaw (z cut : Int) (ao : Option Addr) (cap : Nat) (fs : List Int) (w : World) (hg : Gd w) (hA : IArg w ao fs) :
    Calls Tryz.prog 6 #[.int .i64 z, .int .i64 cut, .slice ao fs.length cap] w fun e w' => e = .returned (.bool true) ∧ Below w.heap.size w w' := by
  have hfew := hA.few
  have HA := Lib.hid hA
  have HG := Lib.hid hg
  have m7 := mask7 z
  obtain ⟨k, hk⟩ : ∃ k : Nat, 3 + z % 8 = (k : Int) := ⟨(3 + z % 8).toNat, by omega⟩
  have hk2 : 3 ≤ k := by omega
  have hk17 : k ≤ 10 := by omega
  have hwr : IntKind.i64.wrap (3 + z % 8) = (k : Int) := by rw [IntKind.wrap_i64]; omega
  have hku : IntKind.u64.wrap (k : Int) = (k : Int) := by rw [IntKind.wrap_u64]; omega
  have hk0 : ¬ (k : Int) = 0 := by omega
  have hkn : ¬ k = 0 := by omega
  have hu0 : 0 ≤ IntKind.u64.wrap cut := by rw [IntKind.wrap_u64]; omega
  obtain ⟨c, hu, huk⟩ : ∃ c : Nat, (IntKind.u64.wrap cut).tmod (k : Int) = (c : Int) ∧ c < k := by
    have h2 := Int.emod_nonneg (IntKind.u64.wrap cut) hk0
    have h3 := Int.emod_lt_of_pos (IntKind.u64.wrap cut) (show (0 : Int) < (k : Int) by omega)
    exact ⟨(IntKind.u64.wrap cut % (k : Int)).toNat, by rw [Int.tmod_eq_emod_of_nonneg hu0]; omega, by omega⟩
  have huw : IntKind.i64.wrap (c : Int) = (c : Int) := IntWalk.i64_in _ (by omega)
  have huw2 : IntKind.u64.wrap (c : Int) = (c : Int) := by rw [IntKind.wrap_u64]; omega
  obtain ⟨s1, s2, s3, s4, s5, s6⟩ := start_safe (most := 65536) (n := 40) (by decide) (by decide) (by decide)
  have hok0 : (Dk.new 40).Ok := Dk.ok_new (by omega) (by omega)
  have HO := Lib.hid (fun (C : Ass) (W : World) (pb pd : Nat) (hC : C.Good) (h : At w ((BD pb pd 65536 [] (Dk.new 40)).star C) W) => (show Calls Tryz.prog 34 #[.pointer (some ⟨pb, 0, none⟩), .pointer (some ⟨pd, 0, none⟩)] W (fun e w' => ∃ p : Nat, e = .returned (.tuple #[.pointer (some ⟨p, 0, none⟩), .int .i64 0]) ∧ At w ((BD pb pd 65536 (joT 65536 [] (Dk.new 40)) (joD 65536 [] (Dk.new 40))).star ((JO p pb pd 38 (joJ 65536 [] (Dk.new 40))).star C)) w') from by have := jlopen hC hg h hok0 (by simp) (by simp [Dk.new]) s1; exact this))
  generalize joT 65536 [] (Dk.new 40) = T0 at *
  generalize joD 65536 [] (Dk.new 40) = D0 at *
  generalize joJ 65536 [] (Dk.new 40) = J0 at *
  have HS := Lib.hid (And.intro s2 (And.intro s3 (And.intro s4 (And.intro s5 s6))))
  clear hg s1 s2 s3 s4 s5 s6 hok0 hu0 hk hA
  go_enter Tryz.func6, Tryz.ntmps6
  go_wp2_with (first
    | (go_at_call 12; (with_reducible refine (awake11 _ HG.out).mono ?_); rintro e w1 ⟨rfl, hb0⟩)
    | (go_at_call 10; (with_reducible refine (twin_none11 65536 _ (by omega) (by omega)).mono ?_); rintro e w1 ⟨pb, qb, rfl, hb⟩)
    | (go_at_call 11; (with_reducible refine (pair_at11 _ 40 (by omega) _ (by omega) (by omega)).mono ?_); rintro e w2 ⟨pd, qd, rfl, hp⟩; have hS := (lawdrop ((lawstart hb hp).imp (Ass.imp.comm _ _)).drop).under hb0; clear hb hp hb0)
    | (go_at_call 34; (with_reducible refine (HO.out _ _ _ _ emp_good hS).mono ?_); rintro e w3 ⟨p1, rfl, hS1⟩; replace hS := hS1; clear hS1)
    | (go_at_call 16; (with_reducible refine (lnum _ _).mono ?_); rintro e w9 ⟨rfl, rfl⟩))
  have hi : At w ((rowE TE 8 (.slice Option.none 0 0) (spL 0 0).length (ecells (spL 0 0))).star ((BD pb pd 65536 T0 D0).star ((JO p1 pb pd 38 J0).star emp))) w3 := hS.erow0E
  clear hS HO
  go_loopw [14, 15] (fun x14 x15 wr => ∃ (i : Nat) (a2 : Option Addr) (c2 : Nat), i ≤ k ∧ x15 = .int .i64 (i : Int) ∧ x14 = .slice a2 i c2 ∧ At w ((rowE TE 8 (.slice a2 i c2) (spL 0 i).length (ecells (spL 0 i))).star ((BD pb pd 65536 T0 D0).star ((JO p1 pb pd 38 J0).star emp))) wr) (fun _ x15 _ => k - (intOf x15).toNat)
  case atStart => exact ⟨0, _, _, Nat.zero_le _, rfl, rfl, hi⟩
  case round =>
    clear hi
    obtain ⟨i, a2, c2, hik, rfl, rfl, hS⟩ := hrel
    by_cases hlt : i < k
    · have hlt2 : (i : Int) < (k : Int) := by omega
      go_wp2_with (at_builtin; refine app_evA ((BD_good _ _ _ _ _).star ((JO_good _ _ _ _ _).star emp_good)) rfl _ _ rfl a2 i c2 (spL 0 i) (spE (i : Int)) rfl rfl hS (by rw [spL_len]; omega) ?_; intro a3 c3 w5 hS5)
      go_round
      case rel => exact ⟨i + 1, a3, c3, by omega, by go_num, rfl, by rw [spL_next]; exact hS5⟩
      case measure => simp [intOf]; omega
    · obtain rfl : i = k := by omega
      clear hlt
      obtain ⟨g, rfl, -, hcap⟩ := row_big hS (by rw [spL_len]; omega)
      obtain ⟨hJ0, hSf, hT0, hD0, hZ0⟩ := HS.out
      obtain ⟨e1, e2⟩ := hSf.lost hJ0 hT0 hD0 hZ0 (es := spL 0 i) (k := i) (c := c) (spL_len _ _) hk17 huk (spL_may (by omega) (by omega))
      have hjok : JOk T0 D0 38 J0 := hSf.jok (by omega) (by rw [hD0]; rfl)
      have hlen := spL_len 0 i
      have HWr := Lib.hid (fun W (h : At w ((rowE TE 8 (.slice (some ⟨g, 0, none⟩) i c2) (spL 0 i).length (ecells (spL 0 i))).star ((BD pb pd 65536 T0 D0).star ((JO p1 pb pd 38 J0).star emp))) W) => (show Calls Tryz.prog 18 #[.pointer (some ⟨p1, 0, none⟩), .slice (some ⟨g, 0, none⟩) i c2] W (fun e w' => e = .returned (.int .i64 0) ∧ At w ((BD pb pd 65536 (jpT 65536 T0 J0 D0 (spL 0 i)) (wtD 65536 T0 J0 D0 (spL 0 i))).star ((rowE TE 8 (.slice (some ⟨g, 0, none⟩) i c2) (spL 0 i).length (ecells (spL 0 i))).star emp)) w') from by
        have h1 := h.imp ((Ass.imp.swap _ _ _).trans ((Ass.imp.swap _ _ _).under _))
        have h2 := jlwrtR emp_good (some ⟨g, 0, none⟩) c2 (spL 0 i) (by rw [hlen]; rw [hlen] at h1; exact h1) hjok (by omega)
        rw [e1, hlen] at h2
        rw [hlen]
        exact h2.mono fun e w' ⟨q1, q2⟩ => ⟨q1, q2.drop2⟩))
      have HRd := Lib.hid e2
      generalize jpT 65536 T0 J0 D0 (spL 0 i) = T1 at *
      generalize wtD 65536 T0 J0 D0 (spL 0 i) = D1 at *
      have HC : Hid (c < i ∧ i ≤ 1000) := Lib.hid (And.intro huk (by omega))
      have HCr := Lib.hid (fun mv (hm : mv = 1073741823 - 2 ^ c) W (h : At w ((BD pb pd 65536 T1 D1).star ((rowE TE 8 (.slice (some ⟨g, 0, none⟩) i c2) (spL 0 i).length (ecells (spL 0 i))).star emp)) W) => (show Calls Tryz.prog 24 #[.pointer (some ⟨pd, 0, none⟩), .int .i64 mv, .int .i64 0] W (fun e w' => e = .returned (.int .i64 (D1.crE mv 0)) ∧ At w ((BD pb pd 65536 T1 (D1.cr mv 0)).star ((rowE TE 8 (.slice (some ⟨g, 0, none⟩) i c2) (spL 0 i).length (ecells (spL 0 i))).star emp)) w') from jldisk ((rowE_good _ _ _ _ _).star emp_good) (kpcrash pd D1 mv 0 (mask_old hk17 huk hm).2.1 (by decide)) h))
      have HRs := Lib.hid (fun mv W (h : At w ((BD pb pd 65536 T1 (D1.cr mv 0)).star ((rowE TE 8 (.slice (some ⟨g, 0, none⟩) i c2) (spL 0 i).length (ecells (spL 0 i))).star emp)) W) => jldisk ((rowE_good _ _ _ _ _).star emp_good) (kprestart pd (D1.cr mv 0)) h)
      have hci : c ≤ c2 := by omega
      have HCp := Lib.hid (fun D W (h : At w ((BD pb pd 65536 T1 D).star ((rowE TE 8 (.slice (some ⟨g, 0, none⟩) i c2) (spL 0 i).length (ecells (spL 0 i))).star emp)) W) => (show Calls Tryz.prog 35 #[.slice (some ⟨g, 0, none⟩) c c2] W (fun e w' => ∃ a3 c3, e = .returned (.slice a3 c c3) ∧ At w ((BD pb pd 65536 T1 D).star ((rowE TE 8 (.slice a3 c c3) ((spL 0 i).take c).length (ecells ((spL 0 i).take c))).star ((rowE TE 8 (.slice (some ⟨g, 0, none⟩) i c2) (spL 0 i).length (ecells (spL 0 i))).star emp))) w') from by
        have hc1 : ((spL 0 i).take c).length = c := by rw [List.length_take, hlen]; omega
        refine (lcopy_ev ((esin_at h.drop (by rw [hlen]; omega)).take (by omega)) (fun q => by cases q) (by omega)).mono ?_
        rintro e w' ⟨a3, c3, rfl, hb⟩
        have h3 := At.add ((BD_good _ _ _ _ _).star ((rowE_good _ _ _ _ _).star emp_good)) h hb
        rw [hc1] at h3 ⊢
        exact ⟨a3, c3, rfl, h3.imp (Ass.imp.swap _ _ _)⟩))
      clear hJ0 hSf hT0 hD0 hZ0 e1 e2 hjok hik HS
      go_wp2_with (first
        | (go_at_call 18; (with_reducible refine (HWr.out _ hS).mono ?_); rintro e w4 ⟨rfl, hS4⟩; replace hS := hS4; clear hS4)
        | (go_at_call 24; (with_reducible refine (HCr.out _ ?hm _ hS).mono ?_); (case hm => exact mask_form (by have := HC.out; omega)); rintro e w4 ⟨rfl, hS4⟩; replace hS := hS4; clear hS4)
        | (go_at_call 22; (with_reducible refine (HRs.out _ _ hS).mono ?_); rintro e w4 ⟨rfl, hS4⟩; replace hS := hS4; clear hS4)
        | (go_at_call 35; (with_reducible refine (HCp.out _ _ hS).mono ?_); rintro e w5 ⟨a3, c3, rfl, hS5⟩))
      have hR0 : Rdy T1 ((D1.cr (1073741823 - 2 ^ c) 0).rs) (2 + ((0 : Nat) : Int)) 40 ((spL 0 i).take c) (20 + 2 * 0) := HRd.out _ (mask_old hk17 HC.out.1 rfl).1 (mask_old hk17 HC.out.1 rfl).2.2
      have hL0 : ((spL 0 i).take c).length = c + 0 := by rw [List.length_take, spL_len]; have := HC.out; omega
      rw [mask_form (by have := HC.out; omega)] at hS5
      have hi : ∃ T D L, Rdy T D (2 + ((0 : Nat) : Int)) 40 L (20 + 2 * 0) ∧ L.length = c + 0 ∧ At w ((BD pb pd 65536 T D).star ((rowE TE 8 (.slice a3 (c + 0) c3) L.length (ecells L)).star ((rowE TE 8 (.slice (some ⟨g, 0, none⟩) i c2) (spL 0 i).length (ecells (spL 0 i))).star emp))) w5 := ⟨_, _, _, hR0, hL0, hS5⟩
      clear hR0 hL0 hS5 hS HWr HRd HCr HRs HCp
      go_loopw [18, 19] (fun x18 x19 wr => ∃ (r : Nat) (T : List ByteArray) (D : Dk) (L : List Ev) (a3 : Option Addr) (c3 : Nat), r ≤ 4 ∧ x19 = .int .i64 (r : Int) ∧ x18 = .slice a3 (c + r) c3 ∧ Rdy T D (2 + (r : Int)) 40 L (20 + 2 * r) ∧ L.length = c + r ∧ At w ((BD pb pd 65536 T D).star ((rowE TE 8 (.slice a3 (c + r) c3) L.length (ecells L)).star ((rowE TE 8 (.slice (some ⟨g, 0, none⟩) i c2) (spL 0 i).length (ecells (spL 0 i))).star emp))) wr) (fun _ x19 _ => 4 - (intOf x19).toNat)
      case atStart =>
        obtain ⟨T, D, L, q1, q2, q3⟩ := hi
        exact ⟨0, T, D, L, _, _, Nat.zero_le _, rfl, rfl, q1, q2, q3⟩
      case round =>
        clear hi
        obtain ⟨r, T, D, L, a3, c3, hr4, rfl, rfl, hRd, hLl, hS⟩ := hrel
        have hc10 : c < 10 := by have := HC.out; omega
        have hcI : (c : Int) < (i : Int) := by have := HC.out; omega
        have hcN : c < i := HC.out.1
        by_cases hlt : r < 4
        · have hlt4 : (r : Int) < 4 := by omega
          have hyr : IntKind.i64.wrap (100 + (r : Int)) = 100 + (r : Int) := by rw [IntKind.wrap_i64]; omega
          by_cases hrf : r < fs.length
          · have hrI : (r : Int) < (fs.length : Int) := by omega
            obtain ⟨bb, off, zi, rfl, _, _, hcw⟩ := HA.out.at hrf
            have HFc := Lib.hid hcw
            clear hcw
            have m1 := mask1 zi
            have hz2 : zi % 2 = 1 ∨ zi % 2 = 0 := by omega
            rcases hz2 with hz | hz
            · rw [hz] at m1
              clear hz
              obtain ⟨e1, e2⟩ := hRd.next (spE (100 + (r : Int))) (spE_may (by omega) (by omega)) (by rw [hLl]; omega) (by omega) (by omega)
              have hjk : JOk (joT 65536 T D) (joD 65536 T D) 38 (joJ 65536 T D) := hRd.safe.jok (by have := hRd.tl2; omega) (by rw [hRd.dlen]; rfl)
              have hal := hRd.all
              have hln : (joJ 65536 T D).all.length = c + r := by rw [hal]; exact hLl
              have hOp := fun C W (hC : Ass.Good C) (h : At w ((BD pb pd 65536 T D).star C) W) => jlopen (w0 := w) hC HG.out h hRd.ok (by have := hRd.tl; omega) (by rw [hRd.dry]; decide) hRd.e
              rw [hRd.len] at hOp
              generalize joT 65536 T D = T1 at *
              generalize joD 65536 T D = D1 at *
              generalize joJ 65536 T D = J1 at *
              have HOp := Lib.hid (fun C W (hC : Ass.Good C) (h : At w ((BD pb pd 65536 T D).star C) W) => (show Calls Tryz.prog 34 #[.pointer (some ⟨pb, 0, none⟩), .pointer (some ⟨pd, 0, none⟩)] W (fun e w' => ∃ p : Nat, e = .returned (.tuple #[.pointer (some ⟨p, 0, none⟩), .int .i64 0]) ∧ At w ((BD pb pd 65536 T1 D1).star ((JO p pb pd 38 J1).star C)) w') from hOp C W hC h))
              have HEv := Lib.hid (fun x W (h : At w ((BD pb pd 65536 T1 D1).star ((JO x pb pd 38 J1).star ((rowE TE 8 (.slice a3 (c + r) c3) L.length (ecells L)).star ((rowE TE 8 (.slice (some ⟨g, 0, none⟩) i c2) (spL 0 i).length (ecells (spL 0 i))).star emp)))) W) => (show Calls Tryz.prog 26 #[.pointer (some ⟨x, 0, none⟩)] W (fun e w' => ∃ ao cap, e = .returned (.slice ao (c + r) cap) ∧ At w ((rowE TE 8 (.slice ao (c + r) cap) L.length (ecells L)).star ((BD pb pd 65536 T1 D1).star ((JO x pb pd 38 J1).star ((rowE TE 8 (.slice a3 (c + r) c3) L.length (ecells L)).star ((rowE TE 8 (.slice (some ⟨g, 0, none⟩) i c2) (spL 0 i).length (ecells (spL 0 i))).star emp))))) w') from by
                have := jlevents ((rowE_good _ _ _ _ _).star ((rowE_good _ _ _ _ _).star emp_good)) h (by omega)
                rw [hal, hLl] at this
                rw [hLl]
                exact this))
              have HSm := Lib.hid (fun x W ao ca (h : At w ((rowE TE 8 (.slice ao (c + r) ca) L.length (ecells L)).star ((BD pb pd 65536 T1 D1).star ((JO x pb pd 38 J1).star ((rowE TE 8 (.slice a3 (c + r) c3) L.length (ecells L)).star ((rowE TE 8 (.slice (some ⟨g, 0, none⟩) i c2) (spL 0 i).length (ecells (spL 0 i))).star emp))))) W) => (show Calls Tryz.prog 28 #[.slice ao (c + r) ca, .slice a3 (c + r) c3] W (fun e w' => e = .returned (.bool true) ∧ At w ((BD pb pd 65536 T1 D1).star ((JO x pb pd 38 J1).star ((rowE TE 8 (.slice a3 (c + r) c3) L.length (ecells L)).star ((rowE TE 8 (.slice (some ⟨g, 0, none⟩) i c2) (spL 0 i).length (ecells (spL 0 i))).star emp)))) w') from
                (lsame_ev (esin_at h (by omega)) (esin_at h.drop.drop.drop (by omega))).mono fun e w' ⟨q1, q2⟩ => ⟨by rw [q1]; simp, h.drop.lay ((BD_good _ _ _ _ _).star ((JO_good _ _ _ _ _).star ((rowE_good _ _ _ _ _).star ((rowE_good _ _ _ _ _).star emp_good)))) q2⟩))
              have HAp := Lib.hid (fun x W (h : At w ((BD pb pd 65536 T1 D1).star ((JO x pb pd 38 J1).star ((rowE TE 8 (.slice a3 (c + r) c3) L.length (ecells L)).star ((rowE TE 8 (.slice (some ⟨g, 0, none⟩) i c2) (spL 0 i).length (ecells (spL 0 i))).star emp)))) W) n (hn : n = W.heap.size + 1) => (show Calls Tryz.prog 15 #[.pointer (some ⟨x, 0, none⟩), .slice (some ⟨n, 0, none⟩) 1 1] ((W.alloc (.cells #[.int .i64 9, .int .i64 0, .int .i64 (100 + (r : Int)), .int .i64 0, .int .i64 0, .int .i64 0, .int .i64 0, .int .i64 0] 61)).alloc (.cells #[.int .i64 9, .int .i64 0, .int .i64 (100 + (r : Int)), .int .i64 0, .int .i64 0, .int .i64 0, .int .i64 0, .int .i64 0] 61)) (fun e w' => e = .returned (.int .i64 0) ∧ At w ((BD pb pd 65536 (jpT 65536 T1 J1 D1 [spE (100 + (r : Int))]) (apD 65536 T1 J1 D1 [spE (100 + (r : Int))])).star ((JO x pb pd 38 (apJ 65536 T1 J1 D1 [spE (100 + (r : Int))])).star ((ownA W.heap.size #[.int .i64 9, .int .i64 0, .int .i64 (100 + (r : Int)), .int .i64 0, .int .i64 0, .int .i64 0, .int .i64 0, .int .i64 0] 61).star ((rowE TE 8 (.slice a3 (c + r) c3) L.length (ecells L)).star ((rowE TE 8 (.slice (some ⟨g, 0, none⟩) i c2) (spL 0 i).length (ecells (spL 0 i))).star emp))))) w') from by
                have h2 := (h.hold ((BD_good _ _ _ _ _).star ((JO_good _ _ _ _ _).star ((rowE_good _ _ _ _ _).star ((rowE_good _ _ _ _ _).star emp_good)))) #[.int .i64 9, .int .i64 0, .int .i64 (100 + (r : Int)), .int .i64 0, .int .i64 0, .int .i64 0, .int .i64 0, .int .i64 0] 61).imp ((Ass.imp.swap _ _ _).trans ((Ass.imp.swap _ _ _).under _))
                have h3 := jlapp ((ownA_good _ _ _).star ((rowE_good _ _ _ _ _).star ((rowE_good _ _ _ _ _).star emp_good))) h2 hjk [spE (100 + (r : Int))] (by simp) rfl
                rw [e1, show (W.alloc (.cells #[.int .i64 9, .int .i64 0, .int .i64 (100 + (r : Int)), .int .i64 0, .int .i64 0, .int .i64 0, .int .i64 0, .int .i64 0] 61)).heap.size = n by simp [hn]] at h3
                exact h3))
              generalize jpT 65536 T1 J1 D1 [spE (100 + (r : Int))] = T2 at *
              generalize apD 65536 T1 J1 D1 [spE (100 + (r : Int))] = D2 at *
              generalize apJ 65536 T1 J1 D1 [spE (100 + (r : Int))] = J2 at *
              have HN := Lib.hid (And.intro e2 hLl)
              clear e1 e2 hjk hal hln hOp hRd
              go_wp2_with (first
                | (go_at_call 34; (with_reducible refine (HOp.out _ _ ((rowE_good _ _ _ _ _).star ((rowE_good _ _ _ _ _).star emp_good)) hS).mono ?_); rintro e w4 ⟨x, rfl, hS4⟩)
                | (go_at_call 26; (with_reducible refine (HEv.out _ _ hS4).mono ?_); rintro e w5 ⟨ao5, ca5, rfl, hS5⟩)
                | (go_at_call 28; (with_reducible refine (HSm.out _ _ _ _ hS5).mono ?_); rintro e w6 ⟨rfl, hS6⟩; obtain ⟨k0, k1, k2, k3, k4, k5, k6, k7⟩ := spL_cells hS6.drop.drop.drop HC.out; have cf := HFc.out _ (bon hS6.bel (balloc w6 (.cells #[.int .i64 9, .int .i64 0, .int .i64 (c : Int), .int .i64 0, .int .i64 0, .int .i64 0, .int .i64 0, .int .i64 0] 61))))
                | (go_at_call 15; (with_reducible refine (HAp.out _ _ hS6 _ ?hn).mono ?_); (case hn => simp); rintro e w7 ⟨rfl, hS7⟩; have f := hS7.drop.drop.own.1; have y0 := f 0; have y1 := f 1; have y2 := f 2; have y3 := f 3; have y4 := f 4; have y5 := f 5; have y6 := f 6; have y7 := f 7; have hR := hS7.drop2.drop2.imp (Ass.imp.swap _ _ _); clear f hS7 hS6 hS5 hS4 hS k0 k1 k2 k3 k4 k5 k6 k7 cf)
                | (at_builtin; refine app_evA ((BD_good _ _ _ _ _).star ((rowE_good _ _ _ _ _).star emp_good)) rfl _ _ rfl a3 (c + r) c3 L (spE (100 + (r : Int))) rfl rfl hR (by have := HN.out.2; omega) ?_; intro a4 c4 w8 hS8; clear hR y0 y1 y2 y3 y4 y5 y6 y7)
                | (go_at_call 16; (with_reducible refine (lnum _ _).mono ?_); rintro e w9 ⟨rfl, rfl⟩))
              go_round
              case rel => exact ⟨r + 1, T2, D2, L ++ [spE (100 + (r : Int))], a4, c4, by omega, by go_num, rfl, by have := HN.out.1; rw [show ((2 : Int) + (r : Int)) + 1 = 2 + ((r + 1 : Nat) : Int) by omega, show 20 + 2 * r + 2 = 20 + 2 * (r + 1) by omega] at this; exact this, by rw [List.length_append, HN.out.2]; rfl, hS8.imp (Ass.imp.swap _ _ _)⟩
              case measure => simp [intOf]; omega
            · rw [hz] at m1
              clear hz
              obtain ⟨e1, e2⟩ := hRd.next (spE (c : Int)) (spE_may (by omega) (by omega)) (by rw [hLl]; omega) (by omega) (by omega)
              have hjk : JOk (joT 65536 T D) (joD 65536 T D) 38 (joJ 65536 T D) := hRd.safe.jok (by have := hRd.tl2; omega) (by rw [hRd.dlen]; rfl)
              have hal := hRd.all
              have hln : (joJ 65536 T D).all.length = c + r := by rw [hal]; exact hLl
              have hOp := fun C W (hC : Ass.Good C) (h : At w ((BD pb pd 65536 T D).star C) W) => jlopen (w0 := w) hC HG.out h hRd.ok (by have := hRd.tl; omega) (by rw [hRd.dry]; decide) hRd.e
              rw [hRd.len] at hOp
              generalize joT 65536 T D = T1 at *
              generalize joD 65536 T D = D1 at *
              generalize joJ 65536 T D = J1 at *
              have HOp := Lib.hid (fun C W (hC : Ass.Good C) (h : At w ((BD pb pd 65536 T D).star C) W) => (show Calls Tryz.prog 34 #[.pointer (some ⟨pb, 0, none⟩), .pointer (some ⟨pd, 0, none⟩)] W (fun e w' => ∃ p : Nat, e = .returned (.tuple #[.pointer (some ⟨p, 0, none⟩), .int .i64 0]) ∧ At w ((BD pb pd 65536 T1 D1).star ((JO p pb pd 38 J1).star C)) w') from hOp C W hC h))
              have HEv := Lib.hid (fun x W (h : At w ((BD pb pd 65536 T1 D1).star ((JO x pb pd 38 J1).star ((rowE TE 8 (.slice a3 (c + r) c3) L.length (ecells L)).star ((rowE TE 8 (.slice (some ⟨g, 0, none⟩) i c2) (spL 0 i).length (ecells (spL 0 i))).star emp)))) W) => (show Calls Tryz.prog 26 #[.pointer (some ⟨x, 0, none⟩)] W (fun e w' => ∃ ao cap, e = .returned (.slice ao (c + r) cap) ∧ At w ((rowE TE 8 (.slice ao (c + r) cap) L.length (ecells L)).star ((BD pb pd 65536 T1 D1).star ((JO x pb pd 38 J1).star ((rowE TE 8 (.slice a3 (c + r) c3) L.length (ecells L)).star ((rowE TE 8 (.slice (some ⟨g, 0, none⟩) i c2) (spL 0 i).length (ecells (spL 0 i))).star emp))))) w') from by
                have := jlevents ((rowE_good _ _ _ _ _).star ((rowE_good _ _ _ _ _).star emp_good)) h (by omega)
                rw [hal, hLl] at this
                rw [hLl]
                exact this))
              have HSm := Lib.hid (fun x W ao ca (h : At w ((rowE TE 8 (.slice ao (c + r) ca) L.length (ecells L)).star ((BD pb pd 65536 T1 D1).star ((JO x pb pd 38 J1).star ((rowE TE 8 (.slice a3 (c + r) c3) L.length (ecells L)).star ((rowE TE 8 (.slice (some ⟨g, 0, none⟩) i c2) (spL 0 i).length (ecells (spL 0 i))).star emp))))) W) => (show Calls Tryz.prog 28 #[.slice ao (c + r) ca, .slice a3 (c + r) c3] W (fun e w' => e = .returned (.bool true) ∧ At w ((BD pb pd 65536 T1 D1).star ((JO x pb pd 38 J1).star ((rowE TE 8 (.slice a3 (c + r) c3) L.length (ecells L)).star ((rowE TE 8 (.slice (some ⟨g, 0, none⟩) i c2) (spL 0 i).length (ecells (spL 0 i))).star emp)))) w') from
                (lsame_ev (esin_at h (by omega)) (esin_at h.drop.drop.drop (by omega))).mono fun e w' ⟨q1, q2⟩ => ⟨by rw [q1]; simp, h.drop.lay ((BD_good _ _ _ _ _).star ((JO_good _ _ _ _ _).star ((rowE_good _ _ _ _ _).star ((rowE_good _ _ _ _ _).star emp_good)))) q2⟩))
              have HAp := Lib.hid (fun x W (h : At w ((BD pb pd 65536 T1 D1).star ((JO x pb pd 38 J1).star ((rowE TE 8 (.slice a3 (c + r) c3) L.length (ecells L)).star ((rowE TE 8 (.slice (some ⟨g, 0, none⟩) i c2) (spL 0 i).length (ecells (spL 0 i))).star emp)))) W) n (hn : n = W.heap.size + 1) => (show Calls Tryz.prog 15 #[.pointer (some ⟨x, 0, none⟩), .slice (some ⟨n, 0, none⟩) 1 1] ((W.alloc (.cells #[.int .i64 9, .int .i64 0, .int .i64 (c : Int), .int .i64 0, .int .i64 0, .int .i64 0, .int .i64 0, .int .i64 0] 61)).alloc (.cells #[.int .i64 9, .int .i64 0, .int .i64 (c : Int), .int .i64 0, .int .i64 0, .int .i64 0, .int .i64 0, .int .i64 0] 61)) (fun e w' => e = .returned (.int .i64 0) ∧ At w ((BD pb pd 65536 (jpT 65536 T1 J1 D1 [spE (c : Int)]) (apD 65536 T1 J1 D1 [spE (c : Int)])).star ((JO x pb pd 38 (apJ 65536 T1 J1 D1 [spE (c : Int)])).star ((ownA W.heap.size #[.int .i64 9, .int .i64 0, .int .i64 (c : Int), .int .i64 0, .int .i64 0, .int .i64 0, .int .i64 0, .int .i64 0] 61).star ((rowE TE 8 (.slice a3 (c + r) c3) L.length (ecells L)).star ((rowE TE 8 (.slice (some ⟨g, 0, none⟩) i c2) (spL 0 i).length (ecells (spL 0 i))).star emp))))) w') from by
                have h2 := (h.hold ((BD_good _ _ _ _ _).star ((JO_good _ _ _ _ _).star ((rowE_good _ _ _ _ _).star ((rowE_good _ _ _ _ _).star emp_good)))) #[.int .i64 9, .int .i64 0, .int .i64 (c : Int), .int .i64 0, .int .i64 0, .int .i64 0, .int .i64 0, .int .i64 0] 61).imp ((Ass.imp.swap _ _ _).trans ((Ass.imp.swap _ _ _).under _))
                have h3 := jlapp ((ownA_good _ _ _).star ((rowE_good _ _ _ _ _).star ((rowE_good _ _ _ _ _).star emp_good))) h2 hjk [spE (c : Int)] (by simp) rfl
                rw [e1, show (W.alloc (.cells #[.int .i64 9, .int .i64 0, .int .i64 (c : Int), .int .i64 0, .int .i64 0, .int .i64 0, .int .i64 0, .int .i64 0] 61)).heap.size = n by simp [hn]] at h3
                exact h3))
              generalize jpT 65536 T1 J1 D1 [spE (c : Int)] = T2 at *
              generalize apD 65536 T1 J1 D1 [spE (c : Int)] = D2 at *
              generalize apJ 65536 T1 J1 D1 [spE (c : Int)] = J2 at *
              have HN := Lib.hid (And.intro e2 hLl)
              clear e1 e2 hjk hal hln hOp hRd
              go_wp2_with (first
                | (go_at_call 34; (with_reducible refine (HOp.out _ _ ((rowE_good _ _ _ _ _).star ((rowE_good _ _ _ _ _).star emp_good)) hS).mono ?_); rintro e w4 ⟨x, rfl, hS4⟩)
                | (go_at_call 26; (with_reducible refine (HEv.out _ _ hS4).mono ?_); rintro e w5 ⟨ao5, ca5, rfl, hS5⟩)
                | (go_at_call 28; (with_reducible refine (HSm.out _ _ _ _ hS5).mono ?_); rintro e w6 ⟨rfl, hS6⟩; obtain ⟨k0, k1, k2, k3, k4, k5, k6, k7⟩ := spL_cells hS6.drop.drop.drop HC.out; have cf := HFc.out _ (bon hS6.bel (balloc w6 (.cells #[.int .i64 9, .int .i64 0, .int .i64 (c : Int), .int .i64 0, .int .i64 0, .int .i64 0, .int .i64 0, .int .i64 0] 61))))
                | (go_at_call 15; (with_reducible refine (HAp.out _ _ hS6 _ ?hn).mono ?_); (case hn => simp); rintro e w7 ⟨rfl, hS7⟩; have f := hS7.drop.drop.own.1; have y0 := f 0; have y1 := f 1; have y2 := f 2; have y3 := f 3; have y4 := f 4; have y5 := f 5; have y6 := f 6; have y7 := f 7; have hR := hS7.drop2.drop2.imp (Ass.imp.swap _ _ _); clear f hS7 hS6 hS5 hS4 hS k0 k1 k2 k3 k4 k5 k6 k7 cf)
                | (at_builtin; refine app_evA ((BD_good _ _ _ _ _).star ((rowE_good _ _ _ _ _).star emp_good)) rfl _ _ rfl a3 (c + r) c3 L (spE (c : Int)) rfl rfl hR (by have := HN.out.2; omega) ?_; intro a4 c4 w8 hS8; clear hR y0 y1 y2 y3 y4 y5 y6 y7)
                | (go_at_call 16; (with_reducible refine (lnum _ _).mono ?_); rintro e w9 ⟨rfl, rfl⟩))
              go_round
              case rel => exact ⟨r + 1, T2, D2, L ++ [spE (c : Int)], a4, c4, by omega, by go_num, rfl, by have := HN.out.1; rw [show ((2 : Int) + (r : Int)) + 1 = 2 + ((r + 1 : Nat) : Int) by omega, show 20 + 2 * r + 2 = 20 + 2 * (r + 1) by omega] at this; exact this, by rw [List.length_append, HN.out.2]; rfl, hS8.imp (Ass.imp.swap _ _ _)⟩
              case measure => simp [intOf]; omega
          · have hrI : ¬ (r : Int) < (fs.length : Int) := by omega
            have HFc := Lib.hid (fun (W : World) (_ : Below w.heap.size w W) => True.intro)
            obtain ⟨e1, e2⟩ := hRd.next (spE (c : Int)) (spE_may (by omega) (by omega)) (by rw [hLl]; omega) (by omega) (by omega)
            have hjk : JOk (joT 65536 T D) (joD 65536 T D) 38 (joJ 65536 T D) := hRd.safe.jok (by have := hRd.tl2; omega) (by rw [hRd.dlen]; rfl)
            have hal := hRd.all
            have hln : (joJ 65536 T D).all.length = c + r := by rw [hal]; exact hLl
            have hOp := fun C W (hC : Ass.Good C) (h : At w ((BD pb pd 65536 T D).star C) W) => jlopen (w0 := w) hC HG.out h hRd.ok (by have := hRd.tl; omega) (by rw [hRd.dry]; decide) hRd.e
            rw [hRd.len] at hOp
            generalize joT 65536 T D = T1 at *
            generalize joD 65536 T D = D1 at *
            generalize joJ 65536 T D = J1 at *
            have HOp := Lib.hid (fun C W (hC : Ass.Good C) (h : At w ((BD pb pd 65536 T D).star C) W) => (show Calls Tryz.prog 34 #[.pointer (some ⟨pb, 0, none⟩), .pointer (some ⟨pd, 0, none⟩)] W (fun e w' => ∃ p : Nat, e = .returned (.tuple #[.pointer (some ⟨p, 0, none⟩), .int .i64 0]) ∧ At w ((BD pb pd 65536 T1 D1).star ((JO p pb pd 38 J1).star C)) w') from hOp C W hC h))
            have HEv := Lib.hid (fun x W (h : At w ((BD pb pd 65536 T1 D1).star ((JO x pb pd 38 J1).star ((rowE TE 8 (.slice a3 (c + r) c3) L.length (ecells L)).star ((rowE TE 8 (.slice (some ⟨g, 0, none⟩) i c2) (spL 0 i).length (ecells (spL 0 i))).star emp)))) W) => (show Calls Tryz.prog 26 #[.pointer (some ⟨x, 0, none⟩)] W (fun e w' => ∃ ao cap, e = .returned (.slice ao (c + r) cap) ∧ At w ((rowE TE 8 (.slice ao (c + r) cap) L.length (ecells L)).star ((BD pb pd 65536 T1 D1).star ((JO x pb pd 38 J1).star ((rowE TE 8 (.slice a3 (c + r) c3) L.length (ecells L)).star ((rowE TE 8 (.slice (some ⟨g, 0, none⟩) i c2) (spL 0 i).length (ecells (spL 0 i))).star emp))))) w') from by
              have := jlevents ((rowE_good _ _ _ _ _).star ((rowE_good _ _ _ _ _).star emp_good)) h (by omega)
              rw [hal, hLl] at this
              rw [hLl]
              exact this))
            have HSm := Lib.hid (fun x W ao ca (h : At w ((rowE TE 8 (.slice ao (c + r) ca) L.length (ecells L)).star ((BD pb pd 65536 T1 D1).star ((JO x pb pd 38 J1).star ((rowE TE 8 (.slice a3 (c + r) c3) L.length (ecells L)).star ((rowE TE 8 (.slice (some ⟨g, 0, none⟩) i c2) (spL 0 i).length (ecells (spL 0 i))).star emp))))) W) => (show Calls Tryz.prog 28 #[.slice ao (c + r) ca, .slice a3 (c + r) c3] W (fun e w' => e = .returned (.bool true) ∧ At w ((BD pb pd 65536 T1 D1).star ((JO x pb pd 38 J1).star ((rowE TE 8 (.slice a3 (c + r) c3) L.length (ecells L)).star ((rowE TE 8 (.slice (some ⟨g, 0, none⟩) i c2) (spL 0 i).length (ecells (spL 0 i))).star emp)))) w') from
              (lsame_ev (esin_at h (by omega)) (esin_at h.drop.drop.drop (by omega))).mono fun e w' ⟨q1, q2⟩ => ⟨by rw [q1]; simp, h.drop.lay ((BD_good _ _ _ _ _).star ((JO_good _ _ _ _ _).star ((rowE_good _ _ _ _ _).star ((rowE_good _ _ _ _ _).star emp_good)))) q2⟩))
            have HAp := Lib.hid (fun x W (h : At w ((BD pb pd 65536 T1 D1).star ((JO x pb pd 38 J1).star ((rowE TE 8 (.slice a3 (c + r) c3) L.length (ecells L)).star ((rowE TE 8 (.slice (some ⟨g, 0, none⟩) i c2) (spL 0 i).length (ecells (spL 0 i))).star emp)))) W) n (hn : n = W.heap.size + 1) => (show Calls Tryz.prog 15 #[.pointer (some ⟨x, 0, none⟩), .slice (some ⟨n, 0, none⟩) 1 1] ((W.alloc (.cells #[.int .i64 9, .int .i64 0, .int .i64 (c : Int), .int .i64 0, .int .i64 0, .int .i64 0, .int .i64 0, .int .i64 0] 61)).alloc (.cells #[.int .i64 9, .int .i64 0, .int .i64 (c : Int), .int .i64 0, .int .i64 0, .int .i64 0, .int .i64 0, .int .i64 0] 61)) (fun e w' => e = .returned (.int .i64 0) ∧ At w ((BD pb pd 65536 (jpT 65536 T1 J1 D1 [spE (c : Int)]) (apD 65536 T1 J1 D1 [spE (c : Int)])).star ((JO x pb pd 38 (apJ 65536 T1 J1 D1 [spE (c : Int)])).star ((ownA W.heap.size #[.int .i64 9, .int .i64 0, .int .i64 (c : Int), .int .i64 0, .int .i64 0, .int .i64 0, .int .i64 0, .int .i64 0] 61).star ((rowE TE 8 (.slice a3 (c + r) c3) L.length (ecells L)).star ((rowE TE 8 (.slice (some ⟨g, 0, none⟩) i c2) (spL 0 i).length (ecells (spL 0 i))).star emp))))) w') from by
              have h2 := (h.hold ((BD_good _ _ _ _ _).star ((JO_good _ _ _ _ _).star ((rowE_good _ _ _ _ _).star ((rowE_good _ _ _ _ _).star emp_good)))) #[.int .i64 9, .int .i64 0, .int .i64 (c : Int), .int .i64 0, .int .i64 0, .int .i64 0, .int .i64 0, .int .i64 0] 61).imp ((Ass.imp.swap _ _ _).trans ((Ass.imp.swap _ _ _).under _))
              have h3 := jlapp ((ownA_good _ _ _).star ((rowE_good _ _ _ _ _).star ((rowE_good _ _ _ _ _).star emp_good))) h2 hjk [spE (c : Int)] (by simp) rfl
              rw [e1, show (W.alloc (.cells #[.int .i64 9, .int .i64 0, .int .i64 (c : Int), .int .i64 0, .int .i64 0, .int .i64 0, .int .i64 0, .int .i64 0] 61)).heap.size = n by simp [hn]] at h3
              exact h3))
            generalize jpT 65536 T1 J1 D1 [spE (c : Int)] = T2 at *
            generalize apD 65536 T1 J1 D1 [spE (c : Int)] = D2 at *
            generalize apJ 65536 T1 J1 D1 [spE (c : Int)] = J2 at *
            have HN := Lib.hid (And.intro e2 hLl)
            clear e1 e2 hjk hal hln hOp hRd
            go_wp2_with (first
              | (go_at_call 34; (with_reducible refine (HOp.out _ _ ((rowE_good _ _ _ _ _).star ((rowE_good _ _ _ _ _).star emp_good)) hS).mono ?_); rintro e w4 ⟨x, rfl, hS4⟩)
              | (go_at_call 26; (with_reducible refine (HEv.out _ _ hS4).mono ?_); rintro e w5 ⟨ao5, ca5, rfl, hS5⟩)
              | (go_at_call 28; (with_reducible refine (HSm.out _ _ _ _ hS5).mono ?_); rintro e w6 ⟨rfl, hS6⟩; obtain ⟨k0, k1, k2, k3, k4, k5, k6, k7⟩ := spL_cells hS6.drop.drop.drop HC.out; have cf := HFc.out _ (bon hS6.bel (balloc w6 (.cells #[.int .i64 9, .int .i64 0, .int .i64 (c : Int), .int .i64 0, .int .i64 0, .int .i64 0, .int .i64 0, .int .i64 0] 61))))
              | (go_at_call 15; (with_reducible refine (HAp.out _ _ hS6 _ ?hn).mono ?_); (case hn => simp); rintro e w7 ⟨rfl, hS7⟩; have f := hS7.drop.drop.own.1; have y0 := f 0; have y1 := f 1; have y2 := f 2; have y3 := f 3; have y4 := f 4; have y5 := f 5; have y6 := f 6; have y7 := f 7; have hR := hS7.drop2.drop2.imp (Ass.imp.swap _ _ _); clear f hS7 hS6 hS5 hS4 hS k0 k1 k2 k3 k4 k5 k6 k7 cf)
              | (at_builtin; refine app_evA ((BD_good _ _ _ _ _).star ((rowE_good _ _ _ _ _).star emp_good)) rfl _ _ rfl a3 (c + r) c3 L (spE (c : Int)) rfl rfl hR (by have := HN.out.2; omega) ?_; intro a4 c4 w8 hS8; clear hR y0 y1 y2 y3 y4 y5 y6 y7)
              | (go_at_call 16; (with_reducible refine (lnum _ _).mono ?_); rintro e w9 ⟨rfl, rfl⟩))
            go_round
            case rel => exact ⟨r + 1, T2, D2, L ++ [spE (c : Int)], a4, c4, by omega, by go_num, rfl, by have := HN.out.1; rw [show ((2 : Int) + (r : Int)) + 1 = 2 + ((r + 1 : Nat) : Int) by omega, show 20 + 2 * r + 2 = 20 + 2 * (r + 1) by omega] at this; exact this, by rw [List.length_append, HN.out.2]; rfl, hS8.imp (Ass.imp.swap _ _ _)⟩
            case measure => simp [intOf]; omega
        · obtain rfl : r = 4 := by omega
          have hx4 : ¬ ((4 : Nat) : Int) < 4 := by decide
          clear hlt
          have hal := hRd.all
          have hbt := hRd.boot
          have hln : (joJ 65536 T D).all.length = c + 4 := by rw [hal]; exact hLl
          have hOp := fun C W (hC : Ass.Good C) (h : At w ((BD pb pd 65536 T D).star C) W) => jlopen (w0 := w) hC HG.out h hRd.ok (by have := hRd.tl; omega) (by rw [hRd.dry]; decide) hRd.e
          rw [hRd.len] at hOp
          generalize joT 65536 T D = T1 at *
          generalize joD 65536 T D = D1 at *
          generalize joJ 65536 T D = J1 at *
          have HOp := Lib.hid (fun C W (hC : Ass.Good C) (h : At w ((BD pb pd 65536 T D).star C) W) => (show Calls Tryz.prog 34 #[.pointer (some ⟨pb, 0, none⟩), .pointer (some ⟨pd, 0, none⟩)] W (fun e w' => ∃ p : Nat, e = .returned (.tuple #[.pointer (some ⟨p, 0, none⟩), .int .i64 0]) ∧ At w ((BD pb pd 65536 T1 D1).star ((JO p pb pd 38 J1).star C)) w') from hOp C W hC h))
          have HEv := Lib.hid (fun x W (h : At w ((BD pb pd 65536 T1 D1).star ((JO x pb pd 38 J1).star ((rowE TE 8 (.slice a3 (c + 4) c3) L.length (ecells L)).star ((rowE TE 8 (.slice (some ⟨g, 0, none⟩) i c2) (spL 0 i).length (ecells (spL 0 i))).star emp)))) W) => (show Calls Tryz.prog 26 #[.pointer (some ⟨x, 0, none⟩)] W (fun e w' => ∃ ao cap, e = .returned (.slice ao (c + 4) cap) ∧ At w ((rowE TE 8 (.slice ao (c + 4) cap) L.length (ecells L)).star ((BD pb pd 65536 T1 D1).star ((JO x pb pd 38 J1).star ((rowE TE 8 (.slice a3 (c + 4) c3) L.length (ecells L)).star ((rowE TE 8 (.slice (some ⟨g, 0, none⟩) i c2) (spL 0 i).length (ecells (spL 0 i))).star emp))))) w') from by
            have := jlevents ((rowE_good _ _ _ _ _).star ((rowE_good _ _ _ _ _).star emp_good)) h (by omega)
            rw [hal, hLl] at this
            rw [hLl]
            exact this))
          have HSm := Lib.hid (fun x W ao ca (h : At w ((rowE TE 8 (.slice ao (c + 4) ca) L.length (ecells L)).star ((BD pb pd 65536 T1 D1).star ((JO x pb pd 38 J1).star ((rowE TE 8 (.slice a3 (c + 4) c3) L.length (ecells L)).star ((rowE TE 8 (.slice (some ⟨g, 0, none⟩) i c2) (spL 0 i).length (ecells (spL 0 i))).star emp))))) W) => (show Calls Tryz.prog 28 #[.slice ao (c + 4) ca, .slice a3 (c + 4) c3] W (fun e w' => e = .returned (.bool true) ∧ At w ((BD pb pd 65536 T1 D1).star ((JO x pb pd 38 J1).star ((rowE TE 8 (.slice a3 (c + 4) c3) L.length (ecells L)).star ((rowE TE 8 (.slice (some ⟨g, 0, none⟩) i c2) (spL 0 i).length (ecells (spL 0 i))).star emp)))) w') from
            (lsame_ev (esin_at h (by omega)) (esin_at h.drop.drop.drop (by omega))).mono fun e w' ⟨q1, q2⟩ => ⟨by rw [q1]; simp, h.drop.lay ((BD_good _ _ _ _ _).star ((JO_good _ _ _ _ _).star ((rowE_good _ _ _ _ _).star ((rowE_good _ _ _ _ _).star emp_good)))) q2⟩))
          have HBt := Lib.hid (fun x W (h : At w ((BD pb pd 65536 T1 D1).star ((JO x pb pd 38 J1).star ((rowE TE 8 (.slice a3 (c + 4) c3) L.length (ecells L)).star ((rowE TE 8 (.slice (some ⟨g, 0, none⟩) i c2) (spL 0 i).length (ecells (spL 0 i))).star emp)))) W) => (show Calls Tryz.prog 29 #[.pointer (some ⟨x, 0, none⟩)] W (fun e w' => e = .returned (.int .i64 6) ∧ W = w') from (jlboot h.drop).mono fun e w' ⟨q1, q2⟩ => ⟨by rw [q1, hbt]; rfl, q2⟩))
          clear hal hbt hln hOp hRd hLl
          go_wp2_with (first
            | (go_at_call 34; (with_reducible refine (HOp.out _ _ ((rowE_good _ _ _ _ _).star ((rowE_good _ _ _ _ _).star emp_good)) hS).mono ?_); rintro e w4 ⟨x, rfl, hS4⟩)
            | (go_at_call 26; (with_reducible refine (HEv.out _ _ hS4).mono ?_); rintro e w5 ⟨ao5, ca5, rfl, hS5⟩)
            | (go_at_call 28; (with_reducible refine (HSm.out _ _ _ _ hS5).mono ?_); rintro e w6 ⟨rfl, hS6⟩)
            | (go_at_call 29; (with_reducible refine (HBt.out _ _ hS6).mono ?_); rintro e w7 ⟨rfl, rfl⟩)
            | (go_at_call 16; (with_reducible refine (lnum _ _).mono ?_); rintro e w9 ⟨rfl, rfl⟩))
          go_ret
          exact ⟨rfl, hS6.bel⟩
end Go.Proofs.YtbfpfmidjdonjaaGreatDoor
