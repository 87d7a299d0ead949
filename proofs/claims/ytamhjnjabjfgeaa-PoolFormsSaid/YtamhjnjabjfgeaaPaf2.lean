/- The walk of PoolForms, case by case (7 to 13), where the program's calls answer as the chapter says. -/
import Derived.Test.YtamhjnjabjfgeaaPaf1
import Derived.Test.YtamhjnjabjfgeaaPap3
import Derived.Deep.RegionWith
namespace Go.Proofs.Ytamhjnjabjfgeaa
open Go Go.RowKit

theorem paNone_flat (n : Nat) : ∀ (j : Nat) (v : Value), (paCells (List.replicate n Pa.none))[j]? = some v → (pnMade n)[j]? = some v := by
  intro j v hv
  have hl : j < n * 3 := by
    rcases Nat.lt_or_ge j (n * 3) with c | c
    · exact c
    · rw [List.getElem?_eq_none (by rw [paCells_len, List.length_replicate]; exact c)] at hv; cases hv
  have hj := Nat.div_add_mod j 3
  have hlt := Nat.mod_lt j (show 0 < 3 by decide)
  have hq : j / 3 < n := by omega
  have e : j = j / 3 * 3 + j % 3 := by omega
  have h1 := paCells_at (List.replicate n Pa.none) (j := j / 3) (by rw [List.length_replicate]; exact hq) hlt
  rw [← e, hv] at h1
  have h2 : (List.replicate n Pa.none).getD (j / 3) Pa.none = Pa.none := by rw [List.getD, List.getElem?_replicate, if_pos hq]; rfl
  rw [h2] at h1
  unfold pnMade madeCells
  rw [Array.getElem?_map, Array.getElem?_range, if_pos hl, Option.map_some, h1]
  show some (#[Value.bool false, .int .i64 0, .int .i64 0][j % 3]!) = _
  rcases (show j % 3 = 0 ∨ j % 3 = 1 ∨ j % 3 = 2 by omega) with h | h | h <;> rw [h] <;> rfl
/-- A pool that was made. -/
theorem paIn_made (W : World) (n : Nat) (hn : n ≤ 5000) : PaIn [] (W.alloc (.cells (pnMade n) TPa)) (some ⟨W.heap.size, 0, none⟩) n (List.replicate n Pa.none) :=
  ⟨by rw [List.length_replicate], .inr ⟨_, 0, rfl, fun i u hu => by rw [Nat.zero_add, cell_of_row _ W.heap.size i _ _ _ (heap_alloc_new W _)]; exact paNone_flat n i u hu, by simp, by simp⟩, by omega⟩
theorem pt_made {n : Nat} {k x : Int} (h : 16 < n) : ptOk (List.replicate n Pa.none) k x = false := by
  have : poMay (List.replicate n Pa.none) = false := by
    unfold poMay
    rw [List.length_replicate, decide_eq_false (show ¬ n ≤ 16 by omega), Bool.and_false, Bool.false_and]
  unfold ptOk
  rw [this]
  rfl
set_option maxRecDepth 100000 in
set_option maxHeartbeats 4000000 in
theorem paforms7 (P : PoolsOk) (n x : Int) (m : Int) (w : World) (hj : (IntKind.u64.wrap n).tmod 14 = 7) (hm : bits .and .i64 x 1023 = m) (m0 : 0 ≤ m) (m1 : m ≤ 1023) :
    Calls Try.prog 5 #[.int .i64 n, .int .i64 x] w fun e w' => e = .returned (.bool true) ∧ Below w.heap.size w w' := by
  go_enter Try.func5, Try.ntmps5
  go_wp2_with (first
    | (go_at_call 21; (with_reducible refine (awake16 P _).mono ?_); rintro e w1 ⟨rfl, hB⟩)
    | (go_at_call 15; ((with_reducible refine (P.news (k := 3) (es2 := paw0) (m := 3) (r := 0) (by decide) rfl (by decide) _).mono ?_); rintro e w2 ⟨a2, c2, rfl, hA, hb⟩; replace hB := pab hB hb; clear hb))
    | (go_at_call 11; ((with_reducible refine (P.takes hA (by decide) (k := 1) (x := 5) (es2 := paf1) (m := 3) (r := 0) (by decide) rfl (by decide)).mono ?_); rintro e w3 ⟨a3, c3, rfl, hC, hb⟩; replace hA := hA.on hb; replace hB := pab hB hb; clear hb))
    | (go_at_call 9; ((refine (P.lease_no (paIn_one _ _ _ _) (pl_one (by omega))).mono ?_); rintro e w4 ⟨rfl, hb⟩; obtain ⟨b, off, c, off2, rfl, rfl, hW⟩ := paf_cells ((hA.alloc _).on hb) ((hC.alloc _).on hb); obtain ⟨q0, q1, q2, q3⟩ := hW _ (Below.refl _ _); replace hB := pab (hB.alloc hB.size _) hb; clear hb hW hA hC))
    | (go_at_call 17; (with_reducible refine (lnum _ _).mono ?_); rintro e w7 ⟨rfl, rfl⟩))
  go_ret
  exact ⟨rfl, hB⟩
set_option maxRecDepth 100000 in
set_option maxHeartbeats 4000000 in
theorem paforms8 (P : PoolsOk) (n x : Int) (m : Int) (w : World) (hj : (IntKind.u64.wrap n).tmod 14 = 8) (hm : bits .and .i64 x 1023 = m) (m0 : 0 ≤ m) (m1 : m ≤ 1023) :
    Calls Try.prog 5 #[.int .i64 n, .int .i64 x] w fun e w' => e = .returned (.bool true) ∧ Below w.heap.size w w' := by
  go_enter Try.func5, Try.ntmps5
  go_wp2_with (first
    | (go_at_call 21; (with_reducible refine (awake16 P _).mono ?_); rintro e w1 ⟨rfl, hB⟩)
    | (go_at_call 15; ((with_reducible refine (P.news (k := 3) (es2 := paw0) (m := 3) (r := 0) (by decide) rfl (by decide) _).mono ?_); rintro e w2 ⟨a2, c2, rfl, hA, hb⟩; replace hB := pab hB hb; clear hb))
    | (go_at_call 11; first
      | ((with_reducible refine (P.takes hA (by decide) (k := 1) (x := 5) (es2 := paf1) (m := 3) (r := 0) (by decide) rfl (by decide)).mono ?_); rintro e w3 ⟨a3, c3, rfl, hC, hb⟩; replace hA := hA.on hb; replace hB := pab hB hb; clear hb)
      | ((refine (P.take_no hA (by decide) (pt_k (by show (3 : Int) ≤ _; omega))).mono ?_); rintro e w4 ⟨a4, c4, rfl, hb⟩; obtain ⟨b, off, c, off2, rfl, rfl, hW⟩ := paf_cells (hA.on hb) (hC.on hb); obtain ⟨q0, q1, q2, q3⟩ := hW _ (Below.refl _ _); replace hB := pab hB hb; clear hb hW hA hC))
    | (go_at_call 17; (with_reducible refine (lnum _ _).mono ?_); rintro e w7 ⟨rfl, rfl⟩))
  go_ret
  exact ⟨rfl, hB⟩
set_option maxRecDepth 100000 in
set_option maxHeartbeats 4000000 in
theorem paforms9 (P : PoolsOk) (n x : Int) (m : Int) (w : World) (hj : (IntKind.u64.wrap n).tmod 14 = 9) (hm : bits .and .i64 x 1023 = m) (m0 : 0 ≤ m) (m1 : m ≤ 1023) :
    Calls Try.prog 5 #[.int .i64 n, .int .i64 x] w fun e w' => e = .returned (.bool true) ∧ Below w.heap.size w w' := by
  go_enter Try.func5, Try.ntmps5
  go_wp2_with (first
    | (go_at_call 21; (with_reducible refine (awake16 P _).mono ?_); rintro e w1 ⟨rfl, hB⟩)
    | (go_at_call 15; ((with_reducible refine (P.news (k := 3) (es2 := paw0) (m := 3) (r := 0) (by decide) rfl (by decide) _).mono ?_); rintro e w2 ⟨a2, c2, rfl, hA, hb⟩; replace hB := pab hB hb; clear hb))
    | (go_at_call 11; first
      | ((with_reducible refine (P.takes hA (by decide) (k := 1) (x := 5) (es2 := paf1) (m := 3) (r := 0) (by decide) rfl (by decide)).mono ?_); rintro e w3 ⟨a3, c3, rfl, hC, hb⟩; replace hA := hA.on hb; replace hB := pab hB hb; clear hb)
      | ((refine (P.take_no hC (by decide) (by decide)).mono ?_); rintro e w4 ⟨a4, c4, rfl, hb⟩; obtain ⟨b, off, c, off2, rfl, rfl, hW⟩ := paf_cells (hA.on hb) (hC.on hb); obtain ⟨q0, q1, q2, q3⟩ := hW _ (Below.refl _ _); replace hB := pab hB hb; clear hb hW hA hC))
    | (go_at_call 17; (with_reducible refine (lnum _ _).mono ?_); rintro e w7 ⟨rfl, rfl⟩))
  go_ret
  exact ⟨rfl, hB⟩
set_option maxRecDepth 100000 in
set_option maxHeartbeats 4000000 in
theorem paforms10 (P : PoolsOk) (n x : Int) (m : Int) (w : World) (hj : (IntKind.u64.wrap n).tmod 14 = 10) (hm : bits .and .i64 x 1023 = m) (m0 : 0 ≤ m) (m1 : m ≤ 1023) :
    Calls Try.prog 5 #[.int .i64 n, .int .i64 x] w fun e w' => e = .returned (.bool true) ∧ Below w.heap.size w w' := by
  go_enter Try.func5, Try.ntmps5
  go_wp2_with (first
    | (go_at_call 21; (with_reducible refine (awake16 P _).mono ?_); rintro e w1 ⟨rfl, hB⟩)
    | (go_at_call 15; ((with_reducible refine (P.news (k := 3) (es2 := paw0) (m := 3) (r := 0) (by decide) rfl (by decide) _).mono ?_); rintro e w2 ⟨a2, c2, rfl, hA, hb⟩; replace hB := pab hB hb; clear hb))
    | (go_at_call 11; ((with_reducible refine (P.takes hA (by decide) (k := 1) (x := 5) (es2 := paf1) (m := 3) (r := 0) (by decide) rfl (by decide)).mono ?_); rintro e w3 ⟨a3, c3, rfl, hC, hb⟩; replace hA := hA.on hb; replace hB := pab hB hb; clear hb))
    | (go_at_call 13; ((refine (P.free_no hC (by decide) (pf_k (by omega))).mono ?_); rintro e w4 ⟨a4, c4, rfl, hb⟩; obtain ⟨b, off, c, off2, rfl, rfl, hW⟩ := paf_cells (hA.on hb) (hC.on hb); obtain ⟨q0, q1, q2, q3⟩ := hW _ (Below.refl _ _); replace hB := pab hB hb; clear hb hW hA hC))
    | (go_at_call 17; (with_reducible refine (lnum _ _).mono ?_); rintro e w7 ⟨rfl, rfl⟩))
  go_ret
  exact ⟨rfl, hB⟩
set_option maxRecDepth 100000 in
set_option maxHeartbeats 4000000 in
theorem paforms11 (P : PoolsOk) (n x : Int) (m : Int) (w : World) (hj : (IntKind.u64.wrap n).tmod 14 = 11) (hm : bits .and .i64 x 1023 = m) (m0 : 0 ≤ m) (m1 : m ≤ 1023) :
    Calls Try.prog 5 #[.int .i64 n, .int .i64 x] w fun e w' => e = .returned (.bool true) ∧ Below w.heap.size w w' := by
  go_enter Try.func5, Try.ntmps5
  go_wp2_with (first
    | (go_at_call 21; (with_reducible refine (awake16 P _).mono ?_); rintro e w1 ⟨rfl, hB⟩)
    | (go_at_call 15; ((with_reducible refine (P.news (k := 3) (es2 := paw0) (m := 3) (r := 0) (by decide) rfl (by decide) _).mono ?_); rintro e w2 ⟨a2, c2, rfl, hA, hb⟩; replace hB := pab hB hb; clear hb))
    | (go_at_call 11; ((with_reducible refine (P.takes hA (by decide) (k := 1) (x := 5) (es2 := paf1) (m := 3) (r := 0) (by decide) rfl (by decide)).mono ?_); rintro e w3 ⟨a3, c3, rfl, hC, hb⟩; replace hA := hA.on hb; replace hB := pab hB hb; clear hb))
    | (go_at_call 13; ((refine (P.free_no hC (by decide) (by decide)).mono ?_); rintro e w4 ⟨a4, c4, rfl, hb⟩; obtain ⟨b, off, c, off2, rfl, rfl, hW⟩ := paf_cells (hA.on hb) (hC.on hb); obtain ⟨q0, q1, q2, q3⟩ := hW _ (Below.refl _ _); replace hB := pab hB hb; clear hb hW hA hC))
    | (go_at_call 17; (with_reducible refine (lnum _ _).mono ?_); rintro e w7 ⟨rfl, rfl⟩))
  go_ret
  exact ⟨rfl, hB⟩
set_option maxRecDepth 100000 in
set_option maxHeartbeats 4000000 in
theorem paforms12 (P : PoolsOk) (n x : Int) (m : Int) (w : World) (hj : (IntKind.u64.wrap n).tmod 14 = 12) (hm : bits .and .i64 x 1023 = m) (m0 : 0 ≤ m) (m1 : m ≤ 1023) :
    Calls Try.prog 5 #[.int .i64 n, .int .i64 x] w fun e w' => e = .returned (.bool true) ∧ Below w.heap.size w w' := by
  go_enter Try.func5, Try.ntmps5
  go_wp2_with (first
    | (go_at_call 21; (with_reducible refine (awake16 P _).mono ?_); rintro e w1 ⟨rfl, hB⟩)
    | (go_at_call 15; ((with_reducible refine (P.news (k := 3) (es2 := paw0) (m := 3) (r := 0) (by decide) rfl (by decide) _).mono ?_); rintro e w2 ⟨a2, c2, rfl, hA, hb⟩; replace hB := pab hB hb; clear hb))
    | (go_at_call 11; ((with_reducible refine (P.takes hA (by decide) (k := 1) (x := 5) (es2 := paf1) (m := 3) (r := 0) (by decide) rfl (by decide)).mono ?_); rintro e w3 ⟨a3, c3, rfl, hC, hb⟩; replace hA := hA.on hb; replace hB := pab hB hb; clear hb))
    | (go_at_call 13; ((refine (P.free_no hC (by decide) (pf_n (by omega))).mono ?_); rintro e w4 ⟨a4, c4, rfl, hb⟩; obtain ⟨b, off, c, off2, rfl, rfl, hW⟩ := paf_cells (hA.on hb) (hC.on hb); obtain ⟨q0, q1, q2, q3⟩ := hW _ (Below.refl _ _); replace hB := pab hB hb; clear hb hW hA hC))
    | (go_at_call 17; (with_reducible refine (lnum _ _).mono ?_); rintro e w7 ⟨rfl, rfl⟩))
  go_ret
  exact ⟨rfl, hB⟩
set_option maxRecDepth 100000 in
set_option maxHeartbeats 4000000 in
theorem paforms13 (P : PoolsOk) (n x : Int) (m : Int) (w : World) (hj : (IntKind.u64.wrap n).tmod 14 = 13) (hm : bits .and .i64 x 1023 = m) (m0 : 0 ≤ m) (m1 : m ≤ 1023) :
    Calls Try.prog 5 #[.int .i64 n, .int .i64 x] w fun e w' => e = .returned (.bool true) ∧ Below w.heap.size w w' := by
  obtain ⟨N, hN⟩ : ∃ N : Nat, (N : Int) = 17 + m := ⟨(17 + m).toNat, by omega⟩
  have hmk := fun W => pn_make N (by omega) W
  rw [hN] at hmk
  have hw : IntKind.i64.wrap (16 + (1 + m)) = 17 + m := by rw [IntKind.wrap_i64]; omega
  go_enter Try.func5, Try.ntmps5
  go_wp2_with (first
    | (go_at_call 21; (with_reducible refine (awake16 P _).mono ?_); rintro e w1 ⟨rfl, hB⟩)
    | (go_at_call 15; ((with_reducible refine (P.news (k := 3) (es2 := paw0) (m := 3) (r := 0) (by decide) rfl (by decide) _).mono ?_); rintro e w2 ⟨a2, c2, rfl, hA, hb⟩; replace hB := pab hB hb; clear hb))
    | (go_at_call 11; first
      | ((with_reducible refine (P.takes hA (by decide) (k := 1) (x := 5) (es2 := paf1) (m := 3) (r := 0) (by decide) rfl (by decide)).mono ?_); rintro e w3 ⟨a3, c3, rfl, hC, hb⟩; replace hA := hA.on hb; replace hB := pab hB hb; clear hb)
      | ((refine (P.take_no (paIn_made _ _ (by omega)) (by omega) (pt_made (by omega))).mono ?_); rintro e w4 ⟨a4, c4, rfl, hb⟩; obtain ⟨b, off, c, off2, rfl, rfl, hW⟩ := paf_cells ((hA.alloc _).on hb) ((hC.alloc _).on hb); obtain ⟨q0, q1, q2, q3⟩ := hW _ (Below.refl _ _); replace hB := pab (hB.alloc hB.size _) hb; clear hb hW hA hC))
    | (go_at_call 17; (with_reducible refine (lnum _ _).mono ?_); rintro e w7 ⟨rfl, rfl⟩))
  go_ret
  exact ⟨rfl, hB⟩
end Go.Proofs.Ytamhjnjabjfgeaa
