/- The walk of PoolForms, case by case (0 to 6), where the program's calls answer as the chapter says. -/
import Derived.Test.YtamhjnjabjfgeaaPafo
import Derived.Deep.RegionWith
namespace Go.Proofs.Ytamhjnjabjfgeaa
open Go Go.RowKit

theorem paf_cells {ao bo : Option Addr} {w : World} (hA : PaIn [] w ao 3 paw0) (hC : PaIn [] w bo 3 paf1) : ∃ b off c off2, ao = some ⟨b, off, none⟩ ∧ bo = some ⟨c, off2, none⟩ ∧ ∀ W, Below w.heap.size w W → W.cell? ⟨b, off + 1 * 3, none⟩ = some (.bool false) ∧ W.cell? ⟨c, off2 + 1 * 3, none⟩ = some (.bool true) ∧ W.cell? ⟨c, off2 + 1 * 3 + 1, none⟩ = some (.int .i64 5) ∧ W.cell? ⟨c, off2 + 1 * 3 + 2, none⟩ = some (.int .i64 0) := by
  obtain ⟨b, off, a, rfl, ha, hc⟩ := hA.elem (k := 1) (by decide)
  obtain ⟨c, off2, a', rfl, ha', hc'⟩ := hC.elem (k := 1) (by decide)
  subst ha ha'
  exact ⟨b, off, c, off2, rfl, rfl, fun W hW => ⟨(hc W hW).1, (hc' W hW).1, (hc' W hW).2.1, (hc' W hW).2.2⟩⟩
set_option maxRecDepth 100000 in
set_option maxHeartbeats 4000000 in
theorem paforms0 (P : PoolsOk) (n x : Int) (m : Int) (w : World) (hj : (IntKind.u64.wrap n).tmod 14 = 0) (hm : bits .and .i64 x 1023 = m) (m0 : 0 ≤ m) (m1 : m ≤ 1023) :
    Calls Try.prog 5 #[.int .i64 n, .int .i64 x] w fun e w' => e = .returned (.bool true) ∧ Below w.heap.size w w' := by
  go_enter Try.func5, Try.ntmps5
  go_wp2_with (first
    | (go_at_call 21; (with_reducible refine (awake16 P _).mono ?_); rintro e w1 ⟨rfl, hB⟩)
    | (go_at_call 15; first
      | ((with_reducible refine (P.news (k := 3) (es2 := paw0) (m := 3) (r := 0) (by decide) rfl (by decide) _).mono ?_); rintro e w2 ⟨a2, c2, rfl, hA, hb⟩; replace hB := pab hB hb; clear hb)
      | ((refine (P.new_no (pn_no (by omega)) _).mono ?_); rintro e w4 ⟨a4, c4, rfl, hb⟩; obtain ⟨b, off, c, off2, rfl, rfl, hW⟩ := paf_cells (hA.on hb) (hC.on hb); obtain ⟨q0, q1, q2, q3⟩ := hW _ (Below.refl _ _); replace hB := pab hB hb; clear hb hW hA hC))
    | (go_at_call 11; ((with_reducible refine (P.takes hA (by decide) (k := 1) (x := 5) (es2 := paf1) (m := 3) (r := 0) (by decide) rfl (by decide)).mono ?_); rintro e w3 ⟨a3, c3, rfl, hC, hb⟩; replace hA := hA.on hb; replace hB := pab hB hb; clear hb))
    | (go_at_call 17; (with_reducible refine (lnum _ _).mono ?_); rintro e w7 ⟨rfl, rfl⟩))
  go_ret
  exact ⟨rfl, hB⟩
set_option maxRecDepth 100000 in
set_option maxHeartbeats 4000000 in
theorem paforms1 (P : PoolsOk) (n x : Int) (m : Int) (w : World) (hj : (IntKind.u64.wrap n).tmod 14 = 1) (hm : bits .and .i64 x 1023 = m) (m0 : 0 ≤ m) (m1 : m ≤ 1023) :
    Calls Try.prog 5 #[.int .i64 n, .int .i64 x] w fun e w' => e = .returned (.bool true) ∧ Below w.heap.size w w' := by
  go_enter Try.func5, Try.ntmps5
  go_wp2_with (first
    | (go_at_call 21; (with_reducible refine (awake16 P _).mono ?_); rintro e w1 ⟨rfl, hB⟩)
    | (go_at_call 15; first
      | ((with_reducible refine (P.news (k := 3) (es2 := paw0) (m := 3) (r := 0) (by decide) rfl (by decide) _).mono ?_); rintro e w2 ⟨a2, c2, rfl, hA, hb⟩; replace hB := pab hB hb; clear hb)
      | ((refine (P.new_no (pn_no (by omega)) _).mono ?_); rintro e w4 ⟨a4, c4, rfl, hb⟩; obtain ⟨b, off, c, off2, rfl, rfl, hW⟩ := paf_cells (hA.on hb) (hC.on hb); obtain ⟨q0, q1, q2, q3⟩ := hW _ (Below.refl _ _); replace hB := pab hB hb; clear hb hW hA hC))
    | (go_at_call 11; ((with_reducible refine (P.takes hA (by decide) (k := 1) (x := 5) (es2 := paf1) (m := 3) (r := 0) (by decide) rfl (by decide)).mono ?_); rintro e w3 ⟨a3, c3, rfl, hC, hb⟩; replace hA := hA.on hb; replace hB := pab hB hb; clear hb))
    | (go_at_call 17; (with_reducible refine (lnum _ _).mono ?_); rintro e w7 ⟨rfl, rfl⟩))
  go_ret
  exact ⟨rfl, hB⟩
set_option maxRecDepth 100000 in
set_option maxHeartbeats 4000000 in
theorem paforms2 (P : PoolsOk) (n x : Int) (m : Int) (w : World) (hj : (IntKind.u64.wrap n).tmod 14 = 2) (hm : bits .and .i64 x 1023 = m) (m0 : 0 ≤ m) (m1 : m ≤ 1023) :
    Calls Try.prog 5 #[.int .i64 n, .int .i64 x] w fun e w' => e = .returned (.bool true) ∧ Below w.heap.size w w' := by
  go_enter Try.func5, Try.ntmps5
  go_wp2_with (first
    | (go_at_call 21; (with_reducible refine (awake16 P _).mono ?_); rintro e w1 ⟨rfl, hB⟩)
    | (go_at_call 15; ((with_reducible refine (P.news (k := 3) (es2 := paw0) (m := 3) (r := 0) (by decide) rfl (by decide) _).mono ?_); rintro e w2 ⟨a2, c2, rfl, hA, hb⟩; replace hB := pab hB hb; clear hb))
    | (go_at_call 11; ((with_reducible refine (P.takes hA (by decide) (k := 1) (x := 5) (es2 := paf1) (m := 3) (r := 0) (by decide) rfl (by decide)).mono ?_); rintro e w3 ⟨a3, c3, rfl, hC, hb⟩; replace hA := hA.on hb; replace hB := pab hB hb; clear hb))
    | (go_at_call 9; ((refine (P.lease_no (paIn_nil _) (by decide)).mono ?_); rintro e w4 ⟨rfl, hb⟩; obtain ⟨b, off, c, off2, rfl, rfl, hW⟩ := paf_cells (hA.on hb) (hC.on hb); obtain ⟨q0, q1, q2, q3⟩ := hW _ (Below.refl _ _); replace hB := pab hB hb; clear hb hW hA hC))
    | (go_at_call 17; (with_reducible refine (lnum _ _).mono ?_); rintro e w7 ⟨rfl, rfl⟩))
  go_ret
  exact ⟨rfl, hB⟩
set_option maxRecDepth 100000 in
set_option maxHeartbeats 4000000 in
theorem paforms3 (P : PoolsOk) (n x : Int) (m : Int) (w : World) (hj : (IntKind.u64.wrap n).tmod 14 = 3) (hm : bits .and .i64 x 1023 = m) (m0 : 0 ≤ m) (m1 : m ≤ 1023) :
    Calls Try.prog 5 #[.int .i64 n, .int .i64 x] w fun e w' => e = .returned (.bool true) ∧ Below w.heap.size w w' := by
  go_enter Try.func5, Try.ntmps5
  go_wp2_with (first
    | (go_at_call 21; (with_reducible refine (awake16 P _).mono ?_); rintro e w1 ⟨rfl, hB⟩)
    | (go_at_call 15; ((with_reducible refine (P.news (k := 3) (es2 := paw0) (m := 3) (r := 0) (by decide) rfl (by decide) _).mono ?_); rintro e w2 ⟨a2, c2, rfl, hA, hb⟩; replace hB := pab hB hb; clear hb))
    | (go_at_call 11; ((with_reducible refine (P.takes hA (by decide) (k := 1) (x := 5) (es2 := paf1) (m := 3) (r := 0) (by decide) rfl (by decide)).mono ?_); rintro e w3 ⟨a3, c3, rfl, hC, hb⟩; replace hA := hA.on hb; replace hB := pab hB hb; clear hb))
    | (go_at_call 9; ((refine (P.lease_no hA (pl_u (by omega))).mono ?_); rintro e w4 ⟨rfl, hb⟩; obtain ⟨b, off, c, off2, rfl, rfl, hW⟩ := paf_cells (hA.on hb) (hC.on hb); obtain ⟨q0, q1, q2, q3⟩ := hW _ (Below.refl _ _); replace hB := pab hB hb; clear hb hW hA hC))
    | (go_at_call 17; (with_reducible refine (lnum _ _).mono ?_); rintro e w7 ⟨rfl, rfl⟩))
  go_ret
  exact ⟨rfl, hB⟩
set_option maxRecDepth 100000 in
set_option maxHeartbeats 4000000 in
theorem paforms4 (P : PoolsOk) (n x : Int) (m : Int) (w : World) (hj : (IntKind.u64.wrap n).tmod 14 = 4) (hm : bits .and .i64 x 1023 = m) (m0 : 0 ≤ m) (m1 : m ≤ 1023) :
    Calls Try.prog 5 #[.int .i64 n, .int .i64 x] w fun e w' => e = .returned (.bool true) ∧ Below w.heap.size w w' := by
  go_enter Try.func5, Try.ntmps5
  go_wp2_with (first
    | (go_at_call 21; (with_reducible refine (awake16 P _).mono ?_); rintro e w1 ⟨rfl, hB⟩)
    | (go_at_call 15; ((with_reducible refine (P.news (k := 3) (es2 := paw0) (m := 3) (r := 0) (by decide) rfl (by decide) _).mono ?_); rintro e w2 ⟨a2, c2, rfl, hA, hb⟩; replace hB := pab hB hb; clear hb))
    | (go_at_call 11; ((with_reducible refine (P.takes hA (by decide) (k := 1) (x := 5) (es2 := paf1) (m := 3) (r := 0) (by decide) rfl (by decide)).mono ?_); rintro e w3 ⟨a3, c3, rfl, hC, hb⟩; replace hA := hA.on hb; replace hB := pab hB hb; clear hb))
    | (go_at_call 9; ((refine (P.lease_no hA (pl_u (by omega))).mono ?_); rintro e w4 ⟨rfl, hb⟩; obtain ⟨b, off, c, off2, rfl, rfl, hW⟩ := paf_cells (hA.on hb) (hC.on hb); obtain ⟨q0, q1, q2, q3⟩ := hW _ (Below.refl _ _); replace hB := pab hB hb; clear hb hW hA hC))
    | (go_at_call 17; (with_reducible refine (lnum _ _).mono ?_); rintro e w7 ⟨rfl, rfl⟩))
  go_ret
  exact ⟨rfl, hB⟩
set_option maxRecDepth 100000 in
set_option maxHeartbeats 4000000 in
theorem paforms5 (P : PoolsOk) (n x : Int) (m : Int) (w : World) (hj : (IntKind.u64.wrap n).tmod 14 = 5) (hm : bits .and .i64 x 1023 = m) (m0 : 0 ≤ m) (m1 : m ≤ 1023) :
    Calls Try.prog 5 #[.int .i64 n, .int .i64 x] w fun e w' => e = .returned (.bool true) ∧ Below w.heap.size w w' := by
  go_enter Try.func5, Try.ntmps5
  go_wp2_with (first
    | (go_at_call 21; (with_reducible refine (awake16 P _).mono ?_); rintro e w1 ⟨rfl, hB⟩)
    | (go_at_call 15; ((with_reducible refine (P.news (k := 3) (es2 := paw0) (m := 3) (r := 0) (by decide) rfl (by decide) _).mono ?_); rintro e w2 ⟨a2, c2, rfl, hA, hb⟩; replace hB := pab hB hb; clear hb))
    | (go_at_call 11; ((with_reducible refine (P.takes hA (by decide) (k := 1) (x := 5) (es2 := paf1) (m := 3) (r := 0) (by decide) rfl (by decide)).mono ?_); rintro e w3 ⟨a3, c3, rfl, hC, hb⟩; replace hA := hA.on hb; replace hB := pab hB hb; clear hb))
    | (go_at_call 9; ((refine (P.lease_no hA (pl_t (by omega))).mono ?_); rintro e w4 ⟨rfl, hb⟩; obtain ⟨b, off, c, off2, rfl, rfl, hW⟩ := paf_cells (hA.on hb) (hC.on hb); obtain ⟨q0, q1, q2, q3⟩ := hW _ (Below.refl _ _); replace hB := pab hB hb; clear hb hW hA hC))
    | (go_at_call 17; (with_reducible refine (lnum _ _).mono ?_); rintro e w7 ⟨rfl, rfl⟩))
  go_ret
  exact ⟨rfl, hB⟩
set_option maxRecDepth 100000 in
set_option maxHeartbeats 4000000 in
theorem paforms6 (P : PoolsOk) (n x : Int) (m : Int) (w : World) (hj : (IntKind.u64.wrap n).tmod 14 = 6) (hm : bits .and .i64 x 1023 = m) (m0 : 0 ≤ m) (m1 : m ≤ 1023) :
    Calls Try.prog 5 #[.int .i64 n, .int .i64 x] w fun e w' => e = .returned (.bool true) ∧ Below w.heap.size w w' := by
  go_enter Try.func5, Try.ntmps5
  go_wp2_with (first
    | (go_at_call 21; (with_reducible refine (awake16 P _).mono ?_); rintro e w1 ⟨rfl, hB⟩)
    | (go_at_call 15; ((with_reducible refine (P.news (k := 3) (es2 := paw0) (m := 3) (r := 0) (by decide) rfl (by decide) _).mono ?_); rintro e w2 ⟨a2, c2, rfl, hA, hb⟩; replace hB := pab hB hb; clear hb))
    | (go_at_call 11; ((with_reducible refine (P.takes hA (by decide) (k := 1) (x := 5) (es2 := paf1) (m := 3) (r := 0) (by decide) rfl (by decide)).mono ?_); rintro e w3 ⟨a3, c3, rfl, hC, hb⟩; replace hA := hA.on hb; replace hB := pab hB hb; clear hb))
    | (go_at_call 9; ((refine (P.lease_no (paIn_one _ _ _ _) (pl_one (by omega))).mono ?_); rintro e w4 ⟨rfl, hb⟩; obtain ⟨b, off, c, off2, rfl, rfl, hW⟩ := paf_cells ((hA.alloc _).on hb) ((hC.alloc _).on hb); obtain ⟨q0, q1, q2, q3⟩ := hW _ (Below.refl _ _); replace hB := pab (hB.alloc hB.size _) hb; clear hb hW hA hC))
    | (go_at_call 17; (with_reducible refine (lnum _ _).mono ?_); rintro e w7 ⟨rfl, rfl⟩))
  go_ret
  exact ⟨rfl, hB⟩
end Go.Proofs.Ytamhjnjabjfgeaa
