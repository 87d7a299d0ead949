/- slices.Repeat of one address, package pool's New: what they answer. Conditions: none. -/
import Derived.Test.YtamhjnjabjfgeaaPal
import Derived.Test.YtamhjnjabjfgeaaShelf
import Derived.Test.YtamhjnjabjfgeaaPap1
import Derived.Laws.CopyRow
import Derived.Deep.RegionWith
import Derived.Laws.MakeOwn
namespace Go.Proofs.Ytamhjnjabjfgeaa
open Go Go.RowKit

/-- 'copy(dst, src)' of elements of many cells into a row that is known whole. -/
theorem run_copy_many {P : Program} (w : World) (dT sT ty elem : TypeId) (g o dLen dCap : Nat) (a : Addr) (sLen sCap size k : Nat) (cur : Array Value) (t : TypeId) (cs : List Value)
    (hu : P.underlying dT = some (.slice elem)) (hs : (P.info? elem).map (·.size) = some size)
    (hg : w.heap[g]? = some (.cells cur t (0, 0))) (hk : Nat.min sLen dLen = k) (hn : cs.length = k * size)
    (hsrc : ∀ j v, cs[j]? = some v → w.cell? (a.add j) = some v) (hfit : o + cs.length ≤ cur.size) (h1 : ∀ v ∈ cs, v.oneCell' = true) :
    (Builtin.copy_ #[dT, sT] ty #[.slice (some ⟨g, o, none⟩) dLen dCap, .slice (some a) sLen sCap]).run P w =
      .ok (goInt k) (w.setRow g (cur.toList.take o ++ cs ++ cur.toList.drop (o + cs.length)).toArray) := by
  have hl := run_loadCells_list (P := P) w a cs hsrc
  have hst := run_storeCells_at P g o t cs 0 cur w hg (by simpa using hfit) h1
  cases hq : P.info? elem with
  | none => simp [hq] at hs
  | some i =>
    have hi : i.size = size := by simpa [hq] using hs
    rw [hn] at hl
    simp [Builtin.copy_, run_underlying hu, Builtin.lenOf, Builtin.firstCells, sizeOf, typeInfo, hq, hi, hk, hl, hst]
theorem At.setOwn {b : Nat} {c : Array Value} {T : TypeId} {C : Ass} {w0 w : World} (hC : C.Good) (h : At w0 ((ownA b c T).star C) w) (c2 : Array Value) : At w0 ((ownA b c2 T).star C) (w.setRow b c2) := by
  refine h.turn fun F hF => Becomes.left hC hF ?_
  rintro F1 ⟨h1, rfl⟩
  refine ⟨[b], ⟨setRow_heap w b c _ _ _ h1, rfl⟩, ⟨rfl, rfl, rfl, Nat.le_of_eq (setRow_size w b c2).symm, fun i _ hn => setRow_other w b i c2 (fun e => hn (by simp [e]))⟩, fun k hk => .inl hk⟩
theorem At.drewn {C : Ass} {w0 w : World} (h : At w0 C w) (hC : C.Good) : At w0 C w.drew := h.lay hC ⟨rfl, rfl, rfl, Nat.le_refl _, fun _ _ => rfl⟩
theorem At.heapOwn {b : Nat} {c : Array Value} {T : TypeId} {C : Ass} {w0 w : World} (h : At w0 ((ownA b c T).star C) w) : w.heap[b]? = some (.cells c T (0, 0)) := by
  obtain ⟨_, ⟨_, _, _, ⟨h, _⟩, _⟩, _⟩ := h
  exact h
/-- So many new ones, ahead of what was made. -/
def pnCur (m n : Nat) : List Value := paCells (List.replicate n paNew) ++ List.replicate ((m - n) * 3) (.int .i64 0)
def pnMade (m : Nat) : Array Value := madeCells #[.bool false, .int .i64 0, .int .i64 0] (m * 3)
theorem pnMade_size (m : Nat) : (pnMade m).size = m * 3 := by simp [pnMade, madeCells]
theorem pn_make (m : Nat) (h2 : m ≤ 5000) (W : World) : (Instr.makeSlice 22 (.int .i64 (m : Int)) (.int .i64 (m : Int))).run Try.prog W = .ok (.slice (some ⟨W.heap.size, 0, none⟩) m m) (W.alloc (.cells (pnMade m) TPa)) := by
  obtain ⟨i, hi, hz, hs, hb⟩ := info_parts pa_info
  have hr := run_make (P := Try.prog) W 22 TPa i (.agg #[.bool false, .int .i64 0, .int .i64 0]) Try.underlying22 hi hz .i64 .i64 m m (by omega) (Int.le_refl _) (by rw [hb]; omega) (by omega)
  rw [Int.toNat_natCast, hs] at hr
  exact hr
/-- The first n of a row's cells are new addresses. -/
def PnAt (cur : Array Value) (m n : Nat) : Prop := cur.size = m * 3 ∧ cur.toList.take (n * 3) = paCells (List.replicate n paNew)
theorem paRep_add (n k : Nat) : paCells (List.replicate n paNew) ++ paCells (List.replicate k paNew) = paCells (List.replicate (n + k) paNew) := by
  rw [← paCells_app, List.replicate_append_replicate]
theorem paRep_len (n : Nat) : (paCells (List.replicate n paNew)).length = n * 3 := by rw [paCells_len, List.length_replicate]
theorem PnAt.next {cur : Array Value} {m n k : Nat} (h : PnAt cur m n) (hk : n + k ≤ m) : PnAt (cur.toList.take (n * 3) ++ paCells (List.replicate k paNew) ++ cur.toList.drop (n * 3 + (paCells (List.replicate k paNew)).length)).toArray m (n + k) := by
  obtain ⟨h1, h2⟩ := h
  have hl : (paCells (List.replicate n paNew) ++ paCells (List.replicate k paNew)).length = (n + k) * 3 := by rw [List.length_append, paRep_len, paRep_len]; omega
  refine ⟨?_, ?_⟩
  · rw [h2]
    simp only [List.size_toArray, List.length_append, paRep_len, List.length_drop, Array.length_toList, h1]
    omega
  · rw [h2, List.toList_toArray, List.take_append_of_le_length (by omega), List.take_of_length_le (by omega), paRep_add]
theorem PnAt.src {cur : Array Value} {m n k : Nat} (h : PnAt cur m n) (hk : k ≤ n) {w : World} {g : Nat} {t : TypeId} (hg : w.heap[g]? = some (.cells cur t (0, 0))) : ∀ j v, (paCells (List.replicate k paNew))[j]? = some v → w.cell? ((⟨g, 0, none⟩ : Addr).add j) = some v := by
  intro j v hv
  have hj : j < k * 3 := by
    rcases Nat.lt_or_ge j (k * 3) with c | c
    · exact c
    · rw [List.getElem?_eq_none (by rw [paRep_len]; exact c)] at hv; cases hv
  have e : paCells (List.replicate n paNew) = paCells (List.replicate k paNew) ++ paCells (List.replicate (n - k) paNew) := by rw [paRep_add]; congr 2; omega
  rw [Addr.add_lit, Nat.zero_add, cell_of_row w g j _ t _ hg, ← Array.getElem?_toList, ← List.getElem?_take_of_lt (i := j) (j := n * 3) (by omega), h.2, e, List.getElem?_append_left (by rw [paRep_len]; exact hj)]
  exact hv
theorem PnAt.one (m : Nat) (h1 : 1 ≤ m) : PnAt ((pnMade m).toList.take (0 * 3) ++ paCells (List.replicate 1 paNew) ++ (pnMade m).toList.drop (0 * 3 + (paCells (List.replicate 1 paNew)).length)).toArray m 1 := by
  have := PnAt.next (cur := pnMade m) (m := m) (n := 0) (k := 1) ⟨pnMade_size m, by simp [paCells]⟩ (by omega)
  exact this
theorem pn_copy0 {W : World} {b off cap g m : Nat} (h1 : 1 ≤ m) (hx : PaIn [] W (some ⟨b, off, none⟩) 1 [paNew]) {cur : Array Value} (hg : W.heap[g]? = some (.cells cur TPa (0, 0))) (hs : cur.size = m * 3) (ty : TypeId) :
    (Builtin.copy_ #[22, 22] ty #[.slice (some ⟨g, 0, none⟩) m m, .slice (some ⟨b, off, none⟩) 1 cap]).run Try.prog W = .ok (.int .i64 1) (W.setRow g (cur.toList.take (0 * 3) ++ paCells (List.replicate 1 paNew) ++ cur.toList.drop (0 * 3 + (paCells (List.replicate 1 paNew)).length)).toArray) := by
  obtain ⟨i, hi, hz0, hz1, hz2⟩ := info_parts pa_info
  rcases hx.row with c | ⟨b', off', e, hat, _⟩
  · omega
  · obtain ⟨rfl, rfl⟩ : b = b' ∧ off = off' := by simpa using e
    exact run_copy_many (P := Try.prog) W _ _ ty TPa g 0 m m ⟨b, off, none⟩ 1 cap 3 1 cur TPa (paCells (List.replicate 1 paNew)) Try.underlying22 (by rw [hi, Option.map_some, hz1]) hg (Nat.min_eq_left h1) (by rw [paRep_len]) (fun j v hv => by rw [Addr.add_lit]; exact hat j v hv) (by rw [paRep_len, hs]; omega) (paCells_one _)
theorem pn_copy {W : World} {g m n : Nat} (h2 : n < m) {cur : Array Value} (hg : W.heap[g]? = some (.cells cur TPa (0, 0))) (hp : PnAt cur m n) (ty : TypeId) {k : Nat} (hk : Nat.min n (m - n) = k) (c1 c2 : Nat) :
    (Builtin.copy_ #[22, 22] ty #[.slice (some ⟨g, n * 3, none⟩) (m - n) c1, .slice (some ⟨g, 0, none⟩) n c2]).run Try.prog W = .ok (.int .i64 (k : Int)) (W.setRow g (cur.toList.take (n * 3) ++ paCells (List.replicate k paNew) ++ cur.toList.drop (n * 3 + (paCells (List.replicate k paNew)).length)).toArray) := by
  obtain ⟨i, hi, hz0, hz1, hz2⟩ := info_parts pa_info
  have hkn : k ≤ n := by rw [← hk]; exact Nat.min_le_left _ _
  have hkm : k ≤ m - n := by rw [← hk]; exact Nat.min_le_right _ _
  exact run_copy_many (P := Try.prog) W _ _ ty TPa g (n * 3) (m - n) c1 ⟨g, 0, none⟩ n c2 3 k cur TPa (paCells (List.replicate k paNew)) Try.underlying22 (by rw [hi, Option.map_some, hz1]) hg hk (by rw [paRep_len]) (hp.src hkn hg) (by rw [paRep_len, hp.1]; omega) (paCells_one _)
set_option maxRecDepth 100000 in
set_option maxHeartbeats 4000000 in
theorem prepeat (m : Nat) (h1 : 1 ≤ m) (h2 : m ≤ 16) {w : World} {b off cap : Nat} (hx : PaIn [] w (some ⟨b, off, none⟩) 1 [paNew]) :
    Calls Try.prog 35 #[.slice (some ⟨b, off, none⟩) 1 cap, .int .i64 (m : Int)] w fun e w' => ∃ g, e = .returned (.slice (some ⟨g, 0, none⟩) m m) ∧ At w ((rowE TPa 3 (.slice (some ⟨g, 0, none⟩) (List.replicate m paNew).length m) (List.replicate m paNew).length (paCells (List.replicate m paNew))).star emp) w' := by
  have hmk := pn_make m (by omega)
  have HB := Lib.hid (show ∀ W, Calls Try.prog 37 #[.int .u64 1, .int .u64 (m : Int)] W fun e w' => e = .returned (.tuple #[.int .u64 0, .int .u64 (m : Int)]) ∧ W = w' from fun W => (Try.bits_Mul 1 m (by decide) (by omega) W).mono fun e w' ⟨a, c⟩ => ⟨by rw [a, Nat.one_mul, Nat.div_eq_of_lt (by omega), Nat.mod_eq_of_lt (by omega)]; rfl, c.symm⟩)
  have hu : IntKind.u64.wrap (m : Int) = (m : Int) := by rw [IntKind.wrap_u64]; omega
  have hi : IntKind.i64.wrap (m : Int) = (m : Int) := by rw [IntKind.wrap_i64]; omega
  have hm0 : ¬ (m : Int) < 0 := by omega
  have hmx : ¬ 9223372036854775807 < (m : Int) := by omega
  have hA0 : At w emp w := At.none (Below.refl _ _)
  have hO := At.hold emp_good hA0 (pnMade m) TPa
  have hC := fun ty => pn_copy0 (cap := cap) h1 (hx.on ((Below.refl w.heap.size w).alloc (Nat.le_refl _) (.cells (pnMade m) TPa))) hO.heapOwn (pnMade_size m) ty
  have HS := Lib.hid (hO.setOwn emp_good ((pnMade m).toList.take (0 * 3) ++ paCells (List.replicate 1 paNew) ++ (pnMade m).toList.drop (0 * 3 + (paCells (List.replicate 1 paNew)).length)).toArray)
  have HP := Lib.hid (PnAt.one m h1)
  generalize ((pnMade m).toList.take (0 * 3) ++ paCells (List.replicate 1 paNew) ++ (pnMade m).toList.drop (0 * 3 + (paCells (List.replicate 1 paNew)).length)).toArray = cur0 at *
  clear hx hA0 hO
  go_enter Try.func35, Try.ntmps35
  go_wp2_with (go_at_call 37; (with_reducible refine (HB.out _).mono ?_); rintro e w1 ⟨rfl, rfl⟩)
  clear hmk hu hi hmx hC
  go_loopw [8] (fun i wr => ∃ (n : Nat) (cur : Array Value), 1 ≤ n ∧ n ≤ m ∧ i = .int .i64 (n : Int) ∧ PnAt cur m n ∧ At w ((ownA w.heap.size cur TPa).star emp) wr) (fun i _ => m - (intOf i).toNat)
  case atStart => exact ⟨1, cur0, Nat.le_refl _, h1, rfl, HP.out, HS.out⟩
  case round =>
    clear HS HP
    obtain ⟨n, cur, n1, n2, rfl, hp, hS⟩ := hrel
    by_cases hlt : n < m
    · have hltI : (n : Int) < (m : Int) := by omega
      have hnn : (n : Int) ≤ (m : Int) := by omega
      have hn0 : (0 : Int) ≤ (n : Int) := by omega
      have hne : ¬ m = n := by omega
      have hsub : m - n ≠ 0 := by omega
      obtain ⟨k, hk⟩ : ∃ k, Nat.min n (m - n) = k := ⟨_, rfl⟩
      have hk1 : k ≤ m - n := by rw [← hk]; exact Nat.min_le_right _ _
      have hk0 : 1 ≤ k := by rw [← hk]; exact Nat.le_min.2 ⟨n1, by omega⟩
      have hC := fun ty c1 c2 => pn_copy (W := wr.drew) hlt hS.heapOwn hp ty hk c1 c2
      have HS := Lib.hid ((hS.drewn ((ownA_good _ _ _).star emp_good)).setOwn emp_good (cur.toList.take (n * 3) ++ paCells (List.replicate k paNew) ++ cur.toList.drop (n * 3 + (paCells (List.replicate k paNew)).length)).toArray)
      have HP := Lib.hid (hp.next (k := k) (by omega))
      generalize (cur.toList.take (n * 3) ++ paCells (List.replicate k paNew) ++ cur.toList.drop (n * 3 + (paCells (List.replicate k paNew)).length)).toArray = cur2 at *
      have hw : IntKind.i64.wrap ((n : Int) + (k : Int)) = ((n + k : Nat) : Int) := by rw [IntKind.wrap_i64]; omega
      clear hp hS hk
      go_wp2
      go_region
      all_goals
        go_roundw
        case rel => exact ⟨.int .i64 ((n : Int) + (k : Int)), _, _, _, _, _, _, _, _, _, _, _, _, _, ⟨n + k, cur2, by omega, by omega, by go_num, HP.out, HS.out⟩, rfl⟩
        case measure => simp [intOf]; omega
    · obtain rfl : n = m := by omega
      have hltI : ¬ (n : Int) < (n : Int) := by omega
      have HR := Lib.hid (hS.paRow (es := List.replicate n paNew) (cap := n) (by rw [List.length_replicate]; exact hp.2) hp.1 (by rw [List.length_replicate]; exact Nat.le_refl _) (by unfold maxLen; omega))
      clear hS hp
      go_wp2
      go_ret
      exact ⟨_, rfl, by have h := HR.out; rw [List.length_replicate] at h; exact h⟩
set_option maxRecDepth 100000 in
set_option maxHeartbeats 2000000 in
theorem pnew (m : Int) (w : World) : Calls Try.prog 15 #[.int .i64 m] w (PaOut w (pnL m) (pnE m)) := by
  cases ho : pnOk m with
  | false =>
    rw [show pnL m = [] by unfold pnL; rw [ho]; rfl, show pnE m = 1600 by unfold pnE; rw [ho]; rfl]
    have HZ := Lib.hid (fun w => psize m false (by unfold pnOk at ho; exact ho.symm) w)
    clear ho
    go_enter Try.func15, Try.ntmps15
    go_wp2_with (go_at_call 34; (with_reducible refine (HZ.out _).mono ?_); rintro e w1 ⟨rfl, rfl⟩)
    go_ret2
    exact PaOut.no (Below.refl _ _) _
  | true =>
    obtain ⟨h1, h2⟩ : 1 ≤ m ∧ m ≤ 16 := by simpa [pnOk] using ho
    obtain ⟨q, rfl⟩ := Int.eq_ofNat_of_zero_le (show 0 ≤ m by omega)
    have HE := Lib.hid (show pnL (q : Int) = List.replicate q paNew ∧ pnE (q : Int) = 0 from by unfold pnL pnE; rw [if_pos ho, if_pos ho]; exact ⟨rfl, rfl⟩)
    have HZ := Lib.hid (fun w => psize (q : Int) true (by unfold pnOk at ho; exact ho.symm) w)
    have hin : PaIn [] (w.alloc (.cells #[.bool false, .int .i64 (-1), .int .i64 0] TPa)) (some ⟨w.heap.size, 0, none⟩) 1 [paNew] := ⟨rfl, .inr ⟨_, 0, rfl, paAt_lit w [paNew], by simp, by simp⟩, by decide⟩
    have HR := Lib.hid (fun cap => prepeat (cap := cap) q (by omega) (by omega) hin)
    have HB := Lib.hid ((Below.refl w.heap.size w).alloc (Nat.le_refl _) (.cells #[.bool false, .int .i64 (-1), .int .i64 0] TPa))
    clear ho hin h1 h2
    go_enter Try.func15, Try.ntmps15
    go_wp2_with (first
      | (go_at_call 34; (with_reducible refine (HZ.out _).mono ?_); rintro e w1 ⟨rfl, rfl⟩)
      | (go_at_call 35; (with_reducible refine (HR.out _).mono ?_); rintro e w1 ⟨g, rfl, hS⟩))
    go_ret2
    rw [HE.out.1, HE.out.2]
    exact ⟨_, _, by rw [List.length_replicate]; rfl, At.under HB.out hS⟩
end Go.Proofs.Ytamhjnjabjfgeaa
