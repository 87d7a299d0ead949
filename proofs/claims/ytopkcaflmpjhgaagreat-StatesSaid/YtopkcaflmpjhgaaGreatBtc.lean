/- Put together: Ins, Tdc. Conditions: each theorem's own. -/
import Derived.Test.YtopkcaflmpjhgaaGreatBus
import Derived.Test.YtopkcaflmpjhgaaGreatBpp
import Derived.Lib.AppendZerosOnto
import Derived.Lib.Overlaps
import Derived.Laws.Externs
import Derived.Shelf.RegionOpenPlain
import Derived.Deep.RegionWith
import Derived.Test.YtopkcaflmpjhgaaGreatBta
namespace Go.Proofs.YtopkcaflmpjhgaaGreat
open Go Go.RowKit

section
variable {w0 w : World} {C : Ass} {e : TypeId} {K g n c : Nat} {xs : List Value}
/-- A row of one's own is a block of one's own, and back. -/
theorem At.whole (h : At w0 ((rowE e K (.slice (some ⟨g, 0, Option.none⟩) n c) n xs).star C) w) : ∃ cur : Array Value, cur.size = c * K ∧ cur.toList.take (n * K) = xs ∧ n ≤ c ∧ c ≤ maxLen ∧ At w0 ((ownA g cur e).star C) w := by
  obtain ⟨F, ⟨F1, F2, rfl, ⟨⟨hl, hr⟩, rfl⟩, h2, hd⟩, hB, hb⟩ := h
  rcases hr with ⟨e1, _⟩ | ⟨g', c', cur, e1, hbg, hg, hnc, hcm, hcs, htk⟩
  · simp at e1
  · simp only [Value.slice.injEq, Option.some.injEq, Addr.mk.injEq, and_true, true_and] at e1
    obtain ⟨rfl, rfl⟩ := e1
    exact ⟨cur, hcs, htk, hnc, hcm, [g] ++ F2, ⟨[g], F2, rfl, ⟨hg, rfl⟩, h2, fun k hk => hd k (by simpa [Value.ownBlock] using hk)⟩, fun k hk => hB k (by simpa [Value.ownBlock] using hk), hb⟩
theorem At.asRow {cur : Array Value} (hcs : cur.size = c * K) (htk : cur.toList.take (n * K) = xs) (hnc : n ≤ c) (hcm : c ≤ maxLen) (h : At w0 ((ownA g cur e).star C) w) : At w0 ((rowE e K (.slice (some ⟨g, 0, Option.none⟩) n c) n xs).star C) w := by
  obtain ⟨F, ⟨F1, F2, rfl, ⟨hg, rfl⟩, h2, hd⟩, hB, hb⟩ := h
  refine ⟨[g] ++ F2, ⟨[g], F2, rfl, ⟨⟨?_, .inr ⟨g, c, cur, rfl, Nat.zero_le _, hg, hnc, hcm, hcs, htk⟩⟩, rfl⟩, h2, hd⟩, hB, hb⟩
  rw [← htk, List.length_take, Array.length_toList, hcs]
  exact Nat.min_eq_left (Nat.mul_le_mul_right _ hnc)
end
theorem usCells_take (us : List Us) {k : Nat} (hk : k ≤ us.length) : (usCells us).take (k * 9) = usCells (us.take k) ∧ (usCells us).drop (k * 9) = usCells (us.drop k) := by
  have h := usCells_app (us.take k) (us.drop k)
  rw [List.take_append_drop] at h
  have hl : (usCells (us.take k)).length = k * 9 := by rw [usCells_len, List.length_take, Nat.min_eq_left hk]
  rw [h, ← hl, List.take_left, List.drop_left]
  exact ⟨rfl, rfl⟩
/-- Where the user comes. -/
def insAt (us : List Us) (k : Nat) (x : Us) : List Us := us.take k ++ x :: us.drop k
theorem insAt_len {us : List Us} {k : Nat} (hk : k ≤ us.length) (x : Us) : (insAt us k x).length = us.length + 1 := by simp [insAt]; omega
theorem insAt_cells {us : List Us} {k : Nat} (x : Us) : usCells (insAt us k x) = usCells (us.take k) ++ (usCells [x] ++ usCells (us.drop k)) := by
  unfold insAt
  rw [usCells_app, show x :: us.drop k = [x] ++ us.drop k from rfl, usCells_app]
/-- Cells behind two copies, in the row itself. -/
theorem ins_room {cur : List Value} {us : List Us} {x : Us} {k n : Nat} (hn : n = us.length) (hk : k < n) (htk : cur.take (n * 9) = usCells us) (hs : (n + 1) * 9 ≤ cur.length) {cur1 cur2 : List Value}
    (h1 : cur1 = cur.take ((k + 1) * 9) ++ usCells (us.drop k) ++ cur.drop ((k + 1) * 9 + (usCells (us.drop k)).length)) (h2 : cur2 = cur1.take (k * 9) ++ usCells [x] ++ cur1.drop (k * 9 + (usCells [x]).length)) :
    cur1.length = cur.length ∧ cur2.length = cur.length ∧ cur2.take ((n + 1) * 9) = usCells (insAt us k x) := by
  have hd : (usCells (us.drop k)).length = (n - k) * 9 := by rw [usCells_len, List.length_drop, hn]
  have hx : (usCells [x]).length = 9 := usCells_len [x]
  have hA : cur1.take (k * 9) = usCells (us.take k) := by
    rw [h1, List.append_assoc, List.take_append_of_le_length (by rw [List.length_take]; omega), List.take_take, Nat.min_eq_left (by omega), ← (usCells_take us (k := k) (by omega)).1, ← htk, List.take_take, Nat.min_eq_left (by omega)]
  have hB : cur1.drop (k * 9 + 9) = usCells (us.drop k) ++ cur.drop ((k + 1) * 9 + (n - k) * 9) := by
    have hl : (cur.take ((k + 1) * 9)).length = k * 9 + 9 := by rw [List.length_take]; omega
    rw [h1, List.append_assoc, ← hl, List.drop_left, hd]
  have hl1 : cur1.length = cur.length := by rw [h1]; simp only [List.length_append, List.length_take, List.length_drop, hd]; omega
  have hk9 : (usCells (us.take k)).length = k * 9 := by rw [usCells_len, List.length_take]; omega
  refine ⟨hl1, ?_, ?_⟩
  · rw [h2]; simp only [List.length_append, List.length_take, List.length_drop, hx, hl1]; omega
  · have hL : (usCells (us.take k) ++ (usCells [x] ++ usCells (us.drop k))).length = (n + 1) * 9 := by simp only [List.length_append, hk9, hx, hd]; omega
    rw [h2, hA, hx, hB, insAt_cells, show ∀ R : List Value, usCells (us.take k) ++ usCells [x] ++ (usCells (us.drop k) ++ R) = (usCells (us.take k) ++ (usCells [x] ++ usCells (us.drop k))) ++ R from fun R => by simp only [List.append_assoc], ← hL, List.take_left]
/-- An operation 'copy' whose run is known. -/
theorem wp_copy_is {P : Program} (w : World) {ops : Array Oper} {rest : List Oper} {o : Oper} {a : Act} {Q : Exit → Act → World → Prop} (hgd : o.guard = none) (d s : Operand) (t t' : TypeId)
    (ho : o.op = .call { callee := .builtin .copy, args := #[d, s], argTypes := #[t, t'] }) (v u : Value) (hd : a.eval d = v) (hs : a.eval s = u) {v' : Value} {w' : World}
    (hr : (Builtin.copy_ #[t, t'] o.type #[v, u]).run P w = .ok v' w') (h : wpList P ops Q rest (a.put o.dst v') w') : wpList P ops Q (o :: rest) a w :=
  wpList_plain hgd fun _ hK => by
    unfold Oper.wp execOp
    simp only [ho, resolve, invoke, builtin, Sem.run_bind, Sem.run_pure, Result.andThen_ok, List.map_toArray, List.map_cons, List.map_nil, hd, hs, hr]
    exact hK _ _ h
theorem step_copy_is {P : Program} {ops : Array Oper} {o : Oper} {a : Act} {w : World} {K : Act → World → Prop} {Q : Exit → Act → World → Prop} {E : Prop}
    (hg : o.guard = none) (d x : Operand) (dT sT : TypeId) (hop : o.op = Op.call { callee := Callee.builtin Builtin.copy, args := #[d, x], argTypes := #[dT, sT] })
    (v u : Value) (hd : a.eval d = v) (hx : a.eval x = u) {v' : Value} {w' : World} (hr : (Builtin.copy_ #[dT, sT] o.type #[v, u]).run P w = .ok v' w') (hK : K (a.put o.dst v') w') :
    if Region.wanted o (yielded ops a.tmps) = true then Oper.wp P o a w K Q else E := by
  have hw : Region.wanted o (yielded ops a.tmps) = true := by simp [Region.wanted, hg]
  rw [if_pos hw]
  unfold Oper.wp execOp
  simp only [hop, resolve, invoke, builtin, Sem.run_bind, Sem.run_pure, Result.andThen_ok, List.map_toArray, List.map_cons, List.map_nil, hd, hx, hr]
  exact hK
theorem us_size9 : (Tryz.prog.info? TUs).map (·.size) = some 9 := by
  obtain ⟨i, hi, hz0, hz1, hz2⟩ := info_parts us_info
  rw [hi]; simp [hz1]
theorem us_sizeof (w : World) : (Go.sizeOf TUs).run Tryz.prog w = .ok 9 w := by
  obtain ⟨i, hi, hz0, hz1, hz2⟩ := info_parts us_info
  simp [Go.sizeOf, typeInfo, hi, hz1]
section
variable {w0 w : World} {C : Ass}
set_option maxRecDepth 100000 in
set_option maxHeartbeats 4000000 in
theorem pins_room (hC : C.Good) {g c n k vb : Nat} {us : List Us} {x : Us} (hn : n = us.length) (hk : k < n) (hroom : n + 1 ≤ c)
    (hS : At w0 ((rowE TUs 9 (.slice (some ⟨g, 0, none⟩) n c) us.length (usCells us)).star ((ownA vb (usCells [x]).toArray TUs).star C)) w) :
    Calls Tryz.prog 80 #[.slice (some ⟨g, 0, none⟩) n c, .int .i64 (k : Int), .slice (some ⟨vb, 0, none⟩) 1 1] w fun e w' => e = .returned (.slice (some ⟨g, 0, none⟩) (n + 1) c) ∧ At w0 ((rowE TUs 9 (.slice (some ⟨g, 0, none⟩) (n + 1) c) (n + 1) (usCells (insAt us k x))).star C) w' := by
  rw [← hn] at hS
  obtain ⟨cur, hcs, htk, hnc, hcm, hO⟩ := hS.whole
  have hV : (ownA vb (usCells [x]).toArray TUs).Good := ownA_good _ _ _
  have hR := hV.star hC
  have hO1 := hO.drewn ((ownA_good _ _ _).star hR)
  obtain ⟨cur1, e1⟩ : ∃ l : List Value, l = cur.toList.take ((k + 1) * 9) ++ usCells (us.drop k) ++ cur.toList.drop ((k + 1) * 9 + (usCells (us.drop k)).length) := ⟨_, rfl⟩
  obtain ⟨cur2, e2⟩ : ∃ l : List Value, l = cur1.take (k * 9) ++ usCells [x] ++ cur1.drop (k * 9 + (usCells [x]).length) := ⟨_, rfl⟩
  obtain ⟨l1, l2, h2⟩ := ins_room (x := x) hn hk htk (by rw [Array.length_toList, hcs]; omega) e1 e2
  have hd : (usCells (us.drop k)).length = (n - k) * 9 := by rw [usCells_len, List.length_drop, hn]
  have hx : (usCells [x]).length = 9 := usCells_len [x]
  have hcp1 : ∀ ty dc sc, (Builtin.copy_ #[24, 24] ty #[.slice (some ⟨g, (k + 1) * 9, none⟩) (n - k) dc, .slice (some ⟨g, k * 9, none⟩) (n + 1 - k) sc]).run Tryz.prog w.drew = .ok (goInt ((n - k : Nat) : Int)) (w.drew.setRow g cur1.toArray) := fun ty dc sc => by
    rw [e1]
    refine run_copy_many w.drew _ _ ty TUs g ((k + 1) * 9) (n - k) dc ⟨g, k * 9, none⟩ (n + 1 - k) sc 9 (n - k) cur TUs (usCells (us.drop k)) Tryz.underlying24 us_size9 hO1.heapOwn (Nat.min_eq_right (by omega)) hd (fun j v hj => ?_) (by rw [hd, hcs]; omega) (usCells_one _)
    rw [Addr.add_lit, hO1.own.1, ← hj, ← (usCells_take us (k := k) (by omega)).2, ← htk, List.getElem?_drop, List.getElem?_take]
    have hjl : j < (n - k) * 9 := by
      rcases Nat.lt_or_ge j ((n - k) * 9) with q | q
      · exact q
      · rw [List.getElem?_eq_none (by rw [hd]; exact q)] at hj; cases hj
    rw [if_pos (by omega)]
    simp
  have hO2 := hO1.setOwn hR cur1.toArray
  have hO2' := hO2.imp (Ass.imp.swap _ _ _)
  have hcp2 : ∀ ty dc, (Builtin.copy_ #[24, 24] ty #[.slice (some ⟨g, k * 9, none⟩) (n + 1 - k) dc, .slice (some ⟨vb, 0, none⟩) 1 1]).run Tryz.prog (w.drew.setRow g cur1.toArray) = .ok (goInt 1) ((w.drew.setRow g cur1.toArray).setRow g cur2.toArray) := fun ty dc => by
    rw [e2]
    have := run_copy_many (P := Tryz.prog) (w.drew.setRow g cur1.toArray) 24 24 ty TUs g (k * 9) (n + 1 - k) dc ⟨vb, 0, none⟩ 1 1 9 1 cur1.toArray TUs (usCells [x]) Tryz.underlying24 us_size9 hO2.heapOwn (Nat.min_eq_left (by omega)) hx (fun j v hj => by
      rw [Addr.add_lit, hO2'.own.1, Nat.zero_add, ← hj]; simp) (by simp only [List.size_toArray, l1, Array.length_toList, hcs, hx]; omega) (usCells_one _)
    simpa using this
  have hO3 := (hO2.setOwn hR cur2.toArray).asRow (n := n + 1) (c := c) (K := 9) (by simp only [List.size_toArray, l2, Array.length_toList, hcs]) (by simpa using h2) (by omega) hcm
  have HF := Lib.hid ((hO3.imp (Ass.imp.swap _ _ _)).drop)
  have hsb : w.shape? g = some (TUs, cur.size) := by
    unfold World.shape?
    rw [hO.heapOwn]
  have hsv : w.shape? vb = some (TUs, 9) := by
    unfold World.shape?
    rw [(hO.imp (Ass.imp.swap _ _ _)).heapOwn]
    simp [hx]
  have hne : vb ≠ g := by
    obtain ⟨F, ⟨F1, F2, rfl, ⟨_, rfl⟩, ⟨F3, F4, rfl, ⟨_, rfl⟩, _, _⟩, q⟩, _⟩ := hO
    exact fun c => q g (by simp) (by simp [c])
  have hkB : cur.size ≠ 0 := by rw [hcs]; omega
  have hfv := (hO.imp (Ass.imp.swap _ _ _)).own.2.1
  have hov : ∀ lb cb, (callFunc 94 #[.slice (some ⟨vb, 0, none⟩) 1 1, .slice (some ⟨g, (k + 1) * 9, none⟩) lb cb]).run Tryz.prog w = .ok (.value (.bool false)) w := fun lb cb => by
    rw [run_callFunc_extern Tryz.func94 (by kernel_rfl) (by kernel_rfl) (by kernel_rfl) (e := Extern.SlicesOverlaps.overlaps #[24, 24] #[4]) (by kernel_rfl),
      Lib.run_overlaps_apart w 24 4 TUs Tryz.underlying24 9 us_sizeof ⟨vb, 0, none⟩ ⟨g, (k + 1) * 9, none⟩ 1 1 lb cb hne TUs TUs 9 cur.size hsv hsb hkB (hfv 0) (hfv 9)]
    rfl
  have hz2 : ¬ ((k : Int) = (n : Int)) := by omega
  have hz3 : ¬ ((c : Int) < (n : Int) + 1) := by omega
  have hw1 : IntKind.i64.wrap ((k : Int) + 1) = (k : Int) + 1 := by rw [IntKind.wrap_i64]; unfold maxLen at hcm; omega
  have hw2 : IntKind.i64.wrap ((n : Int) + 1) = (n : Int) + 1 := by rw [IntKind.wrap_i64]; unfold maxLen at hcm; omega
  have hb1 : (0 : Int) ≤ (k : Int) + 1 := by omega
  have hb1n : (0 : Int) ≤ (n : Int) + 1 := by omega
  have htn : ((k : Int) + 1).toNat = k + 1 := by omega
  have htn2 : ((n : Int) + 1).toNat = n + 1 := by omega
  have hb2 : ¬ (c = k + 1) := by omega
  have hb3 : (k : Int) ≤ (n : Int) + 1 := by omega
  have hb3' : (k : Int) + 1 ≤ (n : Int) + 1 := by omega
  have hb4 : ¬ (c = k) := by omega
  have hb5 : (n : Int) + 1 ≤ (c : Int) := by omega
  have hb6 : k ≤ n := by omega
  have hb7 : (k : Int) ≤ (n : Int) := by omega
  have hb8 : n + 1 - (k + 1) = n - k := by omega
  clear hS hO hO1 hO2 hO2' hO3 hR hV e1 e2 l1 l2 h2 hd hx hsb hsv hfv hkB htk hcs hn
  go_enter Tryz.func80, Tryz.ntmps80
  go_wp2_with (simp only [hov])
  go_region_law (refine step_copy_is rfl _ _ 24 24 rfl (.slice (some ⟨g, (k + 1) * 9, none⟩) (n - k) (c - (k + 1))) (.slice (some ⟨g, k * 9, none⟩) (n + 1 - k) (c - k)) (by simp [Act.eval, Act.put]) (by simp [Act.eval, Act.put]) (hcp1 _ _ _) ?_)
  go_wp2_with (at_builtin; refine wp_copy_is _ rfl _ _ 24 24 rfl _ _ rfl rfl (hcp2 _ _) ?_)
  go_ret
  exact ⟨rfl, HF.out⟩
/-- Cells behind two copies, in a new row. -/
theorem ins_grow {ROW : List Value} {us : List Us} {x : Us} {k n G : Nat} (hn : n = us.length) (hk : k < n) (hG : n + 1 ≤ G) {Z : List Value} (h0 : ROW = usCells (us.take k) ++ Z) (hs : ROW.length = G * 9) {cur1 cur2 : List Value}
    (h1 : cur1 = ROW.take (k * 9) ++ usCells [x] ++ ROW.drop (k * 9 + (usCells [x]).length)) (h2 : cur2 = cur1.take ((k + 1) * 9) ++ usCells (us.drop k) ++ cur1.drop ((k + 1) * 9 + (usCells (us.drop k)).length)) :
    cur1.length = ROW.length ∧ cur2.length = ROW.length ∧ cur2.take ((n + 1) * 9) = usCells (insAt us k x) := by
  have hd : (usCells (us.drop k)).length = (n - k) * 9 := by rw [usCells_len, List.length_drop, hn]
  have hx : (usCells [x]).length = 9 := usCells_len [x]
  have hk9 : (usCells (us.take k)).length = k * 9 := by rw [usCells_len, List.length_take]; omega
  have hl1 : cur1.length = ROW.length := by rw [h1]; simp only [List.length_append, List.length_take, List.length_drop, hx]; omega
  have hA : cur1.take ((k + 1) * 9) = usCells (us.take k) ++ usCells [x] := by
    have hT : ROW.take (k * 9) = usCells (us.take k) := by rw [h0, ← hk9, List.take_left]
    have hl : (usCells (us.take k) ++ usCells [x]).length = (k + 1) * 9 := by rw [List.length_append, hk9, hx]; omega
    rw [h1, hT, ← hl, List.take_left]
  refine ⟨hl1, ?_, ?_⟩
  · rw [h2]; simp only [List.length_append, List.length_take, List.length_drop, hd, hl1]; omega
  · have hL : (usCells (us.take k) ++ (usCells [x] ++ usCells (us.drop k))).length = (n + 1) * 9 := by simp only [List.length_append, hk9, hx, hd]; omega
    rw [h2, hA, insAt_cells, show ∀ R : List Value, usCells (us.take k) ++ usCells [x] ++ usCells (us.drop k) ++ R = (usCells (us.take k) ++ (usCells [x] ++ usCells (us.drop k))) ++ R from fun R => by simp only [List.append_assoc], ← hL, List.take_left]
set_option maxRecDepth 100000 in
set_option maxHeartbeats 4000000 in
theorem pins_grow (hC : C.Good) {g c n k vb : Nat} {us : List Us} {x : Us} (hn : n = us.length) (hk : k < n) (hroom : c < n + 1) (hbig : us.length ≤ 1954687338263)
    (hS : At w0 ((rowE TUs 9 (.slice (some ⟨g, 0, none⟩) n c) us.length (usCells us)).star ((ownA vb (usCells [x]).toArray TUs).star C)) w) :
    Calls Tryz.prog 80 #[.slice (some ⟨g, 0, none⟩) n c, .int .i64 (k : Int), .slice (some ⟨vb, 0, none⟩) 1 1] w fun e w' => ∃ a2 c2, e = .returned (.slice a2 (n + 1) c2) ∧ At w0 ((rowE TUs 9 (.slice a2 (n + 1) c2) (n + 1) (usCells (insAt us k x))).star C) w' := by
  rw [← hn] at hS
  obtain ⟨cur, hcs, htk, hnc, hcm, hO⟩ := hS.whole
  obtain ⟨i0, hi0, hz0, hzs, hzb⟩ := info_parts us_info
  have hV : (ownA vb (usCells [x]).toArray TUs).Good := ownA_good _ _ _
  have hR := hV.star hC
  have hR0 := (ownA_good g cur TUs).star hR
  have hO1 := hO.drewn hR0
  have hd : (usCells (us.drop k)).length = (n - k) * 9 := by rw [usCells_len, List.length_drop, hn]
  have hx : (usCells [x]).length = 9 := usCells_len [x]
  have htk2 := usCells_take us (k := k) (by omega)
  have hold : (Builtin.firstCells i0.size k (.slice (some ⟨g, 0, none⟩) k c)).run Tryz.prog w.drew = .ok (usCells (us.take k)).toArray w.drew := by
    rw [hzs]
    refine run_firstCells_some w.drew 9 k ⟨g, 0, none⟩ k c (usCells (us.take k)) (by rw [usCells_len, List.length_take]; omega) (fun j v hj => ?_)
    rw [Addr.add_lit, Nat.zero_add, hO1.own.1]
    rw [← htk2.1, ← htk, List.take_take, List.getElem?_take] at hj
    split at hj
    · rw [← hj]; simp
    · cases hj
  have hkk : (n : Int) + 1 - (k : Int) = ((n + 1 - k : Nat) : Int) := by omega
  have hik : k + (n + 1 - k) = n + 1 := by omega
  have hrz : ∀ ty, (Builtin.append_ #[24, 3] ty #[.slice (some ⟨g, 0, none⟩) k c, .int .i64 ((n : Int) + 1 - (k : Int))]).run Tryz.prog w = .ok (.slice (some ⟨w.heap.size, 0, none⟩) (n + 1) (grownCap w (n + 1) c TUs)) (w.drew.alloc (.cells ((usCells (us.take k)).toArray ++ Builtin.zeroCells #[.int .i64 0, .int .i64 0, .int .i64 0, .int .i64 0, .int .i64 0, .int .i64 0, .int .i64 0, .int .i64 0, .int .i64 0] (n + 1 - k) ++ Builtin.zeroCells #[.int .i64 0, .int .i64 0, .int .i64 0, .int .i64 0, .int .i64 0, .int .i64 0, .int .i64 0, .int .i64 0, .int .i64 0] (grownCap w (n + 1) c TUs - (n + 1))) TUs)) := fun ty => by
    have h := Lib.run_append_grow_zeros w 24 3 ty TUs i0 _ .i64 .i64 Tryz.underlying24 Tryz.underlying3 hi0 hz0 (some ⟨g, 0, none⟩) k c (usCells (us.take k)) hold (n + 1 - k) (by omega) (by omega) (by omega) (by omega) (by rw [hzb]; omega) (by rw [hzb, hik]; exact growslice_fits hroom (by omega))
    rw [hik] at h
    rw [hkk]
    exact h
  obtain ⟨G, hG⟩ : ∃ G, G = grownCap w (n + 1) c TUs := ⟨_, rfl⟩
  have hGn : n + 1 ≤ G := by rw [hG]; exact grownCap_ge w _ _ _
  have hG63 : G ≤ maxLen := by rw [hG]; exact grownCap_le_maxLen w (n + 1) c TUs (by unfold maxLen; omega)
  obtain ⟨ROW, hROW⟩ : ∃ ROW : Array Value, ROW = (usCells (us.take k)).toArray ++ Builtin.zeroCells #[.int .i64 0, .int .i64 0, .int .i64 0, .int .i64 0, .int .i64 0, .int .i64 0, .int .i64 0, .int .i64 0, .int .i64 0] (n + 1 - k) ++ Builtin.zeroCells #[.int .i64 0, .int .i64 0, .int .i64 0, .int .i64 0, .int .i64 0, .int .i64 0, .int .i64 0, .int .i64 0, .int .i64 0] (G - (n + 1)) := ⟨_, rfl⟩
  rw [← hG] at hrz
  rw [← hROW] at hrz
  have hzl : ∀ m, (Builtin.zeroCells #[.int .i64 0, .int .i64 0, .int .i64 0, .int .i64 0, .int .i64 0, .int .i64 0, .int .i64 0, .int .i64 0, .int .i64 0] m).size = m * 9 := fun m => by simp [Builtin.zeroCells]
  have hRs : ROW.size = G * 9 := by
    rw [hROW]
    simp only [Array.size_append, List.size_toArray, hzl]
    rw [usCells_len, List.length_take, Nat.min_eq_left (by omega)]
    omega
  have hRl : ∃ Z, ROW.toList = usCells (us.take k) ++ Z := ⟨(Builtin.zeroCells #[.int .i64 0, .int .i64 0, .int .i64 0, .int .i64 0, .int .i64 0, .int .i64 0, .int .i64 0, .int .i64 0, .int .i64 0] (n + 1 - k)).toList ++ (Builtin.zeroCells #[.int .i64 0, .int .i64 0, .int .i64 0, .int .i64 0, .int .i64 0, .int .i64 0, .int .i64 0, .int .i64 0, .int .i64 0] (G - (n + 1))).toList, by rw [hROW]; simp only [Array.toList_append, List.append_assoc]⟩
  obtain ⟨Z, hRl⟩ := hRl
  obtain ⟨cur1, e1⟩ : ∃ l : List Value, l = ROW.toList.take (k * 9) ++ usCells [x] ++ ROW.toList.drop (k * 9 + (usCells [x]).length) := ⟨_, rfl⟩
  obtain ⟨cur2, e2⟩ : ∃ l : List Value, l = cur1.take ((k + 1) * 9) ++ usCells (us.drop k) ++ cur1.drop ((k + 1) * 9 + (usCells (us.drop k)).length) := ⟨_, rfl⟩
  obtain ⟨l1, l2, h2⟩ := ins_grow (x := x) hn hk hGn hRl (by rw [Array.length_toList, hRs]) e1 e2
  have hN : At w0 ((ownA w.heap.size ROW TUs).star ((ownA g cur TUs).star ((ownA vb (usCells [x]).toArray TUs).star C))) ((w.alloc (.cells ROW TUs)).drew) := At.hold hR0 hO1 ROW TUs
  have hNv := hN.imp ((Ass.imp.swap _ _ _).under _)
  have hNv' := hNv.imp (Ass.imp.swap _ _ _)
  have hcpA : ∀ ty dc, (Builtin.copy_ #[24, 24] ty #[.slice (some ⟨w.heap.size, k * 9, none⟩) (n + 1 - k) dc, .slice (some ⟨vb, 0, none⟩) 1 1]).run Tryz.prog ((w.alloc (.cells ROW TUs)).drew) = .ok (goInt 1) (((w.alloc (.cells ROW TUs)).drew).setRow w.heap.size cur1.toArray) := fun ty dc => by
    rw [e1]
    have := run_copy_many (P := Tryz.prog) ((w.alloc (.cells ROW TUs)).drew) 24 24 ty TUs w.heap.size (k * 9) (n + 1 - k) dc ⟨vb, 0, none⟩ 1 1 9 1 ROW TUs (usCells [x]) Tryz.underlying24 us_size9 hN.heapOwn (Nat.min_eq_left (by omega)) hx (fun j v hj => by
      rw [Addr.add_lit, hNv'.own.1, Nat.zero_add, ← hj]; simp) (by rw [hRs, hx]; omega) (usCells_one _)
    simpa using this
  have hO2 := hN.setOwn hR0 cur1.toArray
  have hO3 := hO2.drewn ((ownA_good _ _ _).star hR0)
  have hO3' := hO3.imp (Ass.imp.swap _ _ _)
  have hcpB : ∀ ty dc sc, (Builtin.copy_ #[24, 24] ty #[.slice (some ⟨w.heap.size, (k + 1) * 9, none⟩) (n - k) dc, .slice (some ⟨g, k * 9, none⟩) (n - k) sc]).run Tryz.prog ((((w.alloc (.cells ROW TUs)).drew).setRow w.heap.size cur1.toArray).drew) = .ok (goInt ((n - k : Nat) : Int)) (((((w.alloc (.cells ROW TUs)).drew).setRow w.heap.size cur1.toArray).drew).setRow w.heap.size cur2.toArray) := fun ty dc sc => by
    rw [e2]
    have := run_copy_many (P := Tryz.prog) ((((w.alloc (.cells ROW TUs)).drew).setRow w.heap.size cur1.toArray).drew) 24 24 ty TUs w.heap.size ((k + 1) * 9) (n - k) dc ⟨g, k * 9, none⟩ (n - k) sc 9 (n - k) cur1.toArray TUs (usCells (us.drop k)) Tryz.underlying24 us_size9 hO3.heapOwn (Nat.min_self _) hd (fun j v hj => by
      rw [Addr.add_lit, hO3'.own.1, ← hj, ← htk2.2, ← htk, List.getElem?_drop, List.getElem?_take]
      have hjl : j < (n - k) * 9 := by
        rcases Nat.lt_or_ge j ((n - k) * 9) with q | q
        · exact q
        · rw [List.getElem?_eq_none (by rw [hd]; exact q)] at hj; cases hj
      rw [if_pos (by omega)]
      simp) (by simp only [List.size_toArray, l1, Array.length_toList, hRs, hd]; omega) (usCells_one _)
    simpa using this
  have hO4 := (hO3.setOwn hR0 cur2.toArray).asRow (n := n + 1) (c := G) (K := 9) (by simp only [List.size_toArray, l2, Array.length_toList, hRs]) (by simpa using h2) hGn hG63
  have HF := Lib.hid ((hO4.imp (Ass.imp.swap _ _ _)).drop.imp (Ass.imp.swap _ _ _)).drop
  have hgw : g < w.heap.size := hO.own.2.2
  have hz2 : ¬ ((k : Int) = (n : Int)) := by omega
  have hz3 : (c : Int) < (n : Int) + 1 := by omega
  have hw1 : IntKind.i64.wrap ((k : Int) + 1) = (k : Int) + 1 := by rw [IntKind.wrap_i64]; omega
  have hw2 : IntKind.i64.wrap ((n : Int) + 1) = (n : Int) + 1 := by rw [IntKind.wrap_i64]; omega
  have hw3 : IntKind.i64.wrap ((n : Int) + 1 - (k : Int)) = (n : Int) + 1 - (k : Int) := by rw [IntKind.wrap_i64]; omega
  have hb1 : (0 : Int) ≤ (k : Int) + 1 := by omega
  have htn : ((k : Int) + 1).toNat = k + 1 := by omega
  have hGi : ¬ (G = k) := by omega
  have hGim : ¬ (G = k + 1) := by omega
  have hci : ¬ (c = k) := by omega
  have hb3 : (k : Int) ≤ (n : Int) := by omega
  have hb3' : (k : Int) + 1 ≤ (n : Int) + 1 := by omega
  have hb3'' : (k : Int) ≤ (n : Int) + 1 := by omega
  have hb5 : k ≤ c := by omega
  have hb8 : n + 1 - (k + 1) = n - k := by omega
  have hb9 : n + 1 ≤ G := hGn
  clear hS hO hO1 hN hNv hNv' hO2 hO3 hO3' hO4 hR hV hR0 e1 e2 l1 l2 h2 hd hx htk htk2 hcs hold hkk hik hG hRl hROW hRs hzl hi0 hz0 hzs hzb hbig hn
  go_enter Tryz.func80, Tryz.ntmps80
  go_wp2_with (first
    | (at_builtin; refine Lib.wpList_append_run _ rfl _ _ _ _ rfl _ _ rfl rfl _ _ (hrz _) ?_)
    | (at_builtin; refine wp_copy_is _ rfl _ _ 24 24 rfl _ _ rfl rfl (hcpA _ _) ?_))
  go_region_law (refine step_copy_is rfl _ _ 24 24 rfl (.slice (some ⟨w.heap.size, (k + 1) * 9, none⟩) (n - k) (G - (k + 1))) (.slice (some ⟨g, k * 9, none⟩) (n - k) (c - k)) (by simp [Act.eval, Act.put]) (by simp [Act.eval, Act.put]) (hcpB _ _ _) ?_)
  go_wp2
  go_ret
  exact ⟨_, _, rfl, HF.out⟩
set_option maxRecDepth 100000 in
set_option maxHeartbeats 4000000 in
theorem pins_end (hC : C.Good) {ao : Option Addr} {c n vb : Nat} {us : List Us} {x : Us} (hn : n = us.length) (hbig : us.length ≤ 1954687338263)
    (hS : At w0 ((rowE TUs 9 (.slice ao n c) us.length (usCells us)).star ((ownA vb (usCells [x]).toArray TUs).star C)) w) :
    Calls Tryz.prog 80 #[.slice ao n c, .int .i64 (n : Int), .slice (some ⟨vb, 0, none⟩) 1 1] w fun e w' => ∃ a2 c2, e = .returned (.slice a2 (n + 1) c2) ∧ At w0 ((rowE TUs 9 (.slice a2 (n + 1) c2) (n + 1) (usCells (insAt us n x))).star C) w' := by
  have hV : (ownA vb (usCells [x]).toArray TUs).Good := ownA_good _ _ _
  have hat : UsAt w vb 0 [x] := fun i u hu => by
    rw [Nat.zero_add, (hS.imp (Ass.imp.swap _ _ _)).own.1, ← hu]; simp
  have HG := Lib.hid (fun ty => us_grow (c := 1) (hV.star hC) hS hat rfl (by simp; omega) ty)
  have HI : Hid ((us ++ [x]).length = n + 1 ∧ insAt us n x = us ++ [x]) := Lib.hid ⟨by simp [hn], by unfold insAt; rw [hn, List.take_length, List.drop_length]⟩
  have hnn : Hid (us.length = n) := Lib.hid hn.symm
  have hIns := Lib.hid (fun (a2 : Option Addr) (c2 : Nat) (w2 : World) (h : At w0 ((rowE TUs 9 (.slice a2 (n + 1) c2) (us ++ [x]).length (usCells (us ++ [x]))).star ((ownA vb (usCells [x]).toArray TUs).star C)) w2) => show At w0 ((rowE TUs 9 (.slice a2 (n + 1) c2) (n + 1) (usCells (insAt us n x))).star C) w2 by
    have q := (h.imp (Ass.imp.swap _ _ _)).drop
    rw [HI.out.1] at q
    rw [HI.out.2]
    exact q)
  clear hS hV hat hn HI hnn hbig
  go_enter Tryz.func80, Tryz.ntmps80
  go_wp2_with (at_builtin; obtain ⟨a2, c2, w2, hrun, hT⟩ := HG.out _; refine us_app rfl _ _ rfl rfl rfl hrun ?_)
  all_goals
    go_ret
    exact ⟨_, _, rfl, hIns.out _ _ _ hT⟩
/-- In all. -/
theorem pinsert (hC : C.Good) {ao : Option Addr} {c n k vb : Nat} {us : List Us} {x : Us} (hn : n = us.length) (hk : k ≤ n) (hbig : us.length ≤ 1954687338263)
    (hS : At w0 ((rowE TUs 9 (.slice ao n c) us.length (usCells us)).star ((ownA vb (usCells [x]).toArray TUs).star C)) w) :
    Calls Tryz.prog 80 #[.slice ao n c, .int .i64 (k : Int), .slice (some ⟨vb, 0, none⟩) 1 1] w fun e w' => ∃ a2 c2, e = .returned (.slice a2 (n + 1) c2) ∧ At w0 ((rowE TUs 9 (.slice a2 (n + 1) c2) (n + 1) (usCells (insAt us k x))).star C) w' := by
  rcases Nat.lt_or_ge k n with h | h
  · obtain ⟨g, rfl, _, _⟩ := us_big hS (by omega)
    rcases Nat.lt_or_ge c (n + 1) with q | q
    · exact pins_grow hC hn h q hbig hS
    · exact (pins_room hC hn h q hS).mono fun _ _ ⟨h1, h2⟩ => ⟨_, _, h1, h2⟩
  · obtain rfl : k = n := by omega
    exact pins_end hC hn hbig hS
end
end Go.Proofs.YtopkcaflmpjhgaaGreat

namespace Go.Proofs.YtopkcaflmpjhgaaGreat
open Go Go.RowKit Go.Maps

/-- Where the new user comes: ahead of the first with a greater number. -/
theorem stAdd_ins (u : Us) (us : List Us) : stAdd u us = insAt us ((ixP (fun x => decide (u.u < x.u)) us 0).getD us.length) u := by
  have key : ∀ (l : List Us) (i : Nat), stAdd u l = l.take (((ixP (fun x => decide (u.u < x.u)) l i).getD (i + l.length)) - i) ++ u :: l.drop (((ixP (fun x => decide (u.u < x.u)) l i).getD (i + l.length)) - i) := by
    intro l
    induction l with
    | nil => intro i; simp [stAdd, ixP]
    | cons a r ih =>
      intro i
      unfold stAdd
      simp only [ixP]
      by_cases c : u.u < a.u
      · simp [c]
      · simp only [c, if_false, decide_false, Bool.false_eq_true]
        have h1 := ih (i + 1)
        have hp : ∀ j, ixP (fun x => decide (u.u < x.u)) r (i + 1) = some j → i + 1 ≤ j := fun j hj => (ixP_pos hj).1
        cases hx : ixP (fun x => decide (u.u < x.u)) r (i + 1) with
        | none =>
          rw [hx] at h1
          simp only [Option.getD_none, Nat.add_sub_cancel_left, List.length_cons] at h1 ⊢
          rw [h1]
          simp
        | some j =>
          have hj := hp j hx
          rw [hx] at h1
          simp only [Option.getD_some] at h1 ⊢
          rw [h1, show j - i = (j - (i + 1)) + 1 by omega]
          simp
  have := key us 0
  simpa [insAt] using this
section
variable {w0 W : World} {C : Ass} {p : Nat} {c : Cf} {h : Sv} {s : St} {m : Option Nat} {kind user session address ea eb ec tick : Int}
theorem ixP_len {α : Type} {P : α → Bool} {l : List α} {k : Nat} (h : ixP P l 0 = some k) : k < l.length := by have := (ixP_pos h).2; omega
set_option maxRecDepth 100000 in
set_option maxHeartbeats 8000000 in
theorem tenroll (hC : C.Good) (q : At w0 (TD p c h s m C) W) (hfu : s.us.length ≤ 1954687338263) {o : Option St}
    (ho : o = if (usAt s.us user).isSome then none else some { s with us := stAdd ⟨user, ea, eb, ec, 0, 0, 0, 0, 0⟩ s.us }) :
    Calls Tryz.prog 57 #[.pointer (some ⟨p, 0, none⟩), .agg (evA ⟨kind, user, session, address, ea, eb, ec, tick⟩)] W (TdO w0 p c C o) := by
  obtain ⟨hu, huc, hs, hsc, hp, hpc, hi, hic⟩ := h
  have q1 := At.lay1 (TD_good hC) q (.cells (evA ⟨kind, user, session, address, ea, eb, ec, tick⟩) TEv)
  have kp := TD.blk q1
  have ke := Blk.new W (evA ⟨kind, user, session, address, ea, eb, ec, tick⟩) TEv
  have HU := Lib.hid (tuserat kp (TD.us q1 hfu) user)
  have HQ := Lib.hid q1
  have HK := Lib.hid ke
  have e0 := ke.cell
  cases hx : usAt s.us user with
  | some j =>
    rw [hx] at HU ho
    simp only [Option.isSome_some, if_true] at ho
    subst ho
    clear q q1 kp ke
    go_enter Tryz.func57, Tryz.ntmps57
    go_wp2_with (go_at_call 77; (with_reducible refine HU.out.mono ?_); rintro e w1 ⟨rfl, hb⟩; have HB := Lib.hid hb; clear hb)
    go_ret
    exact ⟨rfl, TD.none (HQ.out.lay (TD_good hC) HB.out)⟩
  | none =>
    rw [hx] at HU ho
    simp only [Option.isSome_none, Bool.false_eq_true, if_false] at ho
    rw [stAdd_ins] at ho
    have HW := Lib.hid (fun (W2 : World) (hb : Below (W.alloc (.cells (evA ⟨kind, user, session, address, ea, eb, ec, tick⟩) TEv)).heap.size (W.alloc (.cells (evA ⟨kind, user, session, address, ea, eb, ec, tick⟩) TEv)) W2) => show At w0 (TD p c ⟨hu, huc, hs, hsc, hp, hpc, hi, hic⟩ s m C) W2 ∧ Blk W2 W.heap.size (evA ⟨kind, user, session, address, ea, eb, ec, tick⟩) from ⟨HQ.out.lay (TD_good hC) hb, HK.out.step hb⟩)
    have HI := Lib.hid (fun (W2 : World) (q2 : At w0 (TD p c ⟨hu, huc, hs, hsc, hp, hpc, hi, hic⟩ s m C) W2) (k2 : Blk W2 W.heap.size (evA ⟨kind, user, session, address, ea, eb, ec, tick⟩)) => tdixG (fun x => decide (user < x.u)) W.heap.size (cap := huc) (TD.us q2 hfu) (fun W3 a hW => tdgtU W.heap.size user a W3 ((k2.step hW).cell 1)))
    clear q q1 kp ke
    obtain ⟨k, hk⟩ : ∃ k, (ixP (fun x => decide (user < x.u)) s.us 0).getD s.us.length = k := ⟨_, rfl⟩
    have hkl : k ≤ s.us.length := by
      rw [← hk]
      cases hz : ixP (fun x => decide (user < x.u)) s.us 0 with
      | none => exact Nat.le_refl _
      | some j => exact Nat.le_of_lt (ixP_len hz)
    dsimp only at ho
    rw [hk] at ho
    have HV := Lib.hid (fun (W2 : World) (vb : Nat) (hv : W2.heap.size = vb) (q2 : At w0 (TD p c ⟨hu, huc, hs, hsc, hp, hpc, hi, hic⟩ s m C) W2) => pinsert (c := huc) (k := k) (x := ⟨user, ea, eb, ec, 0, 0, 0, 0, 0⟩) (vb := vb) ((ownA_good p (tdC c ⟨hu, huc, hs, hsc, hp, hpc, hi, hic⟩ s m) TTd).star ((spA_good m s.sp).star ((rowE_good TSe 4 (.slice hs s.ss.length hsc) s.ss.length (seCells s.ss)).star ((rowE_good TPa 3 (.slice hp s.ad.length hpc) s.ad.length (paCells s.ad)).star ((rowE_good TIn 1 (.slice hi s.sp.length hic) s.sp.length (inCells s.sp)).star hC))))) rfl hkl hfu (show At w0 _ (W2.alloc (.cells #[.int .i64 user, .int .i64 ea, .int .i64 eb, .int .i64 ec, .int .i64 0, .int .i64 0, .int .i64 0, .int .i64 0, .int .i64 0] TUs)) from by
      subst hv
      exact ((At.hold (TD_good hC) q2 (usCells [⟨user, ea, eb, ec, 0, 0, 0, 0, 0⟩]).toArray TUs).imp (TD.outU.under _)).imp (Ass.imp.swap _ _ _)))
    have hlen := insAt_len hkl (⟨user, ea, eb, ec, 0, 0, 0, 0, 0⟩ : Us)
    have HX := Lib.hid (fun (W4 : World) (a2 : Option Addr) (c2 : Nat) => TD.newU (h := ⟨hu, huc, hs, hsc, hp, hpc, hi, hic⟩) (s := s) (m := m) (c := c) (p := p) (w0 := w0) (W := W4) (a := a2) (cp := c2) hC hlen)
    have hkI : (k : Int) = ixN (ixP (fun x => decide (user < x.u)) s.us 0) ∨ (ixP (fun x => decide (user < x.u)) s.us 0 = none ∧ k = s.us.length) := by
      rw [← hk]
      cases hz : ixP (fun x => decide (user < x.u)) s.us 0 with
      | none => exact .inr ⟨rfl, rfl⟩
      | some j => exact .inl rfl
    clear hk hlen hkl
    subst ho
    rcases hkI with hz | ⟨hz, rfl⟩
    · rw [← hz] at HI
      clear hz
      go_enter Tryz.func57, Tryz.ntmps57
      go_wp2_with (first
        | (go_at_call 77; (with_reducible refine HU.out.mono ?_); rintro e w1 ⟨rfl, hb⟩; obtain ⟨q2, k2⟩ := HW.out _ hb; have e2 := (TD.blk q2).cell; have HQ2 := Lib.hid q2; have HK2 := Lib.hid k2; clear hb q2 k2)
        | (go_at_call 78; (with_reducible refine (HI.out _ HQ2.out HK2.out).mono ?_); rintro e w2 ⟨rfl, hb⟩; have HQ3 := Lib.hid (HQ2.out.lay (TD_good hC) hb); have k3 := (HK2.out.step hb).cell; clear hb)
        | (go_at_call 80; (with_reducible refine (HV.out _ _ rfl HQ3.out).mono ?_); rintro e w4 ⟨a2, c2, rfl, q4⟩; have o4 := q4.drop.own; have e4 := o4.1; have f4 := o4.2.1; have l4 := o4.2.2; have HX4 := Lib.hid (HX.out _ _ _ q4); clear q4 o4))
      go_ret
      exact ⟨rfl, _, _, HX4.out⟩
    · rw [hz] at HI
      clear hz
      have HI := Lib.hid (show ∀ (W2 : World), At w0 (TD p c ⟨hu, huc, hs, hsc, hp, hpc, hi, hic⟩ s m C) W2 → Blk W2 W.heap.size (evA ⟨kind, user, session, address, ea, eb, ec, tick⟩) → Calls Tryz.prog 78 #[.slice hu s.us.length huc, .func (.func 79) #[] #[.pointer (some ⟨W.heap.size, 0, none⟩)]] W2 fun e w' => e = .returned (.int .i64 (-1)) ∧ Below W2.heap.size W2 w' from HI.out)
      go_enter Tryz.func57, Tryz.ntmps57
      go_wp2_with (first
        | (go_at_call 77; (with_reducible refine HU.out.mono ?_); rintro e w1 ⟨rfl, hb⟩; obtain ⟨q2, k2⟩ := HW.out _ hb; have e2 := (TD.blk q2).cell; have HQ2 := Lib.hid q2; have HK2 := Lib.hid k2; clear hb q2 k2)
        | (go_at_call 78; (with_reducible refine (HI.out _ HQ2.out HK2.out).mono ?_); rintro e w2 ⟨rfl, hb⟩; have HQ3 := Lib.hid (HQ2.out.lay (TD_good hC) hb); have k3 := (HK2.out.step hb).cell; clear hb)
        | (go_at_call 80; (with_reducible refine (HV.out _ _ rfl HQ3.out).mono ?_); rintro e w4 ⟨a2, c2, rfl, q4⟩; have o4 := q4.drop.own; have e4 := o4.1; have f4 := o4.2.1; have l4 := o4.2.2; have HX4 := Lib.hid (HX.out _ _ _ q4); clear q4 o4))
      go_ret
      exact ⟨rfl, _, _, HX4.out⟩
end
end Go.Proofs.YtopkcaflmpjhgaaGreat

