
/- The reference's Book in memory, and what its calls answer. No condition but that the book is one. -/
import Derived.Test.YtcfibjfhmfdmkaaBname
namespace Go.Proofs.Ytcfibjfhmfdmkaa
open Go Go.RowKit Go.Maps

structure RefIn (w : World) (p : Nat) (most : Int) (ts : List ByteArray) (v : Value) : Prop where
  c0 : w.cell? ⟨p, 0, none⟩ = some (.int .i64 most)
  c1 : w.cell? ⟨p, 1, none⟩ = some v
  f1 : w.frozen? ⟨p, 1, none⟩ = false
  row : rowS w v ts
  lm : (ts.length : Int) ≤ most
  m1 : 1 ≤ most
  m2 : most ≤ 65536
  pv : v.ownBlock ≠ some p
/-- At p there is a book of the reference's. -/
def refA (p : Nat) (most : Int) (ts : List ByteArray) : Ass := fun w F => ∃ v, RefIn w p most ts v ∧ F = p :: v.ownBlock.toList

theorem rowS_on {w w' : World} {v : Value} {ts : List ByteArray} (h : rowS w v ts) (hw' : ∀ k ∈ v.ownBlock.toList, w'.heap[k]? = w.heap[k]?) : rowS w' v ts := by
  refine ⟨h.1, ?_⟩
  rcases h.2 with hn | ⟨g, cap, cur, rfl, hb, hgg, rest⟩
  · exact .inl hn
  · exact .inr ⟨g, cap, cur, rfl, hb, (hw' g (by simp [Value.ownBlock])).trans hgg, rest⟩
theorem RefIn.lt {w : World} {p : Nat} {most : Int} {ts : List ByteArray} {v : Value} (h : RefIn w p most ts v) : ∀ k ∈ p :: v.ownBlock.toList, k < w.heap.size := by
  intro k hk
  simp at hk
  rcases hk with rfl | hk
  · exact World.block_lt_of_cell? w ⟨k, 0, none⟩ h.c0
  · exact (h.row.lt k hk).2
theorem RefIn.on {w w' : World} {p : Nat} {most : Int} {ts : List ByteArray} {v : Value} (h : RefIn w p most ts v) (hw' : ∀ k ∈ p :: v.ownBlock.toList, w'.heap[k]? = w.heap[k]?) : RefIn w' p most ts v := by
  have hp : w'.heap[p]? = w.heap[p]? := hw' p (by simp)
  refine { h with c0 := ?_, c1 := ?_, f1 := ?_, row := rowS_on h.row fun k hk => hw' k (List.mem_cons_of_mem _ hk) }
  · rw [World.cell?_of_block (w := w) hp]; exact h.c0
  · rw [World.cell?_of_block (w := w) hp]; exact h.c1
  · rw [World.frozen?_of_block (w := w) hp]; exact h.f1
theorem RefIn.below {w w' : World} {p : Nat} {most : Int} {ts : List ByteArray} {v : Value} (h : RefIn w p most ts v) (hb : Below w.heap.size w w') : RefIn w' p most ts v :=
  h.on fun k hk => hb.block k (h.lt k hk)
theorem refA_good (p : Nat) (most : Int) (ts : List ByteArray) : (refA p most ts).Good := by
  rintro w F ⟨v, h, rfl⟩
  exact ⟨h.lt, fun w' hw' => ⟨v, h.on hw', rfl⟩⟩
theorem refA_same {p : Nat} {most : Int} {ts : List ByteArray} {w w' : World} {F : List Nat} (h : refA p most ts w F) (hb : Below w.heap.size w w') : Becomes F (refA p most ts) w w' :=
  ⟨F, (refA_good p most ts).below h hb, Tn.ofBelow hb F, fun _ hk => .inl hk⟩

def RnewP (most : Int) (w : World) (e : Ending) (w' : World) : Prop := ∃ p : Nat, e = .returned (.tuple #[.pointer (some ⟨p, 0, none⟩), .int .i64 0]) ∧ Becomes [] (refA p most []) w w'

theorem rnew_ok (most : Int) (w : World) (h1 : 1 ≤ most) (h2 : most ≤ 65536) : Calls Try.prog 14 #[.int .i64 most] w (RnewP most w) := by
  go_enter Try.func14, Try.ntmps14
  go_wp2
  go_ret2
  refine ⟨w.heap.size, rfl, [w.heap.size], ⟨.slice none 0 0, ?_, rfl⟩, (Tn.refl _ _).alloc _, fun k hk => .inr ?_⟩
  · exact { c0 := by simp, c1 := by simp, f1 := by simp, row := World.ownsRow_nil _ _ _ _, lm := by simp; omega, m1 := h1, m2 := h2, pv := by simp [Value.ownBlock] }
  · simp at hk; omega
theorem rnew_bad (most : Int) (w : World) (h : most < 1 ∨ 65536 < most) : Calls Try.prog 14 #[.int .i64 most] w fun e w' => e = .returned (.tuple #[.pointer none, .int .i64 200]) ∧ w = w' := by
  rcases h with h | h
  · go_enter Try.func14, Try.ntmps14
    go_wp2
    go_ret2
    exact ⟨rfl, rfl⟩
  · have h' : ¬ most < 1 := by omega
    go_enter Try.func14, Try.ntmps14
    go_wp2
    go_ret2
    exact ⟨rfl, rfl⟩

theorem fnd_in {ts : List ByteArray} {t : ByteArray} {k : Nat} (hk : k < ts.length) (h0 : ∀ j, j < k → ts.getD j ⟨#[]⟩ ≠ t) (h1 : ts.getD k ⟨#[]⟩ = t) : fnd ts t = ((k : Nat) : Int) ∧ isB ts t = true := by
  have hm : t ∈ ts := by rw [← h1, List.getD, List.getElem?_eq_getElem hk]; exact List.getElem_mem hk
  refine ⟨?_, (isB_iff _ _).2 hm⟩
  rw [fnd, if_pos ((isB_iff _ _).2 hm)]
  have h2 := idx_get hm
  have h3 := idx_lt hm
  have h4 : ts.getD (idx ts t) ⟨#[]⟩ = t := by simp [List.getD, h2]
  have h5 : ¬ idx ts t < k := fun c => h0 _ c h4
  have h6 : ∀ (l : List ByteArray) (j : Nat), j < l.length → l.getD j ⟨#[]⟩ = t → idx l t ≤ j := by
    intro l
    induction l with
    | nil => intro j hj; cases hj
    | cons a l ih =>
      intro j hj he
      by_cases ha : a = t
      · simp [idx, ha]
      · cases j with
        | zero => simp at he; exact absurd he ha
        | succ j =>
          have := ih j (by simpa using hj) (by simpa using he)
          simp [idx, ha]; omega
  have := h6 ts k hk h1
  omega
theorem fnd_out {ts : List ByteArray} {t : ByteArray} (h0 : ∀ j, j < ts.length → ts.getD j ⟨#[]⟩ ≠ t) : fnd ts t = 0 ∧ isB ts t = false := by
  have hm : t ∉ ts := by
    intro c
    obtain ⟨j, hj, e⟩ := List.getElem_of_mem c
    exact h0 j hj (by simp [List.getD, hj, e])
  have := (isB_not _ _).2 hm
  exact ⟨by rw [fnd, this]; rfl, this⟩

theorem str_eq {s t : ByteArray} (h : (s.toList == t.toList) = true) : s = t := by
  have h1 : s.toList = t.toList := by simpa using h
  obtain ⟨⟨a⟩⟩ := s
  obtain ⟨⟨b⟩⟩ := t
  rw [ByteArray.toList_mk, ByteArray.toList_mk] at h1
  exact congrArg (fun l => (⟨⟨l⟩⟩ : ByteArray)) h1
theorem str_ne {s t : ByteArray} (h : (s.toList == t.toList) = false) : s ≠ t := by
  rintro rfl
  simp at h

set_option maxHeartbeats 1000000 in
set_option maxRecDepth 100000 in
theorem rfind (p : Nat) (most : Int) (ts : List ByteArray) (t : ByteArray) (w : World) (F : List Nat) (h : refA p most ts w F) :
    Calls Try.prog 26 #[.pointer (some ⟨p, 0, none⟩), .string t] w fun e w' => e = .returned (.tuple #[.int .i64 (fnd ts t), .bool (isB ts t)]) ∧ w = w' := by
  obtain ⟨v, hb, rfl⟩ := h
  have hl := hb.lm
  have h2 := hb.m2
  have c1 := hb.c1
  have hcell : ∀ k, k < ts.length → ∃ g cap, v = .slice (some ⟨g, 0, none⟩) ts.length cap ∧ w.cell? ⟨g, k, none⟩ = some (.string (ts.getD k ⟨#[]⟩)) := fun k hk => rowS_some hb.row hk
  obtain ⟨ao, cap, rfl⟩ := rowS_shape hb.row
  have Hcell := Lib.hid hcell
  clear hb hcell
  go_enter Try.func26, Try.ntmps26
  go_wp2
  go_loop [6] (fun i => ∃ k : Nat, k ≤ ts.length ∧ i = .int .i64 k ∧ ∀ j, j < k → ts.getD j ⟨#[]⟩ ≠ t) (fun i => ts.length - (intOf i).toNat)
  case atStart => exact ⟨0, Nat.zero_le _, rfl, fun j hj => by cases hj⟩
  case round =>
    obtain ⟨k, hk, rfl, hno⟩ := hrel
    have Hno := Lib.hid hno
    clear hno
    by_cases hlt : k < ts.length
    · obtain ⟨g, cap', hv, hc⟩ := Hcell.out k hlt
      obtain ⟨rfl, rfl⟩ : ao = some ⟨g, 0, none⟩ ∧ cap = cap' := by simpa using hv
      clear hv
      obtain ⟨s, hs⟩ : ∃ s, ts.getD k ⟨#[]⟩ = s := ⟨_, rfl⟩
      rw [hs] at hc
      have Hs := Lib.hid hs
      clear hs
      go_wp2
      · have hm := str_eq (by assumption : (s.toList == t.toList) = true)
        go_ret2
        obtain ⟨f1, f2⟩ := fnd_in hlt Hno.out (Hs.out.trans hm)
        rw [f1, f2]
        exact ⟨rfl, rfl⟩
      · have hm := str_ne (by assumption : (s.toList == t.toList) = false)
        go_round
        case rel => exact ⟨k + 1, by omega, by go_num, fun j hj => by
          by_cases e : j = k
          · subst e; rw [Hs.out]; exact hm
          · exact Hno.out j (by omega)⟩
        case measure => simp [intOf]; omega
    · have Hk := Lib.hid (Nat.le_antisymm hk (by omega))
      go_wp2
      go_ret2
      obtain ⟨f1, f2⟩ := fnd_out (t := t) (ts := ts) (fun j hj => Hno.out j (by rw [Hk.out]; exact hj))
      rw [f1, f2]
      exact ⟨rfl, rfl⟩

theorem ret_pair {a b : Int} {v : Value} (h : a = b) : Ending.returned (.tuple #[.int .i64 a, v]) = .returned (.tuple #[.int .i64 b, v]) := by rw [h]
theorem grown_drewN {w w1 w2 : World} {n : Nat} {o : Obj} {row : Option Nat} (e : w1 = (w.drewN n).alloc o) (h : w1.grownBy w2 row) : w.grownBy w2 row := by
  subst e
  have g := (World.grownBy_alloc (w.drewN n) o row).trans h
  exact ⟨g.os, g.tape, g.output, g.size, g.block⟩
theorem RefIn.grew {w w2 : World} {p : Nat} {most : Int} {ts : List ByteArray} {v : Value} (h : RefIn w p most ts v) (hg : w.grownBy w2 v.ownBlock) :
    w2.cell? ⟨p, 0, none⟩ = some (.int .i64 most) ∧ w2.cell? ⟨p, 1, none⟩ = some v ∧ w2.frozen? ⟨p, 1, none⟩ = false := by
  have hp : w2.heap[p]? = w.heap[p]? := hg.block p (World.block_lt_of_cell? w ⟨p, 0, none⟩ h.c0) (fun e => h.pv e.symm)
  refine ⟨?_, ?_, ?_⟩
  · rw [World.cell?_of_block (w := w) hp]; exact h.c0
  · rw [World.cell?_of_block (w := w) hp]; exact h.c1
  · rw [World.frozen?_of_block (w := w) hp]; exact h.f1
theorem RefIn.added {w w2 : World} {p : Nat} {most : Int} {ts : List ByteArray} {ao ao2 : Option Addr} {cap cap2 : Nat} {t : ByteArray} {F : List Nat} (h : RefIn w p most ts (.slice ao ts.length cap)) (hF : F = p :: (Value.slice ao ts.length cap).ownBlock.toList) (hg : w.grownBy w2 (Value.slice ao ts.length cap).ownBlock)
    (hr : rowS w2 (.slice ao2 (ts.length + 1) cap2) (ts ++ [t])) (hl : (ts.length : Int) < most) (hloc : (Value.slice ao2 (ts.length + 1) cap2).ownBlock = (Value.slice ao ts.length cap).ownBlock ∨ ∃ k, w.heap.size ≤ k ∧ (Value.slice ao2 (ts.length + 1) cap2).ownBlock = some k) :
    Becomes F (refA p most (ts ++ [t])) w (w2.setCell ⟨p, 1, none⟩ (.slice ao2 (ts.length + 1) cap2)) := by
  obtain ⟨d0, d1, df⟩ := h.grew hg
  have hpl := h.lt p (by simp)
  have hn1 : (Value.slice ao2 (ts.length + 1) cap2).ownBlock ≠ some p := by
    rcases hloc with e | ⟨k, hk, e⟩
    · rw [e]; exact h.pv
    · rw [e]; simp; omega
  subst hF
  refine ⟨_, ⟨_, { c0 := ?_, c1 := ?_, f1 := ?_, row := ?_, lm := by simp; omega, m1 := h.m1, m2 := h.m2, pv := hn1 }, rfl⟩, ?_, ?_⟩
  · rw [World.cell?_setCell_other _ _ _ _ (by simp)]; exact d0
  · exact World.cell?_setCell_same' _ _ _ (by rw [d1]; rfl)
  · rw [World.frozen?_setCell]; exact df
  · exact ownsRow_setCell_other hr hn1 _
  · refine ((Tn.refl _ _).grown hg (fun k hk => ?_)).setCell (.inl (by simp)) _
    exact .inl (List.mem_cons_of_mem _ (Option.mem_toList.2 hk))
  · intro k hk
    simp at hk
    rcases hk with rfl | hk
    · left; simp
    · rcases hloc with e | ⟨j, hj, e⟩
      · rw [e] at hk; exact .inl (List.mem_cons_of_mem _ (Option.mem_toList.2 hk))
      · rw [e] at hk; simp at hk; right; omega

set_option maxHeartbeats 2000000 in
set_option maxRecDepth 100000 in
theorem rname (p : Nat) (most : Int) (ts : List ByteArray) (t : ByteArray) (w : World) (F : List Nat) (h : refA p most ts w F) (ht : t.size ≤ maxLen) :
    Calls Try.prog 16 #[.pointer (some ⟨p, 0, none⟩), .string t] w fun e w' => e = .returned (.tuple #[.int .i64 (nmX most ts t), .int .i64 (nmE most ts t)]) ∧ Becomes F (refA p most (nmT most ts t)) w w' := by
  unfold maxLen at ht
  by_cases hk : okT t = true
  · obtain ⟨hts1, hts2⟩ := (okT_iff _).1 hk
    have hsame := fun (w' : World) => refA_same (w' := w') h
    have hf := rfind p most ts t w F h
    obtain ⟨v, hb, hF⟩ := h
    have c0 := hb.c0
    have c1 := hb.c1
    have f1 := hb.f1
    obtain ⟨ao, cap, hv⟩ := rowS_shape hb.row
    subst hv
    have hml := hb.m2
    have hll := hb.lm
    have HF := Lib.hid hF
    by_cases his : isB ts t = true
    · rw [show nmX most ts t = fnd ts t by unfold nmX fnd; rw [if_pos hk, if_pos his, if_pos his], show nmE most ts t = 0 by unfold nmE; rw [if_pos hk, if_pos his], show nmT most ts t = ts by unfold nmT; rw [if_pos hk, if_pos his]]
      rw [his] at hf
      have Hf := Lib.hid hf
      have Hs := Lib.hid hsame
      clear hF hk his hb hf hsame
      go_enter Try.func16, Try.ntmps16
      go_wp2_with (go_at_call 26; (with_reducible refine Hf.out.mono ?_); rintro e w1 ⟨rfl, rfl⟩)
      go_ret2
      exact ⟨rfl, Hs.out _ (Below.refl _ _)⟩
    · have his' : isB ts t = false := by simpa using his
      have hn := (isB_not _ _).1 his'
      rw [his'] at hf
      have Hf := Lib.hid hf
      by_cases hl : (ts.length : Int) < most
      · rw [show nmX most ts t = ((ts.length : Nat) : Int) by unfold nmX; rw [if_pos hk, if_neg his, if_pos hl], show nmE most ts t = 0 by unfold nmE; rw [if_pos hk, if_neg his, if_pos hl], show nmT most ts t = ts ++ [t] by unfold nmT; rw [if_pos hk, if_neg his, if_pos hl]]
        have hl' : ¬ (ts.length : Int) ≥ most := by omega
        obtain ⟨i, hi, hz0, hz1, hz2⟩ := info_parts infoS
        have hrow := hb.row
        have Hb := Lib.hid hb
        have hplt := hb.lt p (by simp)
        have hpv := hb.pv
        have hm1 := hb.m1
        clear hF hk his his' hb hf hsame
        go_enter Try.func16, Try.ntmps16
        go_wp2_with (go_at_call 26; (with_reducible refine Hf.out.mono ?_); rintro e w1 ⟨rfl, rfl⟩)
        go_quiet (fail)
        go_wp2_with (first
          | (at_builtin; refine wpList_append_own_at _ rfl _ _ 38 rfl 0 9 i (.string ⟨#[]⟩) 1 16 Try.underlying38 hi hz0 hz1 hz2 rfl (by decide) _ ts.length _ rfl ((show rowS _ _ _ from rowS_on hrow (fun _ _ => rfl)).alloc _) ⟨w.heap.size, 0, none⟩ 1 1 [.string t] rfl rfl (cell_one_new _ _ _) (by intro u hu; simp at hu; subst hu; rfl) (by unfold maxLen; omega) (by omega) (Nat.zero_le _) ?_; intro v' w2 hrow2 hgrow2 _ hloc; have hgg := grown_drewN rfl hgrow2; obtain ⟨d0, d1, df⟩ := Hb.out.grew hgg; have hr2 : rowS w2 v' (ts ++ [t]) := (by unfold rowS; rw [List.length_append, List.map_append]; exact hrow2); obtain ⟨ao2, cap2, hv2⟩ := rowS_shape hr2; rw [hv2]))
        have hv3 : v' = .slice ao2 (ts.length + 1) cap2 := by simpa using hv2
        rw [hv3] at hr2 hloc
        have hloc' : (Value.slice ao2 (ts.length + 1) cap2).ownBlock = (Value.slice ao ts.length cap).ownBlock ∨ ∃ k, w.heap.size ≤ k ∧ (Value.slice ao2 (ts.length + 1) cap2).ownBlock = some k := by
          rcases hloc with e | e
          · exact .inl e
          · exact .inr ⟨_, by simp, e⟩
        have hb4 := Hb.out.added HF.out hgg hr2 hl hloc'
        clear hloc hloc' hr2 hgg hgrow2 hrow2
        go_wp2
        go_ret2
        exact ⟨ret_pair (by simp), hb4⟩
      · rw [show nmX most ts t = 0 by unfold nmX; rw [if_pos hk, if_neg his, if_neg hl], show nmE most ts t = 201 by unfold nmE; rw [if_pos hk, if_neg his, if_neg hl], show nmT most ts t = ts by unfold nmT; rw [if_pos hk, if_neg his, if_neg hl]]
        have hl' : (ts.length : Int) ≥ most := by omega
        have Hs := Lib.hid hsame
        clear hF hk his his' hb hf hsame hl
        go_enter Try.func16, Try.ntmps16
        go_wp2_with (go_at_call 26; (with_reducible refine Hf.out.mono ?_); rintro e w1 ⟨rfl, rfl⟩)
        go_quiet (fail)
        go_wp2
        go_ret2
        exact ⟨rfl, Hs.out _ (below_drewN _ _)⟩
  · have hsame := refA_same h (Below.refl _ _)
    rw [show nmX most ts t = 0 by unfold nmX; rw [if_neg hk], show nmE most ts t = 200 by unfold nmE; rw [if_neg hk], show nmT most ts t = ts by unfold nmT; rw [if_neg hk]]
    have hts : t.size < 1 ∨ 512 < t.size := by
      have h1 : ¬ (1 ≤ t.size ∧ t.size ≤ 512) := fun c => hk ((okT_iff _).2 c)
      omega
    clear hk h
    rcases hts with h0 | h0
    · go_enter Try.func16, Try.ntmps16
      go_wp2
      go_ret2
      exact ⟨rfl, hsame⟩
    · have h1 : ¬ t.size < 1 := by omega
      go_enter Try.func16, Try.ntmps16
      go_wp2
      go_ret2
      exact ⟨rfl, hsame⟩
end Go.Proofs.Ytcfibjfhmfdmkaa
