/- What the program's Book answers to Term and Name, and how it turns. No condition but that the book is one. -/
import Derived.Test.YtcfibjfhmfdmkaaBbook
import Derived.Maps.AppendAt
import Derived.Deep.QuietTactic
import Derived.BigQuiet
namespace Go.Proofs.Ytcfibjfhmfdmkaa
open Go Go.RowKit Go.Maps Go.ChangeMaps Go.WideMaps

theorem fclone (s : ByteArray) (w : World) (h : s.size ≤ 281474976710656) :
    Calls Try.prog 31 #[.string s] w fun e w' => e = .returned (.string s) ∧ Below w.heap.size w w' := by
  go_enter Try.func31, Try.ntmps31
  go_wp2_with (go_at_call 35; refine (Try.stringslite_Clone s _ h).mono ?_; rintro e w' ⟨rfl, hb⟩)
  go_ret
  exact ⟨rfl, hb⟩

theorem bterm (p : Nat) (most : Int) (ts : List ByteArray) (n : Int) (w : World) (F : List Nat) (h : bookA p most ts w F) :
    Calls Try.prog 24 #[.pointer (some ⟨p, 0, none⟩), .int .i64 n] w fun e w' => e = .returned (.tuple #[.string (tmS ts n), .int .i64 (tmE ts n)]) ∧ Below w.heap.size w w' := by
  obtain ⟨v, bm, D, hb, rfl⟩ := h
  have hl := hb.lm
  have h2 := hb.m2
  by_cases hn : 0 ≤ n ∧ n < ts.length
  · rw [tmS, tmE, if_pos hn, if_pos hn]
    obtain ⟨k, rfl⟩ := Int.eq_ofNat_of_zero_le hn.1
    have hk : k < ts.length := by have := hn.2; omega
    obtain ⟨g, cap, rfl, hc⟩ := rowS_some hb.row hk
    have c1 := hb.c1
    have hok := (okT_iff _).1 (hb.ok (ts.getD k ⟨#[]⟩) (by rw [List.getD, List.getElem?_eq_getElem hk]; exact List.getElem_mem hk))
    have e : ((k : Nat) : Int).toNat = k := rfl
    rw [e]
    generalize ts.getD k ⟨#[]⟩ = s at *
    clear hb hn e
    go_enter Try.func24, Try.ntmps24
    go_wp2_with (go_at_call 31; (with_reducible refine (fclone _ _ (by omega)).mono ?_); rintro e w1 ⟨rfl, hb1⟩)
    go_ret2
    exact ⟨rfl, hb1⟩
  · rw [tmS, tmE, if_neg hn, if_neg hn]
    obtain ⟨ao, cap, rfl⟩ := rowS_shape hb.row
    have c1 := hb.c1
    clear hb
    by_cases h0 : n < 0
    · clear hn
      go_enter Try.func24, Try.ntmps24
      go_wp2
      go_ret2
      exact ⟨rfl, Below.refl _ _⟩
    · have h3 : (ts.length : Int) ≤ n := by omega
      clear hn
      go_enter Try.func24, Try.ntmps24
      go_wp2
      go_ret2
      exact ⟨rfl, Below.refl _ _⟩

/-- The row has grown: the struct's other cells and the map are as they were. -/
theorem BookIn.grew {w w2 : World} {p : Nat} {most : Int} {ts : List ByteArray} {v : Value} {bm : Nat} {D : DataW Unit} (h : BookIn w p most ts v bm D) (hg : w.grownBy w2 v.ownBlock) :
    w2.cell? ⟨p, 0, none⟩ = some (.int .i64 most) ∧ w2.cell? ⟨p, 1, none⟩ = some v ∧ w2.cell? ⟨p, 2, none⟩ = some (.map (some bm)) ∧ w2.frozen? ⟨p, 1, none⟩ = false ∧ w2.ownsMap Try.prog 9 (plainElem Try.prog 3) bm ts.length D := by
  have hp : w2.heap[p]? = w.heap[p]? := hg.block p (World.block_lt_of_cell? w ⟨p, 0, none⟩ h.c0) (fun e => h.pv e.symm)
  refine ⟨?_, ?_, ?_, ?_, h.mp.kept hg (fun e => h.vm e.symm)⟩
  · rw [World.cell?_of_block (w := w) hp]; exact h.c0
  · rw [World.cell?_of_block (w := w) hp]; exact h.c1
  · rw [World.cell?_of_block (w := w) hp]; exact h.c2
  · rw [World.frozen?_of_block (w := w) hp]; exact h.f1

set_option maxHeartbeats 2000000 in
theorem badd (p : Nat) (most : Int) (ts : List ByteArray) (t : ByteArray) (w : World) (F : List Nat) (h : bookA p most ts w F) (ht : okT t = true) (hn : t ∉ ts) (hl : (ts.length : Int) < most) :
    Calls Try.prog 25 #[.pointer (some ⟨p, 0, none⟩), .string t] w fun e w' => e = .returned (.int .i64 ((ts.length : Nat) : Int)) ∧ Becomes F (bookA p most (ts ++ [t])) w w' := by
  obtain ⟨v, bm, D, hb, rfl⟩ := h
  obtain ⟨i, hi, hz0, hz1, hz2⟩ := info_parts infoS
  obtain ⟨ao, cap, hv⟩ := rowS_shape hb.row
  have h2 := hb.m2
  have hts := (okT_iff _).1 ht
  have hkey := keyOf_string_mk Try.underlying9 (s := t) (by unfold maxLen; omega)
  have hwf : (Lit.int .i64 ((ts.length : Nat) : Int)).wf = true := WalkArith.wf_i64 (by omega)
  subst hv
  go_enter Try.func25, Try.ntmps25
  go_wp2_with (first
    | (go_at_call 31; (with_reducible refine (fclone _ _ (by omega)).mono ?_); rintro e w1 ⟨rfl, hw1⟩; have hb1 := hb.below hw1; have c1 := hb1.c1)
    | (at_builtin; refine wpList_append_own_at _ rfl _ _ 38 rfl 0 9 i (.string ⟨#[]⟩) 1 16 Try.underlying38 hi hz0 hz1 hz2 rfl (by decide) _ ts.length _ rfl (hb1.row.alloc _) ⟨w1.heap.size, 0, none⟩ 1 1 [.string t] rfl rfl (cell_one_new _ _ _) (by intro u hu; simp at hu; subst hu; rfl) (by unfold maxLen; omega) (by omega) (Nat.zero_le _) ?_; intro v' w2 hrow2 hgrow2 _ hloc; have hgg := (World.grownBy_alloc w1 (.cells #[.string t] 9) _).trans hgrow2; obtain ⟨d0, d1, d2, df, dm⟩ := hb1.grew hgg; have hr2 : rowS w2 v' (ts ++ [t]) := (by unfold rowS; rw [List.length_append, List.map_append]; exact hrow2); obtain ⟨ao2, cap2, hv2⟩ := rowS_shape hr2; rw [hv2])
    | (at_mapUpdate; refine wpList_mapUpdate_own _ rfl _ _ _ 54 rfl 9 3 mlaw Try.underlying54 _ bm ts.length D rfl (dm.setCell hb1.pm.symm _) (by unfold maxLen; omega) _ _ _ rfl rfl hkey _ [] (plainElem_int Try.underlying3 hwf) ?_; intro w3 hown3 hgrow3)
    | go_in)
  go_ret
  have hv3 : v' = .slice ao2 (ts.length + 1) cap2 := by simpa using hv2
  rw [hv3] at hr2 hloc
  have hn1 : (Value.slice ao2 (ts.length + 1) cap2).ownBlock ≠ some p ∧ (Value.slice ao2 (ts.length + 1) cap2).ownBlock ≠ some bm := by
    have hpl := hb1.lt p (by simp)
    have hbl := hb1.lt bm (by simp)
    rcases hloc with e | e
    · rw [e]; exact ⟨hb1.pv, hb1.vm⟩
    · rw [e]; simp; omega
  have hp3 : w3.heap[p]? = (w2.setCell ⟨p, 1, none⟩ (.slice ao2 (ts.length + 1) cap2)).heap[p]? := hgrow3.block p (by have := World.block_lt_of_cell? w2 ⟨p, 0, none⟩ d0; simpa [World.setCell] using this) (fun e => hb1.pm (Option.some.inj e))
  refine ⟨rfl, _, ⟨_, bm, _, { c0 := ?_, c1 := ?_, c2 := ?_, f1 := ?_, row := ?_, mp := by rw [List.length_append]; exact hown3, ix := Ix_put hb.ix hn, nd := ?_, ok := ?_, lm := by simp; omega, m1 := hb.m1, m2 := h2, pm := hb.pm, pv := hn1.1, vm := hn1.2 }, rfl⟩, ?_, ?_⟩
  · rw [World.cell?_of_block hp3, World.cell?_setCell_other _ _ _ _ (by simp)]; exact d0
  · rw [World.cell?_of_block hp3]; exact World.cell?_setCell_same' _ _ _ (by rw [d1]; rfl)
  · rw [World.cell?_of_block hp3, World.cell?_setCell_other _ _ _ _ (by simp)]; exact d2
  · rw [World.frozen?_of_block hp3, World.frozen?_setCell]; exact df
  · exact (ownsRow_setCell_other hr2 hn1.1 _).kept hgrow3 (.inr hn1.2)
  · rw [List.nodup_append]; exact ⟨hb.nd, by simp, fun a ha b hb' => by simp at hb'; subst hb'; exact fun e => hn (e ▸ ha)⟩
  · intro u hu
    rcases List.mem_append.1 hu with e | e
    · exact hb.ok u e
    · simp at e; rw [e]; exact ht
  · refine ((((Tn.ofBelow hw1 _).alloc _).grown hgrow2 (fun k hk => ?_)).setCell (.inl (by simp)) _).grown hgrow3 (fun k hk => .inl (by cases hk; simp))
    exact .inl (List.mem_cons_of_mem _ (List.mem_cons_of_mem _ (Option.mem_toList.2 hk)))
  · intro k hk
    simp at hk
    rcases hk with rfl | rfl | hk
    · left; simp
    · left; simp
    · rcases hloc with e | e
      · rw [e] at hk; exact .inl (List.mem_cons_of_mem _ (List.mem_cons_of_mem _ (Option.mem_toList.2 hk)))
      · right; rw [e] at hk; simp at hk; have := hw1.size; omega

theorem bookA_same {p : Nat} {most : Int} {ts : List ByteArray} {w w' : World} {F : List Nat} (h : bookA p most ts w F) (hb : Below w.heap.size w w') : Becomes F (bookA p most ts) w w' :=
  ⟨F, (bookA_good p most ts).below h hb, Tn.ofBelow hb F, fun _ hk => .inl hk⟩
theorem below_drewN (w : World) (n : Nat) : Below w.heap.size w (w.drewN n) := ⟨rfl, rfl, rfl, Nat.le_refl _, fun _ _ => rfl⟩

set_option maxHeartbeats 2000000 in
set_option maxRecDepth 100000 in
theorem bname (p : Nat) (most : Int) (ts : List ByteArray) (t : ByteArray) (w : World) (F : List Nat) (h : bookA p most ts w F) (ht : t.size ≤ maxLen) :
    Calls Try.prog 15 #[.pointer (some ⟨p, 0, none⟩), .string t] w fun e w' => e = .returned (.tuple #[.int .i64 (nmX most ts t), .int .i64 (nmE most ts t)]) ∧ Becomes F (bookA p most (nmT most ts t)) w w' := by
  by_cases hk : okT t = true
  · have hts := (okT_iff _).1 hk
    obtain ⟨hts1, hts2⟩ := hts
    have hsame := bookA_same h (Below.refl _ _)
    obtain ⟨v, bm, D, hb, hF⟩ := h
    have c0 := hb.c0
    have c1 := hb.c1
    have c2 := hb.c2
    have hown := hb.mp
    have hkey := keyOf_string_mk Try.underlying9 ht
    have hi := hb.ix.2.1 t
    have hat0 := hb.ix.2.2 t
    obtain ⟨ao, cap, hv⟩ := rowS_shape hb.row
    subst hv
    by_cases his : isB ts t = true
    · rw [show nmX most ts t = fnd ts t by unfold nmX fnd; rw [if_pos hk, if_pos his, if_pos his], show nmE most ts t = 0 by unfold nmE; rw [if_pos hk, if_pos his], show nmT most ts t = ts by unfold nmT; rw [if_pos hk, if_pos his]]
      rw [his] at hi
      have Hi := Lib.hid hi
      have Hat := Lib.hid hat0
      have HF := Lib.hid hF
      clear hi hat0 hF hk his hb
      go_enter Try.func15, Try.ntmps15
      go_wp2_with (first
        | (at_lookup; refine wpList_lookup_own_ok_int _ rfl _ _ 54 rfl 9 3 .i64 mlaw Try.underlying54 Try.underlying3 (mzero _) bm _ D rfl hown _ _ rfl hkey ?_; intro c hat hwc; replace hat := Hat.out.symm.trans hat; simp at hat; subst hat; have hi := Hi.out; unfold tlit at hi; rw [hi]; clear hi hwc))
      go_ret2
      exact ⟨rfl, hsame⟩
    · have his' : isB ts t = false := by simpa using his
      rw [his'] at hi
      have Hi := Lib.hid hi
      have Hat := Lib.hid hat0
      by_cases hl : (ts.length : Int) < most
      · rw [show nmX most ts t = ((ts.length : Nat) : Int) by unfold nmX; rw [if_pos hk, if_neg his, if_pos hl], show nmE most ts t = 0 by unfold nmE; rw [if_pos hk, if_neg his, if_pos hl], show nmT most ts t = ts ++ [t] by unfold nmT; rw [if_pos hk, if_neg his, if_pos hl]]
        have hl' : ¬ (ts.length : Int) ≥ most := by omega
        have hadd : ∀ n : Nat, Calls Try.prog 25 #[.pointer (some ⟨p, 0, none⟩), .string t] (w.drewN n) fun e w' => e = .returned (.int .i64 ((ts.length : Nat) : Int)) ∧ Becomes F (bookA p most (ts ++ [t])) w w' := by
          intro n
          have hb' : bookA p most ts (w.drewN n) F := (bookA_good p most ts).below ⟨_, bm, D, hb, hF⟩ (below_drewN w n)
          refine (badd p most ts t _ F hb' hk ((isB_not _ _).1 his') hl).mono ?_
          rintro e w' ⟨he, F', g1, g2, g3⟩
          exact ⟨he, F', g1, ⟨g2.os, g2.tape, g2.output, g2.size, g2.block⟩, g3⟩
        have Hadd := Lib.hid hadd
        have HF := Lib.hid hF
        clear hi hat0 hF hk his his' hb hadd hsame
        go_enter Try.func15, Try.ntmps15
        go_wp2_with (first
          | (at_lookup; refine wpList_lookup_own_ok_int _ rfl _ _ 54 rfl 9 3 .i64 mlaw Try.underlying54 Try.underlying3 (mzero _) bm _ D rfl hown _ _ rfl hkey ?_; intro c hat hwc; replace hat := Hat.out.symm.trans hat; simp at hat; subst hat; have hi := Hi.out; unfold tlit at hi; rw [hi]; clear hi hwc))
        go_quiet (fail)
        go_wp2_with (go_at_call 25; (with_reducible refine (Hadd.out _).mono ?_); rintro e w1 ⟨rfl, hw1⟩)
        go_ret2
        exact ⟨rfl, hw1⟩
      · rw [show nmX most ts t = 0 by unfold nmX; rw [if_pos hk, if_neg his, if_neg hl], show nmE most ts t = 201 by unfold nmE; rw [if_pos hk, if_neg his, if_neg hl], show nmT most ts t = ts by unfold nmT; rw [if_pos hk, if_neg his, if_neg hl]]
        have hl' : (ts.length : Int) ≥ most := by omega
        have hall : ∀ n : Nat, Becomes F (bookA p most ts) w (w.drewN n) := fun n => bookA_same ⟨_, bm, D, hb, hF⟩ (below_drewN w n)
        have Hall := Lib.hid hall
        have HF := Lib.hid hF
        clear hi hat0 hF hk his his' hb hall hsame hl
        go_enter Try.func15, Try.ntmps15
        go_wp2_with (first
          | (at_lookup; refine wpList_lookup_own_ok_int _ rfl _ _ 54 rfl 9 3 .i64 mlaw Try.underlying54 Try.underlying3 (mzero _) bm _ D rfl hown _ _ rfl hkey ?_; intro c hat hwc; replace hat := Hat.out.symm.trans hat; simp at hat; subst hat; have hi := Hi.out; unfold tlit at hi; rw [hi]; clear hi hwc))
        go_quiet (fail)
        go_wp2
        go_ret2
        exact ⟨rfl, Hall.out _⟩
  · have hsame := bookA_same h (Below.refl _ _)
    rw [show nmX most ts t = 0 by unfold nmX; rw [if_neg hk], show nmE most ts t = 200 by unfold nmE; rw [if_neg hk], show nmT most ts t = ts by unfold nmT; rw [if_neg hk]]
    have hts : t.size < 1 ∨ 512 < t.size := by
      have h1 : ¬ (1 ≤ t.size ∧ t.size ≤ 512) := fun c => hk ((okT_iff _).2 c)
      omega
    clear hk h
    unfold maxLen at ht
    rcases hts with h0 | h0
    · go_enter Try.func15, Try.ntmps15
      go_wp2
      go_ret2
      exact ⟨rfl, hsame⟩
    · have h1 : ¬ t.size < 1 := by omega
      go_enter Try.func15, Try.ntmps15
      go_wp2
      go_ret2
      exact ⟨rfl, hsame⟩
end Go.Proofs.Ytcfibjfhmfdmkaa
