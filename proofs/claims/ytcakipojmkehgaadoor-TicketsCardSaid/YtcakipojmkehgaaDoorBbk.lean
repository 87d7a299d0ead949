
/- Put together: Bbook, Bname, Bref, Does, SArg, Cref, Ccraft, Tws9, Tw9. Conditions: each theorem's own. -/
import Derived.Test.YtcakipojmkehgaaDoorProg
import Derived.Test.YtcakipojmkehgaaDoorShelf
import Derived.Test.YtcakipojmkehgaaDoorBme
import Derived.Test.YtcakipojmkehgaaDoorBpm
import Derived.WalkKit
import Derived.WalkSpells
import Derived.WalkLawsBesides
import Derived.Lib.Hide
import Derived.Maps.OwnSet
import Derived.OwnWalk
import Derived.OneCell
import Derived.BigQuiet
import Derived.Deep.QuietTactic
import Derived.Maps.AppendAt
import Derived.Test.YtcakipojmkehgaaDoorLnum
import Derived.Test.YtcakipojmkehgaaDoorBfr
import Derived.Test.YtcakipojmkehgaaDoorFnum
namespace Go.Proofs.YtcakipojmkehgaaDoor
open Go Go.RowKit Go.Maps Go.ChangeMaps Go.WideMaps

theorem mlaw : Keyed Tryd.prog 9 := string_keyed Tryd.underlying9
theorem mzero (w : World) : (zeroValue 3).run Tryd.prog w = .ok (.int .i64 0) w := by kernel_rfl
theorem infoS : (Tryd.prog.info? 9).map (fun i => (i.zero, i.size, i.bytes)) = some (some (.string ⟨#[]⟩), 1, 16) := by kernel_rfl

/-- A row of strings that the call itself made. -/
def rowS (w : World) (v : Value) (ts : List ByteArray) : Prop := w.ownsRow 0 9 1 v ts.length (ts.map Value.string)
theorem rowS_shape {w : World} {v : Value} {ts : List ByteArray} (h : rowS w v ts) : ∃ ao cap, v = .slice ao ts.length cap := by
  rcases h.2 with ⟨rfl, h0⟩ | ⟨g, cap, _, rfl, _⟩
  · exact ⟨none, 0, by rw [h0]⟩
  · exact ⟨_, cap, rfl⟩
theorem rowS_some {w : World} {v : Value} {ts : List ByteArray} (h : rowS w v ts) {i : Nat} (hi : i < ts.length) : ∃ g cap, v = .slice (some ⟨g, 0, none⟩) ts.length cap ∧ w.cell? ⟨g, i, none⟩ = some (.string (ts.getD i ⟨#[]⟩)) := by
  rcases h.2 with ⟨rfl, h0⟩ | ⟨g, cap, _, rfl, _⟩
  · omega
  · refine ⟨g, cap, rfl, ?_⟩
    have hc := h.cells (g := g) rfl i (.string (ts.getD i ⟨#[]⟩)) (by simp [List.getD, hi])
    rw [Addr.add_lit, Nat.zero_add] at hc
    exact hc

structure BookIn (w : World) (p : Nat) (most : Int) (ts : List ByteArray) (v : Value) (bm : Nat) (D : DataW Unit) : Prop where
  c0 : w.cell? ⟨p, 0, none⟩ = some (.int .i64 most)
  c1 : w.cell? ⟨p, 1, none⟩ = some v
  c2 : w.cell? ⟨p, 2, none⟩ = some (.map (some bm))
  f1 : w.frozen? ⟨p, 1, none⟩ = false
  row : rowS w v ts
  mp : w.ownsMap Tryd.prog 9 (plainElem Tryd.prog 3) bm ts.length D
  ix : Ix D ts
  nd : ts.Nodup
  ok : ∀ t ∈ ts, okT t = true
  lm : (ts.length : Int) ≤ most
  m1 : 1 ≤ most
  m2 : most ≤ 65536
  pm : p ≠ bm
  pv : v.ownBlock ≠ some p
  vm : v.ownBlock ≠ some bm
/-- At p there is a book of at most so many terms, with these. -/
def bookA (p : Nat) (most : Int) (ts : List ByteArray) : Ass := fun w F => ∃ v bm D, BookIn w p most ts v bm D ∧ F = p :: bm :: v.ownBlock.toList

theorem BookIn.lt {w : World} {p : Nat} {most : Int} {ts : List ByteArray} {v : Value} {bm : Nat} {D : DataW Unit} (h : BookIn w p most ts v bm D) : ∀ k ∈ p :: bm :: v.ownBlock.toList, k < w.heap.size := by
  intro k hk
  simp at hk
  rcases hk with rfl | rfl | hk
  · exact World.block_lt_of_cell? w ⟨k, 0, none⟩ h.c0
  · exact h.mp.lt
  · exact (h.row.lt k hk).2
theorem BookIn.on {w w' : World} {p : Nat} {most : Int} {ts : List ByteArray} {v : Value} {bm : Nat} {D : DataW Unit} (h : BookIn w p most ts v bm D) (hw' : ∀ k ∈ p :: bm :: v.ownBlock.toList, w'.heap[k]? = w.heap[k]?) : BookIn w' p most ts v bm D := by
  have hp : w'.heap[p]? = w.heap[p]? := hw' p (by simp)
  have hb : w'.heap[bm]? = w.heap[bm]? := hw' bm (by simp)
  refine { h with c0 := ?_, c1 := ?_, c2 := ?_, f1 := ?_, row := ?_, mp := ?_ }
  · rw [World.cell?_of_block (w := w) hp]; exact h.c0
  · rw [World.cell?_of_block (w := w) hp]; exact h.c1
  · rw [World.cell?_of_block (w := w) hp]; exact h.c2
  · rw [World.frozen?_of_block (w := w) hp]; exact h.f1
  · refine ⟨h.row.1, ?_⟩
    rcases h.row.2 with hn | ⟨g, cap, cur, rfl, hb, hgg, rest⟩
    · exact .inl hn
    · exact .inr ⟨g, cap, cur, rfl, hb, (hw' g (by simp [Value.ownBlock])).trans hgg, rest⟩
  · obtain ⟨es, clock, h1, h2⟩ := h.mp
    exact ⟨es, clock, hb.trans h1, h2⟩
theorem BookIn.below {w w' : World} {p : Nat} {most : Int} {ts : List ByteArray} {v : Value} {bm : Nat} {D : DataW Unit} (h : BookIn w p most ts v bm D) (hb : Below w.heap.size w w') : BookIn w' p most ts v bm D :=
  h.on fun k hk => hb.block k (h.lt k hk)
theorem bookA_good (p : Nat) (most : Int) (ts : List ByteArray) : (bookA p most ts).Good := by
  rintro w F ⟨v, bm, D, h, rfl⟩
  exact ⟨h.lt, fun w' hw' => ⟨v, bm, D, h.on hw', rfl⟩⟩

/-- What New leaves. -/
def NewP (most : Int) (w : World) (e : Ending) (w' : World) : Prop := ∃ p : Nat, e = .returned (.tuple #[.pointer (some ⟨p, 0, none⟩), .int .i64 0]) ∧ Becomes [] (bookA p most []) w w'

set_option maxHeartbeats 1000000 in
theorem bnew_ok (most : Int) (w : World) (h1 : 1 ≤ most) (h2 : most ≤ 65536) : Calls Tryd.prog 20 #[.int .i64 most] w (NewP most w) := by
  have hmm := @run_makeMap Tryd.prog
  go_enter Tryd.func20, Tryd.ntmps20
  go_wp2
  go_ret2
  refine ⟨w.heap.size + 1, rfl, [w.heap.size + 1, w.heap.size], ⟨.slice none 0 0, w.heap.size, .map [], ?_, rfl⟩, ((Tn.refl _ _).alloc _).alloc _, fun k hk => .inr ?_⟩
  · refine { c0 := by simp, c1 := by simp, c2 := by simp, f1 := by simp, row := World.ownsRow_nil _ _ _ _, mp := (World.ownsMap_made _ _ _ _).alloc _, ix := Ix_nil, nd := List.nodup_nil, ok := fun t ht => (by cases ht), lm := by simp; omega, m1 := h1, m2 := h2, pm := by omega, pv := by simp [Value.ownBlock], vm := by simp [Value.ownBlock] }
  · simp at hk; omega
theorem bnew_bad (most : Int) (w : World) (h : most < 1 ∨ 65536 < most) : Calls Tryd.prog 20 #[.int .i64 most] w fun e w' => e = .returned (.tuple #[.pointer none, .int .i64 200]) ∧ w = w' := by
  rcases h with h | h
  · go_enter Tryd.func20, Tryd.ntmps20
    go_wp2
    go_ret2
    exact ⟨rfl, rfl⟩
  · have h' : ¬ most < 1 := by omega
    go_enter Tryd.func20, Tryd.ntmps20
    go_wp2
    go_ret2
    exact ⟨rfl, rfl⟩

theorem blen (p : Nat) (most : Int) (ts : List ByteArray) (w : World) (F : List Nat) (h : bookA p most ts w F) :
    Calls Tryd.prog 16 #[.pointer (some ⟨p, 0, none⟩)] w fun e w' => e = .returned (.int .i64 ((ts.length : Nat) : Int)) ∧ w = w' := by
  obtain ⟨v, bm, D, hb, rfl⟩ := h
  obtain ⟨ao, cap, rfl⟩ := rowS_shape hb.row
  have c1 := hb.c1
  clear hb
  go_enter Tryd.func16, Tryd.ntmps16
  go_wp2
  go_ret
  exact ⟨rfl, rfl⟩

theorem bfind (p : Nat) (most : Int) (ts : List ByteArray) (t : ByteArray) (w : World) (F : List Nat) (h : bookA p most ts w F) (ht : t.size ≤ maxLen) :
    Calls Tryd.prog 17 #[.pointer (some ⟨p, 0, none⟩), .string t] w fun e w' => e = .returned (.tuple #[.int .i64 (fnd ts t), .bool (isB ts t)]) ∧ w = w' := by
  obtain ⟨v, bm, D, hb, rfl⟩ := h
  have c2 := hb.c2
  have hown := hb.mp
  have hi := hb.ix.2.1 t
  have hat0 := hb.ix.2.2 t
  have hkey := keyOf_string_mk Tryd.underlying9 ht
  have Hi := Lib.hid hi
  have Hat := Lib.hid hat0
  clear hb hi hat0
  go_enter Tryd.func17, Tryd.ntmps17
  go_wp2_with (first
    | (at_lookup; refine wpList_lookup_own_ok_int _ rfl _ _ 78 rfl 9 3 .i64 mlaw Tryd.underlying78 Tryd.underlying3 (mzero _) bm _ D rfl hown _ _ rfl hkey ?_; intro c hat hwc; replace hat := Hat.out.symm.trans hat; simp at hat; subst hat; have hi := Hi.out; unfold tlit at hi; rw [hi]; clear hi hwc))
  go_ret2
  exact ⟨rfl, rfl⟩
end Go.Proofs.YtcakipojmkehgaaDoor

namespace Go.Proofs.YtcakipojmkehgaaDoor
open Go Go.RowKit Go.Maps Go.ChangeMaps Go.WideMaps

theorem fclone (s : ByteArray) (w : World) (h : s.size ≤ 281474976710656) :
    Calls Tryd.prog 51 #[.string s] w fun e w' => e = .returned (.string s) ∧ Below w.heap.size w w' := by
  go_enter Tryd.func51, Tryd.ntmps51
  go_wp2_with (go_at_call 63; refine (Tryd.stringslite_Clone s _ h).mono ?_; rintro e w' ⟨rfl, hb⟩)
  go_ret
  exact ⟨rfl, hb⟩

theorem bterm (p : Nat) (most : Int) (ts : List ByteArray) (n : Int) (w : World) (F : List Nat) (h : bookA p most ts w F) :
    Calls Tryd.prog 33 #[.pointer (some ⟨p, 0, none⟩), .int .i64 n] w fun e w' => e = .returned (.tuple #[.string (tmS ts n), .int .i64 (tmE ts n)]) ∧ Below w.heap.size w w' := by
  obtain ⟨v, bm, D, hb, rfl⟩ := h
  have hl := hb.lm
  have h2 := hb.m2
  by_cases hn : 0 ≤ n ∧ n < ts.length
  · rw [tmS, tmE, if_pos hn, if_pos hn]
    obtain ⟨k, rfl⟩ := Int.eq_ofNat_of_zero_le hn.1
    have hk : k < ts.length := by have := hn.2; omega
    obtain ⟨g, cap, rfl, hc⟩ := rowS_some hb.row hk
    have c1 := hb.c1
    have hok := (okT_iff _).1 (hb.ok (ts.getD k ⟨#[]⟩) (by rw [List.getD, List.getElem?_eq_getElem hk]; exact List.getElem_mem hk))
    have e : ((k : Nat) : Int).toNat = k := rfl
    rw [e]
    generalize ts.getD k ⟨#[]⟩ = s at *
    clear hb hn e
    go_enter Tryd.func33, Tryd.ntmps33
    go_wp2_with (go_at_call 51; (with_reducible refine (fclone _ _ (by omega)).mono ?_); rintro e w1 ⟨rfl, hb1⟩)
    go_ret2
    exact ⟨rfl, hb1⟩
  · rw [tmS, tmE, if_neg hn, if_neg hn]
    obtain ⟨ao, cap, rfl⟩ := rowS_shape hb.row
    have c1 := hb.c1
    clear hb
    by_cases h0 : n < 0
    · clear hn
      go_enter Tryd.func33, Tryd.ntmps33
      go_wp2
      go_ret2
      exact ⟨rfl, Below.refl _ _⟩
    · have h3 : (ts.length : Int) ≤ n := by omega
      clear hn
      go_enter Tryd.func33, Tryd.ntmps33
      go_wp2
      go_ret2
      exact ⟨rfl, Below.refl _ _⟩

/-- The row has grown: the struct's other cells and the map are as they were. -/
theorem BookIn.grew {w w2 : World} {p : Nat} {most : Int} {ts : List ByteArray} {v : Value} {bm : Nat} {D : DataW Unit} (h : BookIn w p most ts v bm D) (hg : w.grownBy w2 v.ownBlock) :
    w2.cell? ⟨p, 0, none⟩ = some (.int .i64 most) ∧ w2.cell? ⟨p, 1, none⟩ = some v ∧ w2.cell? ⟨p, 2, none⟩ = some (.map (some bm)) ∧ w2.frozen? ⟨p, 1, none⟩ = false ∧ w2.ownsMap Tryd.prog 9 (plainElem Tryd.prog 3) bm ts.length D := by
  have hp : w2.heap[p]? = w.heap[p]? := hg.block p (World.block_lt_of_cell? w ⟨p, 0, none⟩ h.c0) (fun e => h.pv e.symm)
  refine ⟨?_, ?_, ?_, ?_, h.mp.kept hg (fun e => h.vm e.symm)⟩
  · rw [World.cell?_of_block (w := w) hp]; exact h.c0
  · rw [World.cell?_of_block (w := w) hp]; exact h.c1
  · rw [World.cell?_of_block (w := w) hp]; exact h.c2
  · rw [World.frozen?_of_block (w := w) hp]; exact h.f1

set_option maxHeartbeats 2000000 in
theorem badd (p : Nat) (most : Int) (ts : List ByteArray) (t : ByteArray) (w : World) (F : List Nat) (h : bookA p most ts w F) (ht : okT t = true) (hn : t ∉ ts) (hl : (ts.length : Int) < most) :
    Calls Tryd.prog 35 #[.pointer (some ⟨p, 0, none⟩), .string t] w fun e w' => e = .returned (.int .i64 ((ts.length : Nat) : Int)) ∧ Becomes F (bookA p most (ts ++ [t])) w w' := by
  obtain ⟨v, bm, D, hb, rfl⟩ := h
  obtain ⟨i, hi, hz0, hz1, hz2⟩ := info_parts infoS
  obtain ⟨ao, cap, hv⟩ := rowS_shape hb.row
  have h2 := hb.m2
  have hts := (okT_iff _).1 ht
  have hkey := keyOf_string_mk Tryd.underlying9 (s := t) (by unfold maxLen; omega)
  have hwf : (Lit.int .i64 ((ts.length : Nat) : Int)).wf = true := WalkArith.wf_i64 (by omega)
  subst hv
  go_enter Tryd.func35, Tryd.ntmps35
  go_wp2_with (first
    | (go_at_call 51; (with_reducible refine (fclone _ _ (by omega)).mono ?_); rintro e w1 ⟨rfl, hw1⟩; have hb1 := hb.below hw1; have c1 := hb1.c1)
    | (at_builtin; refine wpList_append_own_at _ rfl _ _ 22 rfl 0 9 i (.string ⟨#[]⟩) 1 16 Tryd.underlying22 hi hz0 hz1 hz2 rfl (by decide) _ ts.length _ rfl (hb1.row.alloc _) ⟨w1.heap.size, 0, none⟩ 1 1 [.string t] rfl rfl (cell_one_new _ _ _) (by intro u hu; simp at hu; subst hu; rfl) (by unfold maxLen; omega) (by omega) (Nat.zero_le _) ?_; intro v' w2 hrow2 hgrow2 _ hloc; have hgg := (World.grownBy_alloc w1 (.cells #[.string t] 9) _).trans hgrow2; obtain ⟨d0, d1, d2, df, dm⟩ := hb1.grew hgg; have hr2 : rowS w2 v' (ts ++ [t]) := (by unfold rowS; rw [List.length_append, List.map_append]; exact hrow2); obtain ⟨ao2, cap2, hv2⟩ := rowS_shape hr2; rw [hv2])
    | (at_mapUpdate; refine wpList_mapUpdate_own _ rfl _ _ _ 78 rfl 9 3 mlaw Tryd.underlying78 _ bm ts.length D rfl (dm.setCell hb1.pm.symm _) (by unfold maxLen; omega) _ _ _ rfl rfl hkey _ [] (plainElem_int Tryd.underlying3 hwf) ?_; intro w3 hown3 hgrow3)
    | go_in)
  go_ret
  have hv3 : v' = .slice ao2 (ts.length + 1) cap2 := by simpa using hv2
  rw [hv3] at hr2 hloc
  have hn1 : (Value.slice ao2 (ts.length + 1) cap2).ownBlock ≠ some p ∧ (Value.slice ao2 (ts.length + 1) cap2).ownBlock ≠ some bm := by
    have hpl := hb1.lt p (by simp)
    have hbl := hb1.lt bm (by simp)
    rcases hloc with e | e
    · rw [e]; exact ⟨hb1.pv, hb1.vm⟩
    · rw [e]; simp; omega
  have hp3 : w3.heap[p]? = (w2.setCell ⟨p, 1, none⟩ (.slice ao2 (ts.length + 1) cap2)).heap[p]? := hgrow3.block p (by have := World.block_lt_of_cell? w2 ⟨p, 0, none⟩ d0; simpa [World.setCell] using this) (fun e => hb1.pm (Option.some.inj e))
  refine ⟨rfl, _, ⟨_, bm, _, { c0 := ?_, c1 := ?_, c2 := ?_, f1 := ?_, row := ?_, mp := by rw [List.length_append]; exact hown3, ix := Ix_put hb.ix hn, nd := ?_, ok := ?_, lm := by simp; omega, m1 := hb.m1, m2 := h2, pm := hb.pm, pv := hn1.1, vm := hn1.2 }, rfl⟩, ?_, ?_⟩
  · rw [World.cell?_of_block hp3, World.cell?_setCell_other _ _ _ _ (by simp)]; exact d0
  · rw [World.cell?_of_block hp3]; exact World.cell?_setCell_same' _ _ _ (by rw [d1]; rfl)
  · rw [World.cell?_of_block hp3, World.cell?_setCell_other _ _ _ _ (by simp)]; exact d2
  · rw [World.frozen?_of_block hp3, World.frozen?_setCell]; exact df
  · exact (ownsRow_setCell_other hr2 hn1.1 _).kept hgrow3 (.inr hn1.2)
  · rw [List.nodup_append]; exact ⟨hb.nd, by simp, fun a ha b hb' => by simp at hb'; subst hb'; exact fun e => hn (e ▸ ha)⟩
  · intro u hu
    rcases List.mem_append.1 hu with e | e
    · exact hb.ok u e
    · simp at e; rw [e]; exact ht
  · refine ((((Tn.ofBelow hw1 _).alloc _).grown hgrow2 (fun k hk => ?_)).setCell (.inl (by simp)) _).grown hgrow3 (fun k hk => .inl (by cases hk; simp))
    exact .inl (List.mem_cons_of_mem _ (List.mem_cons_of_mem _ (Option.mem_toList.2 hk)))
  · intro k hk
    simp at hk
    rcases hk with rfl | rfl | hk
    · left; simp
    · left; simp
    · rcases hloc with e | e
      · rw [e] at hk; exact .inl (List.mem_cons_of_mem _ (List.mem_cons_of_mem _ (Option.mem_toList.2 hk)))
      · right; rw [e] at hk; simp at hk; have := hw1.size; omega

theorem bookA_same {p : Nat} {most : Int} {ts : List ByteArray} {w w' : World} {F : List Nat} (h : bookA p most ts w F) (hb : Below w.heap.size w w') : Becomes F (bookA p most ts) w w' :=
  ⟨F, (bookA_good p most ts).below h hb, Tn.ofBelow hb F, fun _ hk => .inl hk⟩
theorem below_drewN (w : World) (n : Nat) : Below w.heap.size w (w.drewN n) := ⟨rfl, rfl, rfl, Nat.le_refl _, fun _ _ => rfl⟩

set_option maxHeartbeats 2000000 in
set_option maxRecDepth 100000 in
theorem bname (p : Nat) (most : Int) (ts : List ByteArray) (t : ByteArray) (w : World) (F : List Nat) (h : bookA p most ts w F) (ht : t.size ≤ maxLen) :
    Calls Tryd.prog 19 #[.pointer (some ⟨p, 0, none⟩), .string t] w fun e w' => e = .returned (.tuple #[.int .i64 (nmX most ts t), .int .i64 (nmE most ts t)]) ∧ Becomes F (bookA p most (nmT most ts t)) w w' := by
  by_cases hk : okT t = true
  · have hts := (okT_iff _).1 hk
    obtain ⟨hts1, hts2⟩ := hts
    have hsame := bookA_same h (Below.refl _ _)
    obtain ⟨v, bm, D, hb, hF⟩ := h
    have c0 := hb.c0
    have c1 := hb.c1
    have c2 := hb.c2
    have hown := hb.mp
    have hkey := keyOf_string_mk Tryd.underlying9 ht
    have hi := hb.ix.2.1 t
    have hat0 := hb.ix.2.2 t
    obtain ⟨ao, cap, hv⟩ := rowS_shape hb.row
    subst hv
    by_cases his : isB ts t = true
    · rw [show nmX most ts t = fnd ts t by unfold nmX fnd; rw [if_pos hk, if_pos his, if_pos his], show nmE most ts t = 0 by unfold nmE; rw [if_pos hk, if_pos his], show nmT most ts t = ts by unfold nmT; rw [if_pos hk, if_pos his]]
      rw [his] at hi
      have Hi := Lib.hid hi
      have Hat := Lib.hid hat0
      have HF := Lib.hid hF
      clear hi hat0 hF hk his hb
      go_enter Tryd.func19, Tryd.ntmps19
      go_wp2_with (first
        | (at_lookup; refine wpList_lookup_own_ok_int _ rfl _ _ 78 rfl 9 3 .i64 mlaw Tryd.underlying78 Tryd.underlying3 (mzero _) bm _ D rfl hown _ _ rfl hkey ?_; intro c hat hwc; replace hat := Hat.out.symm.trans hat; simp at hat; subst hat; have hi := Hi.out; unfold tlit at hi; rw [hi]; clear hi hwc))
      go_ret2
      exact ⟨rfl, hsame⟩
    · have his' : isB ts t = false := by simpa using his
      rw [his'] at hi
      have Hi := Lib.hid hi
      have Hat := Lib.hid hat0
      by_cases hl : (ts.length : Int) < most
      · rw [show nmX most ts t = ((ts.length : Nat) : Int) by unfold nmX; rw [if_pos hk, if_neg his, if_pos hl], show nmE most ts t = 0 by unfold nmE; rw [if_pos hk, if_neg his, if_pos hl], show nmT most ts t = ts ++ [t] by unfold nmT; rw [if_pos hk, if_neg his, if_pos hl]]
        have hl' : ¬ (ts.length : Int) ≥ most := by omega
        have hadd : ∀ n : Nat, Calls Tryd.prog 35 #[.pointer (some ⟨p, 0, none⟩), .string t] (w.drewN n) fun e w' => e = .returned (.int .i64 ((ts.length : Nat) : Int)) ∧ Becomes F (bookA p most (ts ++ [t])) w w' := by
          intro n
          have hb' : bookA p most ts (w.drewN n) F := (bookA_good p most ts).below ⟨_, bm, D, hb, hF⟩ (below_drewN w n)
          refine (badd p most ts t _ F hb' hk ((isB_not _ _).1 his') hl).mono ?_
          rintro e w' ⟨he, F', g1, g2, g3⟩
          exact ⟨he, F', g1, ⟨g2.os, g2.tape, g2.output, g2.size, g2.block⟩, g3⟩
        have Hadd := Lib.hid hadd
        have HF := Lib.hid hF
        clear hi hat0 hF hk his his' hb hadd hsame
        go_enter Tryd.func19, Tryd.ntmps19
        go_wp2_with (first
          | (at_lookup; refine wpList_lookup_own_ok_int _ rfl _ _ 78 rfl 9 3 .i64 mlaw Tryd.underlying78 Tryd.underlying3 (mzero _) bm _ D rfl hown _ _ rfl hkey ?_; intro c hat hwc; replace hat := Hat.out.symm.trans hat; simp at hat; subst hat; have hi := Hi.out; unfold tlit at hi; rw [hi]; clear hi hwc))
        go_quiet (fail)
        go_wp2_with (go_at_call 35; (with_reducible refine (Hadd.out _).mono ?_); rintro e w1 ⟨rfl, hw1⟩)
        go_ret2
        exact ⟨rfl, hw1⟩
      · rw [show nmX most ts t = 0 by unfold nmX; rw [if_pos hk, if_neg his, if_neg hl], show nmE most ts t = 201 by unfold nmE; rw [if_pos hk, if_neg his, if_neg hl], show nmT most ts t = ts by unfold nmT; rw [if_pos hk, if_neg his, if_neg hl]]
        have hl' : (ts.length : Int) ≥ most := by omega
        have hall : ∀ n : Nat, Becomes F (bookA p most ts) w (w.drewN n) := fun n => bookA_same ⟨_, bm, D, hb, hF⟩ (below_drewN w n)
        have Hall := Lib.hid hall
        have HF := Lib.hid hF
        clear hi hat0 hF hk his his' hb hall hsame hl
        go_enter Tryd.func19, Tryd.ntmps19
        go_wp2_with (first
          | (at_lookup; refine wpList_lookup_own_ok_int _ rfl _ _ 78 rfl 9 3 .i64 mlaw Tryd.underlying78 Tryd.underlying3 (mzero _) bm _ D rfl hown _ _ rfl hkey ?_; intro c hat hwc; replace hat := Hat.out.symm.trans hat; simp at hat; subst hat; have hi := Hi.out; unfold tlit at hi; rw [hi]; clear hi hwc))
        go_quiet (fail)
        go_wp2
        go_ret2
        exact ⟨rfl, Hall.out _⟩
  · have hsame := bookA_same h (Below.refl _ _)
    rw [show nmX most ts t = 0 by unfold nmX; rw [if_neg hk], show nmE most ts t = 200 by unfold nmE; rw [if_neg hk], show nmT most ts t = ts by unfold nmT; rw [if_neg hk]]
    have hts : t.size < 1 ∨ 512 < t.size := by
      have h1 : ¬ (1 ≤ t.size ∧ t.size ≤ 512) := fun c => hk ((okT_iff _).2 c)
      omega
    clear hk h
    unfold maxLen at ht
    rcases hts with h0 | h0
    · go_enter Tryd.func19, Tryd.ntmps19
      go_wp2
      go_ret2
      exact ⟨rfl, hsame⟩
    · have h1 : ¬ t.size < 1 := by omega
      go_enter Tryd.func19, Tryd.ntmps19
      go_wp2
      go_ret2
      exact ⟨rfl, hsame⟩
end Go.Proofs.YtcakipojmkehgaaDoor

namespace Go.Proofs.YtcakipojmkehgaaDoor
open Go Go.RowKit Go.Maps

structure RefIn (w : World) (p : Nat) (most : Int) (ts : List ByteArray) (v : Value) : Prop where
  c0 : w.cell? ⟨p, 0, none⟩ = some (.int .i64 most)
  c1 : w.cell? ⟨p, 1, none⟩ = some v
  f1 : w.frozen? ⟨p, 1, none⟩ = false
  row : rowS w v ts
  lm : (ts.length : Int) ≤ most
  m1 : 1 ≤ most
  m2 : most ≤ 65536
  pv : v.ownBlock ≠ some p
/-- At p there is a book of the reference's. -/
def refA (p : Nat) (most : Int) (ts : List ByteArray) : Ass := fun w F => ∃ v, RefIn w p most ts v ∧ F = p :: v.ownBlock.toList

theorem rowS_on {w w' : World} {v : Value} {ts : List ByteArray} (h : rowS w v ts) (hw' : ∀ k ∈ v.ownBlock.toList, w'.heap[k]? = w.heap[k]?) : rowS w' v ts := by
  refine ⟨h.1, ?_⟩
  rcases h.2 with hn | ⟨g, cap, cur, rfl, hb, hgg, rest⟩
  · exact .inl hn
  · exact .inr ⟨g, cap, cur, rfl, hb, (hw' g (by simp [Value.ownBlock])).trans hgg, rest⟩
theorem RefIn.lt {w : World} {p : Nat} {most : Int} {ts : List ByteArray} {v : Value} (h : RefIn w p most ts v) : ∀ k ∈ p :: v.ownBlock.toList, k < w.heap.size := by
  intro k hk
  simp at hk
  rcases hk with rfl | hk
  · exact World.block_lt_of_cell? w ⟨k, 0, none⟩ h.c0
  · exact (h.row.lt k hk).2
theorem RefIn.on {w w' : World} {p : Nat} {most : Int} {ts : List ByteArray} {v : Value} (h : RefIn w p most ts v) (hw' : ∀ k ∈ p :: v.ownBlock.toList, w'.heap[k]? = w.heap[k]?) : RefIn w' p most ts v := by
  have hp : w'.heap[p]? = w.heap[p]? := hw' p (by simp)
  refine { h with c0 := ?_, c1 := ?_, f1 := ?_, row := rowS_on h.row fun k hk => hw' k (List.mem_cons_of_mem _ hk) }
  · rw [World.cell?_of_block (w := w) hp]; exact h.c0
  · rw [World.cell?_of_block (w := w) hp]; exact h.c1
  · rw [World.frozen?_of_block (w := w) hp]; exact h.f1
theorem RefIn.below {w w' : World} {p : Nat} {most : Int} {ts : List ByteArray} {v : Value} (h : RefIn w p most ts v) (hb : Below w.heap.size w w') : RefIn w' p most ts v :=
  h.on fun k hk => hb.block k (h.lt k hk)
theorem refA_good (p : Nat) (most : Int) (ts : List ByteArray) : (refA p most ts).Good := by
  rintro w F ⟨v, h, rfl⟩
  exact ⟨h.lt, fun w' hw' => ⟨v, h.on hw', rfl⟩⟩
theorem refA_same {p : Nat} {most : Int} {ts : List ByteArray} {w w' : World} {F : List Nat} (h : refA p most ts w F) (hb : Below w.heap.size w w') : Becomes F (refA p most ts) w w' :=
  ⟨F, (refA_good p most ts).below h hb, Tn.ofBelow hb F, fun _ hk => .inl hk⟩

def RnewP (most : Int) (w : World) (e : Ending) (w' : World) : Prop := ∃ p : Nat, e = .returned (.tuple #[.pointer (some ⟨p, 0, none⟩), .int .i64 0]) ∧ Becomes [] (refA p most []) w w'

theorem rnew_ok (most : Int) (w : World) (h1 : 1 ≤ most) (h2 : most ≤ 65536) : Calls Tryd.prog 21 #[.int .i64 most] w (RnewP most w) := by
  go_enter Tryd.func21, Tryd.ntmps21
  go_wp2
  go_ret2
  refine ⟨w.heap.size, rfl, [w.heap.size], ⟨.slice none 0 0, ?_, rfl⟩, (Tn.refl _ _).alloc _, fun k hk => .inr ?_⟩
  · exact { c0 := by simp, c1 := by simp, f1 := by simp, row := World.ownsRow_nil _ _ _ _, lm := by simp; omega, m1 := h1, m2 := h2, pv := by simp [Value.ownBlock] }
  · simp at hk; omega
theorem rnew_bad (most : Int) (w : World) (h : most < 1 ∨ 65536 < most) : Calls Tryd.prog 21 #[.int .i64 most] w fun e w' => e = .returned (.tuple #[.pointer none, .int .i64 200]) ∧ w = w' := by
  rcases h with h | h
  · go_enter Tryd.func21, Tryd.ntmps21
    go_wp2
    go_ret2
    exact ⟨rfl, rfl⟩
  · have h' : ¬ most < 1 := by omega
    go_enter Tryd.func21, Tryd.ntmps21
    go_wp2
    go_ret2
    exact ⟨rfl, rfl⟩

theorem rbterm (p : Nat) (most : Int) (ts : List ByteArray) (n : Int) (w : World) (F : List Nat) (h : refA p most ts w F) :
    Calls Tryd.prog 49 #[.pointer (some ⟨p, 0, none⟩), .int .i64 n] w fun e w' => e = .returned (.tuple #[.string (tmS ts n), .int .i64 (tmE ts n)]) ∧ w = w' := by
  obtain ⟨v, hb, rfl⟩ := h
  have hl := hb.lm
  have h2 := hb.m2
  by_cases hn : 0 ≤ n ∧ n < ts.length
  · rw [tmS, tmE, if_pos hn, if_pos hn]
    obtain ⟨k, rfl⟩ := Int.eq_ofNat_of_zero_le hn.1
    have hk : k < ts.length := by have := hn.2; omega
    obtain ⟨g, cap, rfl, hc⟩ := rowS_some hb.row hk
    have c1 := hb.c1
    have e : ((k : Nat) : Int).toNat = k := rfl
    rw [e]
    generalize ts.getD k ⟨#[]⟩ = s at *
    clear hb hn e
    go_enter Tryd.func49, Tryd.ntmps49
    go_wp2
    go_ret2
    exact ⟨rfl, rfl⟩
  · rw [tmS, tmE, if_neg hn, if_neg hn]
    obtain ⟨ao, cap, rfl⟩ := rowS_shape hb.row
    have c1 := hb.c1
    clear hb
    by_cases h0 : n < 0
    · clear hn
      go_enter Tryd.func49, Tryd.ntmps49
      go_wp2
      go_ret2
      exact ⟨rfl, rfl⟩
    · have h3 : (ts.length : Int) ≤ n := by omega
      clear hn
      go_enter Tryd.func49, Tryd.ntmps49
      go_wp2
      go_ret2
      exact ⟨rfl, rfl⟩

theorem fnd_in {ts : List ByteArray} {t : ByteArray} {k : Nat} (hk : k < ts.length) (h0 : ∀ j, j < k → ts.getD j ⟨#[]⟩ ≠ t) (h1 : ts.getD k ⟨#[]⟩ = t) : fnd ts t = ((k : Nat) : Int) ∧ isB ts t = true := by
  have hm : t ∈ ts := by rw [← h1, List.getD, List.getElem?_eq_getElem hk]; exact List.getElem_mem hk
  refine ⟨?_, (isB_iff _ _).2 hm⟩
  rw [fnd, if_pos ((isB_iff _ _).2 hm)]
  have h2 := idx_get hm
  have h3 := idx_lt hm
  have h4 : ts.getD (idx ts t) ⟨#[]⟩ = t := by simp [List.getD, h2]
  have h5 : ¬ idx ts t < k := fun c => h0 _ c h4
  have h6 : ∀ (l : List ByteArray) (j : Nat), j < l.length → l.getD j ⟨#[]⟩ = t → idx l t ≤ j := by
    intro l
    induction l with
    | nil => intro j hj; cases hj
    | cons a l ih =>
      intro j hj he
      by_cases ha : a = t
      · simp [idx, ha]
      · cases j with
        | zero => simp at he; exact absurd he ha
        | succ j =>
          have := ih j (by simpa using hj) (by simpa using he)
          simp [idx, ha]; omega
  have := h6 ts k hk h1
  omega
theorem fnd_out {ts : List ByteArray} {t : ByteArray} (h0 : ∀ j, j < ts.length → ts.getD j ⟨#[]⟩ ≠ t) : fnd ts t = 0 ∧ isB ts t = false := by
  have hm : t ∉ ts := by
    intro c
    obtain ⟨j, hj, e⟩ := List.getElem_of_mem c
    exact h0 j hj (by simp [List.getD, hj, e])
  have := (isB_not _ _).2 hm
  exact ⟨by rw [fnd, this]; rfl, this⟩

theorem str_eq {s t : ByteArray} (h : (s.toList == t.toList) = true) : s = t := by
  have h1 : s.toList = t.toList := by simpa using h
  obtain ⟨⟨a⟩⟩ := s
  obtain ⟨⟨b⟩⟩ := t
  rw [ByteArray.toList_mk, ByteArray.toList_mk] at h1
  exact congrArg (fun l => (⟨⟨l⟩⟩ : ByteArray)) h1
theorem str_ne {s t : ByteArray} (h : (s.toList == t.toList) = false) : s ≠ t := by
  rintro rfl
  simp at h

set_option maxHeartbeats 1000000 in
set_option maxRecDepth 100000 in
theorem rfind (p : Nat) (most : Int) (ts : List ByteArray) (t : ByteArray) (w : World) (F : List Nat) (h : refA p most ts w F) :
    Calls Tryd.prog 30 #[.pointer (some ⟨p, 0, none⟩), .string t] w fun e w' => e = .returned (.tuple #[.int .i64 (fnd ts t), .bool (isB ts t)]) ∧ w = w' := by
  obtain ⟨v, hb, rfl⟩ := h
  have hl := hb.lm
  have h2 := hb.m2
  have c1 := hb.c1
  have hcell : ∀ k, k < ts.length → ∃ g cap, v = .slice (some ⟨g, 0, none⟩) ts.length cap ∧ w.cell? ⟨g, k, none⟩ = some (.string (ts.getD k ⟨#[]⟩)) := fun k hk => rowS_some hb.row hk
  obtain ⟨ao, cap, rfl⟩ := rowS_shape hb.row
  have Hcell := Lib.hid hcell
  clear hb hcell
  go_enter Tryd.func30, Tryd.ntmps30
  go_wp2
  go_loop [6] (fun i => ∃ k : Nat, k ≤ ts.length ∧ i = .int .i64 k ∧ ∀ j, j < k → ts.getD j ⟨#[]⟩ ≠ t) (fun i => ts.length - (intOf i).toNat)
  case atStart => exact ⟨0, Nat.zero_le _, rfl, fun j hj => by cases hj⟩
  case round =>
    obtain ⟨k, hk, rfl, hno⟩ := hrel
    have Hno := Lib.hid hno
    clear hno
    by_cases hlt : k < ts.length
    · obtain ⟨g, cap', hv, hc⟩ := Hcell.out k hlt
      obtain ⟨rfl, rfl⟩ : ao = some ⟨g, 0, none⟩ ∧ cap = cap' := by simpa using hv
      clear hv
      obtain ⟨s, hs⟩ : ∃ s, ts.getD k ⟨#[]⟩ = s := ⟨_, rfl⟩
      rw [hs] at hc
      have Hs := Lib.hid hs
      clear hs
      go_wp2
      · have hm := str_eq (by assumption : (s.toList == t.toList) = true)
        go_ret2
        obtain ⟨f1, f2⟩ := fnd_in hlt Hno.out (Hs.out.trans hm)
        rw [f1, f2]
        exact ⟨rfl, rfl⟩
      · have hm := str_ne (by assumption : (s.toList == t.toList) = false)
        go_round
        case rel => exact ⟨k + 1, by omega, by go_num, fun j hj => by
          by_cases e : j = k
          · subst e; rw [Hs.out]; exact hm
          · exact Hno.out j (by omega)⟩
        case measure => simp [intOf]; omega
    · have Hk := Lib.hid (Nat.le_antisymm hk (by omega))
      go_wp2
      go_ret2
      obtain ⟨f1, f2⟩ := fnd_out (t := t) (ts := ts) (fun j hj => Hno.out j (by rw [Hk.out]; exact hj))
      rw [f1, f2]
      exact ⟨rfl, rfl⟩

theorem ret_pair {a b : Int} {v : Value} (h : a = b) : Ending.returned (.tuple #[.int .i64 a, v]) = .returned (.tuple #[.int .i64 b, v]) := by rw [h]
theorem grown_drewN {w w1 w2 : World} {n : Nat} {o : Obj} {row : Option Nat} (e : w1 = (w.drewN n).alloc o) (h : w1.grownBy w2 row) : w.grownBy w2 row := by
  subst e
  have g := (World.grownBy_alloc (w.drewN n) o row).trans h
  exact ⟨g.os, g.tape, g.output, g.size, g.block⟩
theorem RefIn.grew {w w2 : World} {p : Nat} {most : Int} {ts : List ByteArray} {v : Value} (h : RefIn w p most ts v) (hg : w.grownBy w2 v.ownBlock) :
    w2.cell? ⟨p, 0, none⟩ = some (.int .i64 most) ∧ w2.cell? ⟨p, 1, none⟩ = some v ∧ w2.frozen? ⟨p, 1, none⟩ = false := by
  have hp : w2.heap[p]? = w.heap[p]? := hg.block p (World.block_lt_of_cell? w ⟨p, 0, none⟩ h.c0) (fun e => h.pv e.symm)
  refine ⟨?_, ?_, ?_⟩
  · rw [World.cell?_of_block (w := w) hp]; exact h.c0
  · rw [World.cell?_of_block (w := w) hp]; exact h.c1
  · rw [World.frozen?_of_block (w := w) hp]; exact h.f1
theorem RefIn.added {w w2 : World} {p : Nat} {most : Int} {ts : List ByteArray} {ao ao2 : Option Addr} {cap cap2 : Nat} {t : ByteArray} {F : List Nat} (h : RefIn w p most ts (.slice ao ts.length cap)) (hF : F = p :: (Value.slice ao ts.length cap).ownBlock.toList) (hg : w.grownBy w2 (Value.slice ao ts.length cap).ownBlock)
    (hr : rowS w2 (.slice ao2 (ts.length + 1) cap2) (ts ++ [t])) (hl : (ts.length : Int) < most) (hloc : (Value.slice ao2 (ts.length + 1) cap2).ownBlock = (Value.slice ao ts.length cap).ownBlock ∨ ∃ k, w.heap.size ≤ k ∧ (Value.slice ao2 (ts.length + 1) cap2).ownBlock = some k) :
    Becomes F (refA p most (ts ++ [t])) w (w2.setCell ⟨p, 1, none⟩ (.slice ao2 (ts.length + 1) cap2)) := by
  obtain ⟨d0, d1, df⟩ := h.grew hg
  have hpl := h.lt p (by simp)
  have hn1 : (Value.slice ao2 (ts.length + 1) cap2).ownBlock ≠ some p := by
    rcases hloc with e | ⟨k, hk, e⟩
    · rw [e]; exact h.pv
    · rw [e]; simp; omega
  subst hF
  refine ⟨_, ⟨_, { c0 := ?_, c1 := ?_, f1 := ?_, row := ?_, lm := by simp; omega, m1 := h.m1, m2 := h.m2, pv := hn1 }, rfl⟩, ?_, ?_⟩
  · rw [World.cell?_setCell_other _ _ _ _ (by simp)]; exact d0
  · exact World.cell?_setCell_same' _ _ _ (by rw [d1]; rfl)
  · rw [World.frozen?_setCell]; exact df
  · exact ownsRow_setCell_other hr hn1 _
  · refine ((Tn.refl _ _).grown hg (fun k hk => ?_)).setCell (.inl (by simp)) _
    exact .inl (List.mem_cons_of_mem _ (Option.mem_toList.2 hk))
  · intro k hk
    simp at hk
    rcases hk with rfl | hk
    · left; simp
    · rcases hloc with e | ⟨j, hj, e⟩
      · rw [e] at hk; exact .inl (List.mem_cons_of_mem _ (Option.mem_toList.2 hk))
      · rw [e] at hk; simp at hk; right; omega

set_option maxHeartbeats 2000000 in
set_option maxRecDepth 100000 in
theorem rname (p : Nat) (most : Int) (ts : List ByteArray) (t : ByteArray) (w : World) (F : List Nat) (h : refA p most ts w F) (ht : t.size ≤ maxLen) :
    Calls Tryd.prog 22 #[.pointer (some ⟨p, 0, none⟩), .string t] w fun e w' => e = .returned (.tuple #[.int .i64 (nmX most ts t), .int .i64 (nmE most ts t)]) ∧ Becomes F (refA p most (nmT most ts t)) w w' := by
  unfold maxLen at ht
  by_cases hk : okT t = true
  · obtain ⟨hts1, hts2⟩ := (okT_iff _).1 hk
    have hsame := fun (w' : World) => refA_same (w' := w') h
    have hf := rfind p most ts t w F h
    obtain ⟨v, hb, hF⟩ := h
    have c0 := hb.c0
    have c1 := hb.c1
    have f1 := hb.f1
    obtain ⟨ao, cap, hv⟩ := rowS_shape hb.row
    subst hv
    have hml := hb.m2
    have hll := hb.lm
    have HF := Lib.hid hF
    by_cases his : isB ts t = true
    · rw [show nmX most ts t = fnd ts t by unfold nmX fnd; rw [if_pos hk, if_pos his, if_pos his], show nmE most ts t = 0 by unfold nmE; rw [if_pos hk, if_pos his], show nmT most ts t = ts by unfold nmT; rw [if_pos hk, if_pos his]]
      rw [his] at hf
      have Hf := Lib.hid hf
      have Hs := Lib.hid hsame
      clear hF hk his hb hf hsame
      go_enter Tryd.func22, Tryd.ntmps22
      go_wp2_with (go_at_call 30; (with_reducible refine Hf.out.mono ?_); rintro e w1 ⟨rfl, rfl⟩)
      go_ret2
      exact ⟨rfl, Hs.out _ (Below.refl _ _)⟩
    · have his' : isB ts t = false := by simpa using his
      have hn := (isB_not _ _).1 his'
      rw [his'] at hf
      have Hf := Lib.hid hf
      by_cases hl : (ts.length : Int) < most
      · rw [show nmX most ts t = ((ts.length : Nat) : Int) by unfold nmX; rw [if_pos hk, if_neg his, if_pos hl], show nmE most ts t = 0 by unfold nmE; rw [if_pos hk, if_neg his, if_pos hl], show nmT most ts t = ts ++ [t] by unfold nmT; rw [if_pos hk, if_neg his, if_pos hl]]
        have hl' : ¬ (ts.length : Int) ≥ most := by omega
        obtain ⟨i, hi, hz0, hz1, hz2⟩ := info_parts infoS
        have hrow := hb.row
        have Hb := Lib.hid hb
        have hplt := hb.lt p (by simp)
        have hpv := hb.pv
        have hm1 := hb.m1
        clear hF hk his his' hb hf hsame
        go_enter Tryd.func22, Tryd.ntmps22
        go_wp2_with (go_at_call 30; (with_reducible refine Hf.out.mono ?_); rintro e w1 ⟨rfl, rfl⟩)
        go_quiet (fail)
        go_wp2_with (first
          | (at_builtin; refine wpList_append_own_at _ rfl _ _ 22 rfl 0 9 i (.string ⟨#[]⟩) 1 16 Tryd.underlying22 hi hz0 hz1 hz2 rfl (by decide) _ ts.length _ rfl ((show rowS _ _ _ from rowS_on hrow (fun _ _ => rfl)).alloc _) ⟨w.heap.size, 0, none⟩ 1 1 [.string t] rfl rfl (cell_one_new _ _ _) (by intro u hu; simp at hu; subst hu; rfl) (by unfold maxLen; omega) (by omega) (Nat.zero_le _) ?_; intro v' w2 hrow2 hgrow2 _ hloc; have hgg := grown_drewN rfl hgrow2; obtain ⟨d0, d1, df⟩ := Hb.out.grew hgg; have hr2 : rowS w2 v' (ts ++ [t]) := (by unfold rowS; rw [List.length_append, List.map_append]; exact hrow2); obtain ⟨ao2, cap2, hv2⟩ := rowS_shape hr2; rw [hv2]))
        have hv3 : v' = .slice ao2 (ts.length + 1) cap2 := by simpa using hv2
        rw [hv3] at hr2 hloc
        have hloc' : (Value.slice ao2 (ts.length + 1) cap2).ownBlock = (Value.slice ao ts.length cap).ownBlock ∨ ∃ k, w.heap.size ≤ k ∧ (Value.slice ao2 (ts.length + 1) cap2).ownBlock = some k := by
          rcases hloc with e | e
          · exact .inl e
          · exact .inr ⟨_, by simp, e⟩
        have hb4 := Hb.out.added HF.out hgg hr2 hl hloc'
        clear hloc hloc' hr2 hgg hgrow2 hrow2
        go_wp2
        go_ret2
        exact ⟨ret_pair (by simp), hb4⟩
      · rw [show nmX most ts t = 0 by unfold nmX; rw [if_pos hk, if_neg his, if_neg hl], show nmE most ts t = 201 by unfold nmE; rw [if_pos hk, if_neg his, if_neg hl], show nmT most ts t = ts by unfold nmT; rw [if_pos hk, if_neg his, if_neg hl]]
        have hl' : (ts.length : Int) ≥ most := by omega
        have Hs := Lib.hid hsame
        clear hF hk his his' hb hf hsame hl
        go_enter Tryd.func22, Tryd.ntmps22
        go_wp2_with (go_at_call 30; (with_reducible refine Hf.out.mono ?_); rintro e w1 ⟨rfl, rfl⟩)
        go_quiet (fail)
        go_wp2
        go_ret2
        exact ⟨rfl, Hs.out _ (below_drewN _ _)⟩
  · have hsame := refA_same h (Below.refl _ _)
    rw [show nmX most ts t = 0 by unfold nmX; rw [if_neg hk], show nmE most ts t = 200 by unfold nmE; rw [if_neg hk], show nmT most ts t = ts by unfold nmT; rw [if_neg hk]]
    have hts : t.size < 1 ∨ 512 < t.size := by
      have h1 : ¬ (1 ≤ t.size ∧ t.size ≤ 512) := fun c => hk ((okT_iff _).2 c)
      omega
    clear hk h
    rcases hts with h0 | h0
    · go_enter Tryd.func22, Tryd.ntmps22
      go_wp2
      go_ret2
      exact ⟨rfl, hsame⟩
    · have h1 : ¬ t.size < 1 := by omega
      go_enter Tryd.func22, Tryd.ntmps22
      go_wp2
      go_ret2
      exact ⟨rfl, hsame⟩
end Go.Proofs.YtcakipojmkehgaaDoor

namespace Go.Proofs.YtcakipojmkehgaaDoor
open Go Go.RowKit Go.Maps

abbrev pt (p : Nat) : Value := .pointer (some ⟨p, 0, none⟩)
theorem dname (p : Nat) (most : Int) (ts : List ByteArray) (t : ByteArray) (ht : t.size ≤ maxLen) : Does Tryd.prog (bookA p most ts) 19 #[.pointer (some ⟨p, 0, none⟩), .string t] (.returned (.tuple #[.int .i64 (nmX most ts t), .int .i64 (nmE most ts t)])) (bookA p most (nmT most ts t)) :=
  fun w F h => bname p most ts t w F h ht
theorem dfind (p : Nat) (most : Int) (ts : List ByteArray) (t : ByteArray) (ht : t.size ≤ maxLen) : Does Tryd.prog (bookA p most ts) 17 #[.pointer (some ⟨p, 0, none⟩), .string t] (.returned (.tuple #[.int .i64 (fnd ts t), .bool (isB ts t)])) (bookA p most ts) := by
  intro w F h
  refine (bfind p most ts t w F h ht).mono ?_
  rintro e w' ⟨he, rfl⟩
  exact ⟨he, Becomes.same (bookA_good _ _ _) h (Below.refl _ _)⟩
theorem dterm (p : Nat) (most : Int) (ts : List ByteArray) (n : Int) : Does Tryd.prog (bookA p most ts) 33 #[.pointer (some ⟨p, 0, none⟩), .int .i64 n] (.returned (.tuple #[.string (tmS ts n), .int .i64 (tmE ts n)])) (bookA p most ts) := by
  intro w F h
  refine (bterm p most ts n w F h).mono ?_
  rintro e w' ⟨he, hb⟩
  exact ⟨he, Becomes.same (bookA_good _ _ _) h hb⟩
theorem dlen (p : Nat) (most : Int) (ts : List ByteArray) : Does Tryd.prog (bookA p most ts) 16 #[.pointer (some ⟨p, 0, none⟩)] (.returned (.int .i64 ((ts.length : Nat) : Int))) (bookA p most ts) := by
  intro w F h
  refine (blen p most ts w F h).mono ?_
  rintro e w' ⟨he, rfl⟩
  exact ⟨he, Becomes.same (bookA_good _ _ _) h (Below.refl _ _)⟩
theorem drname (p : Nat) (most : Int) (ts : List ByteArray) (t : ByteArray) (ht : t.size ≤ maxLen) : Does Tryd.prog (refA p most ts) 22 #[.pointer (some ⟨p, 0, none⟩), .string t] (.returned (.tuple #[.int .i64 (nmX most ts t), .int .i64 (nmE most ts t)])) (refA p most (nmT most ts t)) :=
  fun w F h => rname p most ts t w F h ht
theorem drfind (p : Nat) (most : Int) (ts : List ByteArray) (t : ByteArray) : Does Tryd.prog (refA p most ts) 30 #[.pointer (some ⟨p, 0, none⟩), .string t] (.returned (.tuple #[.int .i64 (fnd ts t), .bool (isB ts t)])) (refA p most ts) := by
  intro w F h
  refine (rfind p most ts t w F h).mono ?_
  rintro e w' ⟨he, rfl⟩
  exact ⟨he, Becomes.same (refA_good _ _ _) h (Below.refl _ _)⟩
theorem drterm (p : Nat) (most : Int) (ts : List ByteArray) (n : Int) : Does Tryd.prog (refA p most ts) 49 #[.pointer (some ⟨p, 0, none⟩), .int .i64 n] (.returned (.tuple #[.string (tmS ts n), .int .i64 (tmE ts n)])) (refA p most ts) := by
  intro w F h
  refine (rbterm p most ts n w F h).mono ?_
  rintro e w' ⟨he, rfl⟩
  exact ⟨he, Becomes.same (refA_good _ _ _) h (Below.refl _ _)⟩



end Go.Proofs.YtcakipojmkehgaaDoor

namespace Go.Proofs.YtcakipojmkehgaaDoor
open Go Go.RowKit Go.Maps

/-- A row of strings that came in: so many, each in its cell. -/
structure SArg (w : World) (ao : Option Addr) (ss : List ByteArray) : Prop where
  cell : ∀ j, j < ss.length → ∃ b off, ao = some ⟨b, off, none⟩ ∧ w.cell? ⟨b, off + j, none⟩ = some (.string (ss.getD j ⟨#[]⟩))
  size : ∀ j, j < ss.length → (ss.getD j ⟨#[]⟩).size ≤ maxLen
  few : ss.length ≤ 8796093022207
theorem SArg.at {w : World} {ao : Option Addr} {ss : List ByteArray} (h : SArg w ao ss) {k : Nat} (hk : k < ss.length) :
    ∃ b off s, ao = some ⟨b, off, none⟩ ∧ ss.getD k ⟨#[]⟩ = s ∧ s.size ≤ maxLen ∧ ∀ W, Below w.heap.size w W → W.cell? ⟨b, off + k, none⟩ = some (.string s) := by
  obtain ⟨b, off, e, hc⟩ := h.cell k hk
  refine ⟨b, off, _, e, rfl, h.size k hk, fun W hW => ?_⟩
  have hlt := World.block_lt_of_cell? w ⟨b, off + k, none⟩ hc
  rw [World.cell?_of_block (w := w) (hW.block b hlt)]; exact hc
theorem SArg.below {w w' : World} {ao : Option Addr} {ss : List ByteArray} (h : SArg w ao ss) (hb : Below w.heap.size w w') : SArg w' ao ss := by
  refine ⟨fun j hj => ?_, h.size, h.few⟩
  obtain ⟨b, off, s, e, hs, _, hW⟩ := h.at hj
  exact ⟨b, off, e, by rw [hs]; exact hW _ hb⟩

abbrev two (p q : Nat) (most : Int) (ts : List ByteArray) : Ass := (refA q most ts).star ((bookA p most ts).star emp)
theorem good1 (p : Nat) (most : Int) (ts : List ByteArray) : ((bookA p most ts).star emp).Good := (bookA_good _ _ _).star emp_good
theorem two_good (p q : Nat) (most : Int) (ts : List ByteArray) : (two p q most ts).Good := (refA_good _ _ _).star (good1 _ _ _)
end Go.Proofs.YtcakipojmkehgaaDoor

namespace Go.Proofs.YtcakipojmkehgaaDoor
open Go Go.RowKit Go.Maps

theorem rmade (p : Nat) (most : Int) (ts : List ByteArray) (t : ByteArray) (w : World) (F : List Nat) (h : refA p most ts w F) (ht : t.size ≤ maxLen) :
    Calls Tryd.prog 45 #[.pointer (some ⟨p, 0, none⟩), .string t] w fun e w' => e = .returned (.tuple #[.int .i64 (ckX most ts true t), .int .i64 (ckE most ts true t)]) ∧ Becomes F (refA p most (nmT most ts t)) w w' := by
  have hn := rname p most ts t w F h ht
  by_cases he : nmE most ts t = 0
  · obtain ⟨k1, k2⟩ := ckX_ok (most := most) (ts := ts) he
    rw [k1, k2]
    rw [he] at hn
    generalize nmX most ts t = x at *
    generalize nmT most ts t = ts' at *
    have HN := Lib.hid hn
    clear hn he k1 k2 h
    go_enter Tryd.func45, Tryd.ntmps45
    go_wp2_with (go_at_call 22; (with_reducible refine HN.out.mono ?_); rintro e w1 ⟨rfl, hbec⟩)
    go_ret2
    exact ⟨rfl, hbec⟩
  · obtain ⟨k1, k2⟩ := ckX_bad (most := most) (ts := ts) (ok := true) (t := t) (.inr he)
    rw [k1, k2]
    rw [nmE_X he] at hn
    have he' : (nmE most ts t == 0) = false := by simpa using he
    generalize nmE most ts t = ee at *
    generalize nmT most ts t = ts' at *
    have HN := Lib.hid hn
    clear hn k1 k2 h
    go_enter Tryd.func45, Tryd.ntmps45
    go_wp2_with (go_at_call 22; (with_reducible refine HN.out.mono ?_); rintro e w1 ⟨rfl, hbec⟩)
    go_ret2
    exact ⟨rfl, hbec⟩

theorem refA_becomes_pre {F : List Nat} {A : Ass} {w w1 w' : World} (hb : Below w.heap.size w w1) (h : Becomes F A w1 w') : Becomes F A w w' := by
  obtain ⟨F', g1, g2, g3⟩ := h
  exact ⟨F', g1, (Tn.ofBelow hb F).trans g2 (fun x hx => .inl hx), fun k hk => (g3 k hk).imp id (fun e => Nat.le_trans hb.size e)⟩

theorem rnums1 (k : Int) (w : World) (h0 : -9223372036854775808 ≤ k) (h1 : k ≤ 9223372036854775807) (t : Nat) :
    Calls Tryd.prog 18 #[.slice (some ⟨w.heap.size, 0, none⟩) 1 1] (w.alloc (.cells #[.int .i64 k] t)) fun e w' => e = .returned (.string (numS k)) ∧ Below w.heap.size w w' := by
  have hb0 : Below w.heap.size w (w.alloc (.cells #[.int .i64 k] t)) := (Below.refl _ _).alloc (Nat.le_refl _) _
  have e0 : ∀ j, j < 1 → j = 0 := fun j hj => by omega
  have := rnums [k] w.heap.size 1 (w.alloc (.cells #[.int .i64 k] t)) rfl (by omega) (fun j hj => by rw [e0 j hj]; simp) (fun j hj => by rw [e0 j hj]; exact ⟨h0, h1⟩) (by simp)
  rw [show numsB [k] = numS k from ba_nil _] at this
  exact this.mono fun e w' ⟨a, b⟩ => ⟨a, hb0.trans (b.mono hb0.size)⟩

theorem dratom (p : Nat) (most : Int) (ts : List ByteArray) (s : ByteArray) (hs : s.size ≤ 9223372036854770000) : Does Tryd.prog (refA p most ts) 43 #[.pointer (some ⟨p, 0, none⟩), .string s] (.returned (.tuple #[.int .i64 (ckX most ts (okK none) (tmK cA none s)), .int .i64 (ckE most ts (okK none) (tmK cA none s))])) (refA p most (ckT most ts (okK none) (tmK cA none s))) := by
  intro w F h
  have hsz : (tmK cA none s).size ≤ maxLen := by rw [tmK_size]; have : (hdK cA none).size = 1 := rfl; unfold maxLen; omega
  have hn := rmade p most ts (tmK cA none s) w F h hsz
  rw [show okK none = true from rfl, show ckT most ts true (tmK cA none s) = nmT most ts (tmK cA none s) from rfl]
  generalize ckX most ts true (tmK cA none s) = x at *
  generalize ckE most ts true (tmK cA none s) = y at *
  generalize nmT most ts (tmK cA none s) = ts' at *
  rw [show tmK cA none s = ⟨#[65]⟩ ++ s from rfl] at hn
  have HN := Lib.hid hn
  clear hn h hsz
  go_enter Tryd.func43, Tryd.ntmps43
  go_wp2_with (go_at_call 45; (with_reducible refine HN.out.mono ?_); rintro e w1 ⟨rfl, hbec⟩)
  go_ret2
  exact ⟨rfl, hbec⟩

theorem drseal (p : Nat) (most : Int) (ts : List ByteArray) (key : Int) (s : ByteArray) (hs : s.size ≤ 9223372036854770000) (k0 : -9223372036854775808 ≤ key) (k1 : key ≤ 9223372036854775807) : Does Tryd.prog (refA p most ts) 27 #[.pointer (some ⟨p, 0, none⟩), .int .i64 key, .string s] (.returned (.tuple #[.int .i64 (ckX most ts (okK (some key)) (tmK cS (some key) s)), .int .i64 (ckE most ts (okK (some key)) (tmK cS (some key) s))])) (refA p most (ckT most ts (okK (some key)) (tmK cS (some key) s))) := by
  intro w F h
  have hsz5 := numS_size5 key
  have hsz : (tmK cS (some key) s).size ≤ maxLen := by rw [tmK_size]; have := (hdK_size (c := cS) rfl (some key)).2; unfold maxLen; omega
  have hg := refA_good p most ts
  have hk := rnum0 key
  have hnn := fun w => rnums1 key w k0 k1 3
  have HS := Lib.hid (fun w' => refA_same (w' := w') h)
  by_cases hok : okNum key = true
  · have hn : ∀ w1, Below w.heap.size w w1 → Calls Tryd.prog 45 #[.pointer (some ⟨p, 0, none⟩), .string (tmK cS (some key) s)] w1 fun e w' => e = .returned (.tuple #[.int .i64 (ckX most ts true (tmK cS (some key) s)), .int .i64 (ckE most ts true (tmK cS (some key) s))]) ∧ Becomes F (refA p most (nmT most ts (tmK cS (some key) s))) w w' := fun w1 hb1 =>
      (rmade p most ts (tmK cS (some key) s) w1 F (hg.below h hb1) hsz).mono fun e w' ⟨a, b⟩ => ⟨a, refA_becomes_pre hb1 b⟩
    rw [show okK (some key) = true from hok, show ckT most ts true (tmK cS (some key) s) = nmT most ts (tmK cS (some key) s) from rfl]
    rw [hok] at hk
    generalize ckX most ts true (tmK cS (some key) s) = x at *
    generalize ckE most ts true (tmK cS (some key) s) = y at *
    generalize nmT most ts (tmK cS (some key) s) = ts' at *
    rw [show tmK cS (some key) s = ⟨#[83]⟩ ++ numS key ++ s from rfl] at hn
    have HK := Lib.hid hk
    have HN := Lib.hid hn
    have HNN := Lib.hid hnn
    clear hn hk hnn h hg hok hsz
    go_enter Tryd.func27, Tryd.ntmps27
    go_wp2_with (first
      | (go_at_call 44; (with_reducible refine (HK.out _).mono ?_); rintro e w1 ⟨rfl, rfl⟩)
      | (go_at_call 18; (with_reducible refine (HNN.out _).mono ?_); rintro e w1 ⟨rfl, hb⟩)
      | (go_at_call 45; (with_reducible refine (HN.out _ (by assumption)).mono ?_); rintro e w1 ⟨rfl, hbec⟩))
    go_ret2
    exact ⟨rfl, hbec⟩
  · have hok' : okNum key = false := by simpa using hok
    obtain ⟨k5, k6⟩ := ckX_bad (most := most) (ts := ts) (ok := okK (some key)) (t := (tmK cS (some key) s)) (.inl hok')
    rw [k5, k6, show ckT most ts (okK (some key)) (tmK cS (some key) s) = ts by unfold ckT; rw [show okK (some key) = false from hok']; rfl]
    rw [hok'] at hk
    have HK := Lib.hid hk
    clear hk hnn h hg hok hok' hsz k5 k6
    go_enter Tryd.func27, Tryd.ntmps27
    go_wp2_with (go_at_call 44; (with_reducible refine (HK.out _).mono ?_); rintro e w1 ⟨rfl, rfl⟩)
    go_ret2
    exact ⟨rfl, HS.out _ (Below.refl _ _)⟩

/-- The reference's Open. -/
theorem dropen (p : Nat) (most : Int) (ts : List ByteArray) (key tag : Int) (k0 : -9223372036854775808 ≤ key) (k1 : key ≤ 9223372036854775807) : Does Tryd.prog (refA p most ts) 31 #[.pointer (some ⟨p, 0, none⟩), .int .i64 key, .int .i64 tag] (.returned (.tuple #[.string (opS ts key tag), .int .i64 (opE ts key tag)])) (refA p most ts) := by
  intro w F h
  have hsz5 := numS_size5 key
  have ht := rbterm p most ts tag w F h
  have hk := rnum0 key
  have HNN := Lib.hid (fun w => rnums1 key w k0 k1 3)
  have HS := Lib.hid (fun w' => refA_same (w' := w') h)
  have hhz : (cS ++ numS key).size = 1 + (numS key).size := by rw [ByteArray.size_append]; rfl
  have hval : (opB ts key tag = true → opS ts key tag = (tmS ts tag).extract (1 + (numS key).size) (tmS ts tag).size ∧ opE ts key tag = 0) ∧ (opB ts key tag = false → opS ts key tag = ⟨#[]⟩ ∧ opE ts key tag = 301) := by
    unfold opS opE
    rw [hhz]
    exact ⟨fun e => by rw [e]; exact ⟨rfl, rfl⟩, fun e => by rw [e]; exact ⟨rfl, rfl⟩⟩
  have hop : opB ts key tag = (okNum key && decide (tmE ts tag = 0) && (decide (1 + (numS key).size ≤ (tmS ts tag).size) && (((tmS ts tag).extract 0 (1 + (numS key).size)).toList == (⟨#[83]⟩ ++ numS key).toList))) := by
    unfold opB; rw [pfx_ref, hhz]; rfl
  clear hhz
  generalize opS ts key tag = os at *
  generalize opE ts key tag = oe at *
  generalize opB ts key tag = ob at *
  generalize tmS ts tag = t at *
  generalize tmE ts tag = te at *
  clear h
  have HT := Lib.hid ht
  clear ht
  by_cases he : te = 0
  · subst he
    by_cases hok : okNum key = true
    · rw [hok] at hk
      have HK := Lib.hid hk
      clear hk
      by_cases hs : 1 + (numS key).size ≤ t.size
      · have hds : decide ((t.size : Int) < 1 + ((numS key).size : Int)) = false := by simp; omega
        by_cases hq : ((t.extract 0 (1 + (numS key).size)).toList == (⟨#[83]⟩ ++ numS key).toList) = true
        · have hob : ob = true := by rw [hop, hok, hq]; simp [hs]
          obtain ⟨rfl, rfl⟩ := hval.1 hob
          clear hval hop hok hob
          go_enter Tryd.func31, Tryd.ntmps31
          go_wp2_with (first
            | (go_at_call 44; (with_reducible refine (HK.out _).mono ?_); rintro e w1 ⟨rfl, rfl⟩)
            | (go_at_call 18; (with_reducible refine (HNN.out _).mono ?_); rintro e w1 ⟨rfl, hb⟩)
            | (go_at_call 49; (with_reducible refine HT.out.mono ?_); rintro e w1 ⟨rfl, rfl⟩))
          go_ret2
          exact ⟨rfl, HS.out _ hb⟩
        · have hq' : ((t.extract 0 (1 + (numS key).size)).toList == (⟨#[83]⟩ ++ numS key).toList) = false := by simpa using hq
          have hob : ob = false := by rw [hop, hok, hq']; simp
          obtain ⟨rfl, rfl⟩ := hval.2 hob
          clear hval hop hok hob hq
          go_enter Tryd.func31, Tryd.ntmps31
          go_wp2_with (first
            | (go_at_call 44; (with_reducible refine (HK.out _).mono ?_); rintro e w1 ⟨rfl, rfl⟩)
            | (go_at_call 18; (with_reducible refine (HNN.out _).mono ?_); rintro e w1 ⟨rfl, hb⟩)
            | (go_at_call 49; (with_reducible refine HT.out.mono ?_); rintro e w1 ⟨rfl, rfl⟩))
          go_ret2
          exact ⟨rfl, HS.out _ hb⟩
      · have hds : decide ((t.size : Int) < 1 + ((numS key).size : Int)) = true := by simp; omega
        have hob : ob = false := by rw [hop]; simp [hs]
        obtain ⟨rfl, rfl⟩ := hval.2 hob
        clear hval hop hok hob
        go_enter Tryd.func31, Tryd.ntmps31
        go_wp2_with (first
          | (go_at_call 44; (with_reducible refine (HK.out _).mono ?_); rintro e w1 ⟨rfl, rfl⟩)
          | (go_at_call 18; (with_reducible refine (HNN.out _).mono ?_); rintro e w1 ⟨rfl, hb⟩)
          | (go_at_call 49; (with_reducible refine HT.out.mono ?_); rintro e w1 ⟨rfl, rfl⟩))
        go_ret2
        exact ⟨rfl, HS.out _ hb⟩
    · have hok' : okNum key = false := by simpa using hok
      rw [hok'] at hk
      have HK := Lib.hid hk
      have hob : ob = false := by rw [hop, hok']; rfl
      obtain ⟨rfl, rfl⟩ := hval.2 hob
      clear hval hop hok hok' hob hk
      go_enter Tryd.func31, Tryd.ntmps31
      go_wp2_with (first
        | (go_at_call 44; (with_reducible refine (HK.out _).mono ?_); rintro e w1 ⟨rfl, rfl⟩)
        | (go_at_call 18; (with_reducible refine (HNN.out _).mono ?_); rintro e w1 ⟨rfl, hb⟩)
        | (go_at_call 49; (with_reducible refine HT.out.mono ?_); rintro e w1 ⟨rfl, rfl⟩))
      go_ret2
      exact ⟨rfl, HS.out _ hb⟩
  · have he' : (te == 0) = false := by simpa using he
    have he2 : (te != 0) = true := by simpa using he
    have hob : ob = false := by rw [hop]; simp [he]
    obtain ⟨rfl, rfl⟩ := hval.2 hob
    have HK := Lib.hid hk
    clear hval hop hob hk he
    go_enter Tryd.func31, Tryd.ntmps31
    go_wp2_with (first
      | (go_at_call 44; (with_reducible refine (HK.out _).mono ?_); rintro e w1 ⟨rfl, rfl⟩)
      | (go_at_call 18; (with_reducible refine (HNN.out _).mono ?_); rintro e w1 ⟨rfl, hb⟩)
      | (go_at_call 49; (with_reducible refine HT.out.mono ?_); rintro e w1 ⟨rfl, rfl⟩))
    go_ret2
    exact ⟨rfl, HS.out _ hb⟩
end Go.Proofs.YtcakipojmkehgaaDoor

namespace Go.Proofs.YtcakipojmkehgaaDoor
open Go Go.RowKit Go.Maps

/-- The keys that the makers come with. -/
def KeyIn (w : World) (v : Value) (ko : Option Int) : Prop :=
  (v = .slice none 0 0 ∧ ko = none) ∨ ∃ g k, v = .slice (some ⟨g, 0, none⟩) 1 1 ∧ ko = some k ∧ w.cell? ⟨g, 0, none⟩ = some (.int .i64 k) ∧ -9223372036854775808 ≤ k ∧ k ≤ 9223372036854775807
def hdA (c : ByteArray) (ko : Option Int) : ByteArray := if okK ko then hdK c ko else ⟨#[]⟩

theorem chead (c : ByteArray) (v : Value) (ko : Option Int) (w : World) (hc : c.size = 1) (hk : KeyIn w v ko) :
    Calls Tryd.prog 66 #[.string c, v] w fun e w' => e = .returned (.tuple #[.string (hdA c ko), .bool (okK ko)]) ∧ Below w.heap.size w w' := by
  rcases hk with ⟨rfl, rfl⟩ | ⟨g, k, rfl, rfl, hcell, h0, h1⟩
  · rw [show hdA c none = c from rfl, show okK none = true from rfl]
    go_enter Tryd.func66, Tryd.ntmps66
    go_wp2
    refine wp_loop_rounds 1 ?_
    rw [rounds_succ]
    go_wp2
    go_ret2
    exact ⟨rfl, Below.refl _ _⟩
  · have hn := numS_size5 k
    have Hn := Lib.hid (fun W => fnum k W h0 h1)
    by_cases hok : okNum k = true
    · rw [show hdA c (some k) = c ++ numS k by unfold hdA; rw [if_pos (show okK (some k) = true from hok)]; rfl, show okK (some k) = true from hok]
      have he : numE k = 0 := by unfold numE; rw [if_pos hok]
      rw [he] at Hn
      have HN := Lib.hid Hn.out
      clear Hn he hok
      go_enter Tryd.func66, Tryd.ntmps66
      go_wp2
      refine wp_loop_rounds 2 ?_
      rw [rounds_succ]
      go_wp2_with (go_at_call 53; (with_reducible refine (HN.out _).mono ?_); rintro e w1 ⟨rfl, hb⟩)
      rw [rounds_succ]
      go_wp2
      go_ret2
      exact ⟨rfl, hb⟩
    · have hok' : okNum k = false := by simpa using hok
      rw [show hdA c (some k) = ⟨#[]⟩ by unfold hdA; rw [show okK (some k) = false from hok']; rfl, show okK (some k) = false from hok']
      have he : numE k = 100 := by unfold numE; rw [if_neg hok]
      rw [he] at Hn
      have HN := Lib.hid Hn.out
      clear Hn he hok hok'
      go_enter Tryd.func66, Tryd.ntmps66
      go_wp2
      refine wp_loop_rounds 2 ?_
      rw [rounds_succ]
      go_wp2_with (go_at_call 53; (with_reducible refine (HN.out _).mono ?_); rintro e w1 ⟨rfl, hb⟩)
      go_ret2
      exact ⟨rfl, hb⟩

/-- What makeTerm answers. -/
def mkB (c : ByteArray) (ko : Option Int) (s : ByteArray) : Bool := okK ko && decide ((tmK c ko s).size ≤ 512)
def mkS (c : ByteArray) (ko : Option Int) (s : ByteArray) : ByteArray := if mkB c ko s then tmK c ko s else ⟨#[]⟩
theorem cmake (s c : ByteArray) (v : Value) (ko : Option Int) (w : World) (hc : c.size = 1) (hk : KeyIn w v ko) :
    Calls Tryd.prog 65 #[.string s, .string c, v] w fun e w' => e = .returned (.tuple #[.string (mkS c ko s), .bool (mkB c ko s)]) ∧ Below w.heap.size w w' := by
  have hh := chead c v ko w hc hk
  obtain ⟨hd1, hd2⟩ := hdK_size hc ko
  have hsz := tmK_size c ko s
  by_cases hok : okK ko = true
  · rw [hok, show hdA c ko = hdK c ko by unfold hdA; rw [if_pos hok]] at hh
    by_cases h5 : (tmK c ko s).size ≤ 512
    · have hb : mkB c ko s = true := by unfold mkB; rw [hok]; simpa using h5
      rw [show mkS c ko s = tmK c ko s by unfold mkS; rw [if_pos hb], hb, tmK]
      generalize hdK c ko = hd at *
      have HH := Lib.hid hh
      rw [hsz] at h5
      clear hh hok hb hsz
      go_enter Tryd.func65, Tryd.ntmps65
      go_wp2_with (go_at_call 66; (with_reducible refine HH.out.mono ?_); rintro e w1 ⟨rfl, hb⟩)
      go_ret2
      exact ⟨rfl, hb⟩
    · have hb : mkB c ko s = false := by unfold mkB; rw [hok]; simpa using h5
      rw [show mkS c ko s = ⟨#[]⟩ by unfold mkS; rw [hb]; rfl, hb]
      generalize hdK c ko = hd at *
      have HH := Lib.hid hh
      rw [hsz] at h5
      clear hh hok hb hsz
      go_enter Tryd.func65, Tryd.ntmps65
      go_wp2_with (go_at_call 66; (with_reducible refine HH.out.mono ?_); rintro e w1 ⟨rfl, hb⟩)
      go_ret2
      exact ⟨rfl, hb⟩
  · have hok' : okK ko = false := by simpa using hok
    have hb : mkB c ko s = false := by unfold mkB; rw [hok']; rfl
    rw [show mkS c ko s = ⟨#[]⟩ by unfold mkS; rw [hb]; rfl, hb]
    rw [hok', show hdA c ko = ⟨#[]⟩ by unfold hdA; rw [hok']; rfl] at hh
    have HH := Lib.hid hh
    clear hh hok hok' hb hsz
    go_enter Tryd.func65, Tryd.ntmps65
    go_wp2_with (go_at_call 66; (with_reducible refine HH.out.mono ?_); rintro e w1 ⟨rfl, hb⟩)
    go_ret2
    exact ⟨rfl, hb⟩

theorem Becomes.pre {F : List Nat} {A : Ass} {w w1 w' : World} (hb : Below w.heap.size w w1) (h : Becomes F A w1 w') : Becomes F A w w' := by
  obtain ⟨F', g1, g2, g3⟩ := h
  exact ⟨F', g1, (Tn.ofBelow hb F).trans g2 (fun x hx => .inl hx), fun k hk => (g3 k hk).imp id (fun e => Nat.le_trans hb.size e)⟩

theorem bookA_ok {p : Nat} {most : Int} {ts : List ByteArray} {w : World} {F : List Nat} (h : bookA p most ts w F) : ∀ t ∈ ts, okT t = true := by
  obtain ⟨_, _, _, hb, _⟩ := h; exact hb.ok

/-- craft.name. -/
theorem cname (p : Nat) (most : Int) (ts : List ByteArray) (s c : ByteArray) (v : Value) (ko : Option Int) (w : World) (F : List Nat) (hc : c.size = 1) (hk : KeyIn w v ko) (h : bookA p most ts w F) :
    Calls Tryd.prog 55 #[.pointer (some ⟨p, 0, none⟩), .string s, .string c, v] w fun e w' => e = .returned (.tuple #[.int .i64 (ckX most ts (okK ko) (tmK c ko s)), .int .i64 (ckE most ts (okK ko) (tmK c ko s))]) ∧ Becomes F (bookA p most (ckT most ts (okK ko) (tmK c ko s))) w w' := by
  have hm := cmake s c v ko w hc hk
  have hg := bookA_good p most ts
  by_cases hb : mkB c ko s = true
  · obtain ⟨hok, h5⟩ : okK ko = true ∧ (tmK c ko s).size ≤ 512 := by simpa [mkB] using hb
    rw [hb, show mkS c ko s = tmK c ko s by unfold mkS; rw [if_pos hb]] at hm
    rw [hok]
    generalize tmK c ko s = t at *
    have hn : ∀ w1, Below w.heap.size w w1 → Calls Tryd.prog 19 #[.pointer (some ⟨p, 0, none⟩), .string t] w1 fun e w' => e = .returned (.tuple #[.int .i64 (nmX most ts t), .int .i64 (nmE most ts t)]) ∧ Becomes F (bookA p most (nmT most ts t)) w w' := fun w1 hb1 =>
      (bname p most ts t w1 F (hg.below h hb1) (by unfold maxLen; omega)).mono fun e w' ⟨a, b⟩ => ⟨a, b.pre hb1⟩
    rw [show ckT most ts true t = nmT most ts t from rfl]
    by_cases he : nmE most ts t = 0
    · obtain ⟨k1, k2⟩ := ckX_ok (most := most) (ts := ts) he
      rw [k1, k2]
      rw [he] at hn
      generalize nmX most ts t = x at *
      generalize nmT most ts t = ts' at *
      have HM := Lib.hid hm
      have HN := Lib.hid hn
      clear hm hn hb hok he k1 k2 h hg hk
      go_enter Tryd.func55, Tryd.ntmps55
      go_wp2_with (first
        | (go_at_call 65; (with_reducible refine HM.out.mono ?_); rintro e w1 ⟨rfl, hb⟩)
        | (go_at_call 19; (with_reducible refine (HN.out _ (by assumption)).mono ?_); rintro e w1 ⟨rfl, hbec⟩))
      go_ret2
      exact ⟨rfl, hbec⟩
    · obtain ⟨k1, k2⟩ := ckX_bad (most := most) (ts := ts) (ok := true) (t := t) (.inr he)
      rw [k1, k2]
      rw [nmE_X he] at hn
      have he' : (nmE most ts t == 0) = false := by simpa using he
      generalize nmE most ts t = ee at *
      generalize nmT most ts t = ts' at *
      have HM := Lib.hid hm
      have HN := Lib.hid hn
      clear hm hn hb hok k1 k2 h hg hk
      go_enter Tryd.func55, Tryd.ntmps55
      go_wp2_with (first
        | (go_at_call 65; (with_reducible refine HM.out.mono ?_); rintro e w1 ⟨rfl, hb⟩)
        | (go_at_call 19; (with_reducible refine (HN.out _ (by assumption)).mono ?_); rintro e w1 ⟨rfl, hbec⟩))
      go_ret2
      exact ⟨rfl, hbec⟩
  · have hb' : mkB c ko s = false := by simpa using hb
    rw [hb', show mkS c ko s = ⟨#[]⟩ by unfold mkS; rw [hb']; rfl] at hm
    have hT : ckX most ts (okK ko) (tmK c ko s) = 0 ∧ ckE most ts (okK ko) (tmK c ko s) = 300 ∧ ckT most ts (okK ko) (tmK c ko s) = ts := by
      by_cases hok : okK ko = true
      · have h5 : 512 < (tmK c ko s).size := by
          unfold mkB at hb'; rw [hok] at hb'; simp at hb'; exact hb'
        obtain ⟨k1, k2⟩ := big_no (bookA_ok h) h5
        obtain ⟨k3, k4⟩ := big_nm most ts k1
        obtain ⟨k5, k6⟩ := ckX_bad (most := most) (ts := ts) (ok := okK ko) (t := tmK c ko s) (.inr (by rw [k3]; decide))
        exact ⟨k5, k6, by unfold ckT; rw [k4]; split <;> rfl⟩
      · have hok' : okK ko = false := by simpa using hok
        obtain ⟨k5, k6⟩ := ckX_bad (most := most) (ts := ts) (ok := okK ko) (t := tmK c ko s) (.inl hok')
        exact ⟨k5, k6, by unfold ckT; rw [hok']; rfl⟩
    obtain ⟨k1, k2, k3⟩ := hT
    rw [k1, k2, k3]
    have HS := Lib.hid (fun w' => bookA_same (w' := w') h)
    have HM := Lib.hid hm
    clear hm hb hb' k1 k2 k3 h hg hk
    go_enter Tryd.func55, Tryd.ntmps55
    go_wp2_with (go_at_call 65; (with_reducible refine HM.out.mono ?_); rintro e w1 ⟨rfl, hb⟩)
    go_ret2
    exact ⟨rfl, HS.out _ hb⟩

theorem key0 (w : World) : KeyIn w (.slice none 0 0) none := .inl ⟨rfl, rfl⟩
theorem key1 (w : World) (k : Int) (t : Nat) (h0 : -9223372036854775808 ≤ k) (h1 : k ≤ 9223372036854775807) : KeyIn (w.alloc (.cells #[.int .i64 k] t)) (.slice (some ⟨w.heap.size, 0, none⟩) 1 1) (some k) :=
  .inr ⟨_, k, rfl, rfl, by simp, h0, h1⟩

theorem datomL (p : Nat) (most : Int) (ts : List ByteArray) (s : ByteArray) : Does Tryd.prog (bookA p most ts) 54 #[.pointer (some ⟨p, 0, none⟩), .string s] (.returned (.tuple #[.int .i64 (ckX most ts (okK none) (tmK cA none s)), .int .i64 (ckE most ts (okK none) (tmK cA none s))])) (bookA p most (ckT most ts (okK none) (tmK cA none s))) := by
  intro w F h
  have hn := cname p most ts s ⟨#[65]⟩ _ none w F rfl (key0 w) h
  rw [show (⟨#[65]⟩ : ByteArray) = cA from rfl] at hn
  generalize ckX most ts (okK none) (tmK cA none s) = x at *
  generalize ckE most ts (okK none) (tmK cA none s) = y at *
  generalize ckT most ts (okK none) (tmK cA none s) = ts' at *
  rw [show cA = ⟨#[65]⟩ from rfl] at hn
  have HN := Lib.hid hn
  clear hn h
  go_enter Tryd.func54, Tryd.ntmps54
  go_wp2_with (go_at_call 55; (with_reducible refine HN.out.mono ?_); rintro e w1 ⟨rfl, hbec⟩)
  go_ret2
  exact ⟨rfl, hbec⟩
theorem datom (p : Nat) (most : Int) (ts : List ByteArray) (s : ByteArray) (_hs : s.size ≤ 9223372036854770000) : Does Tryd.prog (bookA p most ts) 54 #[.pointer (some ⟨p, 0, none⟩), .string s] (.returned (.tuple #[.int .i64 (ckX most ts (okK none) (tmK cA none s)), .int .i64 (ckE most ts (okK none) (tmK cA none s))])) (bookA p most (ckT most ts (okK none) (tmK cA none s))) :=
  datomL p most ts s

theorem dsealL (p : Nat) (most : Int) (ts : List ByteArray) (key : Int) (s : ByteArray) (k0 : -9223372036854775808 ≤ key) (k1 : key ≤ 9223372036854775807) : Does Tryd.prog (bookA p most ts) 40 #[.pointer (some ⟨p, 0, none⟩), .int .i64 key, .string s] (.returned (.tuple #[.int .i64 (ckX most ts (okK (some key)) (tmK cS (some key) s)), .int .i64 (ckE most ts (okK (some key)) (tmK cS (some key) s))])) (bookA p most (ckT most ts (okK (some key)) (tmK cS (some key) s))) := by
  intro w F h
  have hg := bookA_good p most ts
  have hb0 : Below w.heap.size w (w.alloc (.cells #[.int .i64 key] 3)) := (Below.refl _ _).alloc (Nat.le_refl _) _
  have hn := (cname p most ts s ⟨#[83]⟩ _ (some key) (w.alloc (.cells #[.int .i64 key] 3)) F rfl (key1 w key 3 k0 k1) (hg.below h hb0)).mono (fun e w' ⟨a, b⟩ => (⟨a, b.pre hb0⟩ : _ ∧ Becomes F _ w w'))
  rw [show (⟨#[83]⟩ : ByteArray) = cS from rfl] at hn
  generalize ckX most ts (okK (some key)) (tmK cS (some key) s) = x at *
  generalize ckE most ts (okK (some key)) (tmK cS (some key) s) = y at *
  generalize ckT most ts (okK (some key)) (tmK cS (some key) s) = ts' at *
  rw [show cS = ⟨#[83]⟩ from rfl] at hn
  have HN := Lib.hid hn
  clear hn h
  go_enter Tryd.func40, Tryd.ntmps40
  go_wp2_with (go_at_call 55; (with_reducible refine HN.out.mono ?_); rintro e w1 ⟨rfl, hbec⟩)
  go_ret2
  exact ⟨rfl, hbec⟩
theorem dseal (p : Nat) (most : Int) (ts : List ByteArray) (key : Int) (s : ByteArray) (_hs : s.size ≤ 9223372036854770000) (k0 : -9223372036854775808 ≤ key) (k1 : key ≤ 9223372036854775807) : Does Tryd.prog (bookA p most ts) 40 #[.pointer (some ⟨p, 0, none⟩), .int .i64 key, .string s] (.returned (.tuple #[.int .i64 (ckX most ts (okK (some key)) (tmK cS (some key) s)), .int .i64 (ckE most ts (okK (some key)) (tmK cS (some key) s))])) (bookA p most (ckT most ts (okK (some key)) (tmK cS (some key) s))) :=
  dsealL p most ts key s k0 k1

theorem pfx_name {t h : ByteArray} : Lib.hasPrefix t.data.toList h.data.toList = pfx t h := rfl
/-- craft.Open. -/
theorem copenB (p : Nat) (most : Int) (ts : List ByteArray) (key tag : Int) (k0 : -9223372036854775808 ≤ key) (k1 : key ≤ 9223372036854775807) (w : World) (F : List Nat) (h : bookA p most ts w F) : Calls Tryd.prog 59 #[.pointer (some ⟨p, 0, none⟩), .int .i64 key, .int .i64 tag] w fun e w' => e = .returned (.tuple #[.string (opS ts key tag), .int .i64 (opE ts key tag)]) ∧ Below w.heap.size w w' := by
  have hg := bookA_good p most ts
  have hb0 : Below w.heap.size w (w.alloc (.cells #[.int .i64 key] 3)) := (Below.refl _ _).alloc (Nat.le_refl _) _
  have hh := (chead ⟨#[83]⟩ _ (some key) (w.alloc (.cells #[.int .i64 key] 3)) rfl (key1 w key 3 k0 k1)).mono (fun e w' ⟨a, b⟩ => (⟨a, hb0.trans (b.mono hb0.size)⟩ : _ ∧ Below w.heap.size w w'))
  have hterm : ∀ w1, Below w.heap.size w w1 → Calls Tryd.prog 33 #[.pointer (some ⟨p, 0, none⟩), .int .i64 tag] w1 fun e w' => e = .returned (.tuple #[.string (tmS ts tag), .int .i64 (tmE ts tag)]) ∧ Below w.heap.size w w' := fun w1 hb1 =>
    (bterm p most ts tag w1 F (hg.below h hb1)).mono fun e w' ⟨a, b⟩ => ⟨a, hb1.trans (b.mono hb1.size)⟩
  by_cases hok : okNum key = true
  · rw [show hdA ⟨#[83]⟩ (some key) = cS ++ numS key by unfold hdA; rw [if_pos (show okK (some key) = true from hok)]; rfl, show okK (some key) = true from hok] at hh
    unfold opS opE opB
    rw [hok]
    generalize cS ++ numS key = hd at *
    generalize tmS ts tag = t at *
    generalize tmE ts tag = te at *
    by_cases he : te = 0
    · subst he
      have hcp := Tryd.strings_CutPrefix t hd
      rw [pfx_name] at hcp
      by_cases hp : pfx t hd = true
      · rw [hp, trim_ext hp] at hcp
        rw [if_pos (by simp [hp]), if_pos (by simp [hp])]
        generalize t.extract hd.size t.size = r at *
        have HH := Lib.hid hh
        have HT := Lib.hid hterm
        have HC := Lib.hid hcp
        clear hh hterm hcp hok hp h hg
        go_enter Tryd.func59, Tryd.ntmps59
        go_wp2_with (first
          | (go_at_call 66; (with_reducible refine HH.out.mono ?_); rintro e w1 ⟨rfl, hb⟩)
          | (go_at_call 33; (with_reducible refine (HT.out _ (by assumption)).mono ?_); rintro e w1 ⟨rfl, hb⟩)
          | (go_at_call 67; (with_reducible refine (HC.out _).mono ?_); rintro e w1 ⟨rfl, rfl⟩))
        go_ret2
        exact ⟨rfl, by assumption⟩
      · have hp' : pfx t hd = false := by simpa using hp
        rw [hp'] at hcp
        rw [hp', if_neg (by simp), if_neg (by simp)]
        generalize (⟨(Lib.trimPrefix t.data.toList hd.data.toList).toArray⟩ : ByteArray) = r at *
        have HH := Lib.hid hh
        have HT := Lib.hid hterm
        have HC := Lib.hid hcp
        clear hh hterm hcp hok hp hp' h hg
        go_enter Tryd.func59, Tryd.ntmps59
        go_wp2_with (first
          | (go_at_call 66; (with_reducible refine HH.out.mono ?_); rintro e w1 ⟨rfl, hb⟩)
          | (go_at_call 33; (with_reducible refine (HT.out _ (by assumption)).mono ?_); rintro e w1 ⟨rfl, hb⟩)
          | (go_at_call 67; (with_reducible refine (HC.out _).mono ?_); rintro e w1 ⟨rfl, rfl⟩))
        go_ret2
        exact ⟨rfl, by assumption⟩
    · have he' : (te == 0) = false := by simpa using he
      rw [if_neg (by simp [he]), if_neg (by simp [he])]
      have HH := Lib.hid hh
      have HT := Lib.hid hterm
      clear hh hterm hok h hg
      go_enter Tryd.func59, Tryd.ntmps59
      go_wp2_with (first
        | (go_at_call 66; (with_reducible refine HH.out.mono ?_); rintro e w1 ⟨rfl, hb⟩)
        | (go_at_call 33; (with_reducible refine (HT.out _ (by assumption)).mono ?_); rintro e w1 ⟨rfl, hb⟩))
      go_ret2
      exact ⟨rfl, by assumption⟩
  · have hok' : okNum key = false := by simpa using hok
    rw [show hdA ⟨#[83]⟩ (some key) = ⟨#[]⟩ by unfold hdA; rw [show okK (some key) = false from hok']; rfl, show okK (some key) = false from hok'] at hh
    unfold opS opE opB
    rw [hok', if_neg (by simp), if_neg (by simp)]
    have HH := Lib.hid hh
    clear hh hterm hok hok' h hg
    go_enter Tryd.func59, Tryd.ntmps59
    go_wp2_with (go_at_call 66; (with_reducible refine HH.out.mono ?_); rintro e w1 ⟨rfl, hb⟩)
    go_ret2
    exact ⟨rfl, hb⟩

theorem dopen (p : Nat) (most : Int) (ts : List ByteArray) (key tag : Int) (k0 : -9223372036854775808 ≤ key) (k1 : key ≤ 9223372036854775807) : Does Tryd.prog (bookA p most ts) 59 #[.pointer (some ⟨p, 0, none⟩), .int .i64 key, .int .i64 tag] (.returned (.tuple #[.string (opS ts key tag), .int .i64 (opE ts key tag)])) (bookA p most ts) :=
  fun w F h => (copenB p most ts key tag k0 k1 w F h).mono fun _ _ ⟨a, b⟩ => ⟨a, bookA_same h b⟩

/- A nil book. -/
theorem cname_nil (s c : ByteArray) (v : Value) (w : World) : Calls Tryd.prog 55 #[.pointer none, .string s, .string c, v] w fun e w' => e = .returned (.tuple #[.int .i64 0, .int .i64 1]) ∧ w = w' := by
  go_enter Tryd.func55, Tryd.ntmps55
  go_wp2
  go_ret2
  exact ⟨rfl, rfl⟩
theorem copen_nil (key tag : Int) (w : World) : Calls Tryd.prog 59 #[.pointer none, .int .i64 key, .int .i64 tag] w fun e w' => e = .returned (.tuple #[.string ⟨#[]⟩, .int .i64 1]) ∧ w = w' := by
  go_enter Tryd.func59, Tryd.ntmps59
  go_wp2
  go_ret2
  exact ⟨rfl, rfl⟩
theorem catom_nil (s : ByteArray) (w : World) : Calls Tryd.prog 54 #[.pointer none, .string s] w fun e w' => e = .returned (.tuple #[.int .i64 0, .int .i64 1]) ∧ w = w' := by
  go_enter Tryd.func54, Tryd.ntmps54
  go_wp2_with (go_at_call 55; (with_reducible refine (cname_nil _ _ _ _).mono ?_); rintro e w1 ⟨rfl, rfl⟩)
  go_ret2
  exact ⟨rfl, rfl⟩
theorem cseal_nil (key : Int) (s : ByteArray) (w : World) : Calls Tryd.prog 40 #[.pointer none, .int .i64 key, .string s] w fun e w' => e = .returned (.tuple #[.int .i64 0, .int .i64 1]) ∧ Below w.heap.size w w' := by
  go_enter Tryd.func40, Tryd.ntmps40
  go_wp2_with (go_at_call 55; (with_reducible refine (cname_nil _ _ _ _).mono ?_); rintro e w1 ⟨rfl, rfl⟩)
  go_ret2
  exact ⟨rfl, (Below.refl _ _).alloc (Nat.le_refl _) _⟩
theorem bfind_nil (t : ByteArray) (w : World) : Calls Tryd.prog 17 #[.pointer none, .string t] w fun e w' => e = .returned (.tuple #[.int .i64 0, .bool false]) ∧ w = w' := by
  go_enter Tryd.func17, Tryd.ntmps17
  go_wp2
  go_ret2
  exact ⟨rfl, rfl⟩
end Go.Proofs.YtcakipojmkehgaaDoor

namespace Go.Proofs.YtcakipojmkehgaaDoor
open Go Go.RowKit Go.Maps

theorem tmS_in {ts : List ByteArray} {k : Nat} (h : k < ts.length) : tmS ts ((k : Nat) : Int) = ts.getD k ⟨#[]⟩ := by rw [tmS, if_pos (by omega)]; rfl
theorem tmE_in {ts : List ByteArray} {k : Nat} (h : k < ts.length) : tmE ts ((k : Nat) : Int) = 0 := by rw [tmE, if_pos (by omega)]

end Go.Proofs.YtcakipojmkehgaaDoor

namespace Go.Proofs.YtcakipojmkehgaaDoor
open Go Go.RowKit Go.Maps

theorem At.made {A : Ass} {w w' : World} (h : At w A w') : Becomes [] A w w' := by
  obtain ⟨F, h1, h2, h3⟩ := h
  exact ⟨F, h1, Tn.ofBelow h3 [], fun k hk => .inr (h2 k hk)⟩

def NoneP (ss ts : List ByteArray) : Prop := ss = [] → ts = []
def TwinP (most : Int) (ss : List ByteArray) (w : World) (e : Ending) (w' : World) : Prop := ∃ (p q : Nat) (ts : List ByteArray), e = .returned (.tuple #[.pointer (some ⟨p, 0, none⟩), .pointer (some ⟨q, 0, none⟩)]) ∧ NoneP ss ts ∧ Becomes [] (two p q most ts) w w'

end Go.Proofs.YtcakipojmkehgaaDoor

