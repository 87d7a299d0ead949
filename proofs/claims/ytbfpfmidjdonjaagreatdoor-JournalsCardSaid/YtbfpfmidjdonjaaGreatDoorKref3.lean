/- The reference's Disk: NewDisk. No condition. -/
import Derived.Test.YtbfpfmidjdonjaaGreatDoorBkr
import Derived.Test.YtbfpfmidjdonjaaGreatDoorBpm
import Derived.Deep.RegionLaw
import Derived.Deep.AppendLies
import Derived.Deep.OwnRows
namespace Go.Proofs.YtbfpfmidjdonjaaGreatDoor
open Go Go.RowKit
structure NwIn (w : World) (p : Nat) (k : Nat) (v : Value) : Prop where
  c0 : w.cell? ⟨p, 0, none⟩ = some v
  c1 : w.cell? ⟨p, 1, none⟩ = some (.slice none 0 0)
  c2 : w.cell? ⟨p, 2, none⟩ = some (.bool false)
  f0 : w.frozen? ⟨p, 0, none⟩ = false
  f1 : w.frozen? ⟨p, 1, none⟩ = false
  f2 : w.frozen? ⟨p, 2, none⟩ = false
  row : rowT w v (List.replicate k zer64)
  pv : v.ownBlock ≠ some p
def NwAt (w : World) (p k : Nat) (v : Value) (w' : World) : Prop := NwIn w' p k v ∧ Below w.heap.size w w' ∧ w.heap.size ≤ p ∧ ∀ g, v.ownBlock = some g → w.heap.size ≤ g
theorem NwAt.facts {w : World} {p k : Nat} {v : Value} {w' : World} (h : NwAt w p k v w') : w'.cell? ⟨p, 0, none⟩ = some v ∧ w'.frozen? ⟨p, 0, none⟩ = false ∧ p < w'.heap.size := ⟨h.1.c0, h.1.f0, World.block_lt_of_cell? w' ⟨p, 0, none⟩ h.1.c0⟩
theorem NwAt.kept {w : World} {p k : Nat} {v : Value} {w' w2 : World} (h : NwAt w p k v w') (hg : w'.grownBy w2 v.ownBlock) : w2.cell? ⟨p, 0, none⟩ = some v ∧ w2.frozen? ⟨p, 0, none⟩ = false := by
  have hpp : w2.heap[p]? = w'.heap[p]? := hg.block p h.facts.2.2 (fun e => h.1.pv e.symm)
  exact ⟨(World.cell?_of_block (a := ⟨p, 0, none⟩) hpp).trans h.1.c0, (World.frozen?_of_block (a := ⟨p, 0, none⟩) hpp).trans h.1.f0⟩
theorem NwAt.added {w : World} {p k : Nat} {v v' : Value} {w' w2 : World} (h : NwAt w p k v w') (hg : w'.grownBy w2 v.ownBlock) (hr : rowT w2 v' (List.replicate (k + 1) zer64)) (hloc : v'.ownBlock = v.ownBlock ∨ ∃ j, w'.heap.size ≤ j ∧ v'.ownBlock = some j) :
    NwAt w p (k + 1) v' (w2.setCell ⟨p, 0, none⟩ v') := by
  obtain ⟨hi, hb, hp, hv⟩ := h
  have hpl : p < w'.heap.size := World.block_lt_of_cell? w' ⟨p, 0, none⟩ hi.c0
  have hpp : w2.heap[p]? = w'.heap[p]? := hg.block p hpl (fun e => hi.pv e.symm)
  have hn1 : v'.ownBlock ≠ some p := by
    rcases hloc with e | ⟨j, hj, e⟩
    · rw [e]; exact hi.pv
    · rw [e]; simp; omega
  have c0 := (World.cell?_of_block (a := ⟨p, 0, none⟩) hpp).trans hi.c0
  refine ⟨⟨World.cell?_setCell_same' _ _ _ (by rw [c0]; rfl), ?_, ?_, ?_, ?_, ?_, ownsRow_setCell_other hr hn1 _, hn1⟩, ?_, hp, fun g e => ?_⟩
  · rw [World.cell?_setCell_other _ _ _ _ (by simp)]; exact (World.cell?_of_block (a := ⟨p, 1, none⟩) hpp).trans hi.c1
  · rw [World.cell?_setCell_other _ _ _ _ (by simp)]; exact (World.cell?_of_block (a := ⟨p, 2, none⟩) hpp).trans hi.c2
  · rw [World.frozen?_setCell]; exact (World.frozen?_of_block (a := ⟨p, 0, none⟩) hpp).trans hi.f0
  · rw [World.frozen?_setCell]; exact (World.frozen?_of_block (a := ⟨p, 1, none⟩) hpp).trans hi.f1
  · rw [World.frozen?_setCell]; exact (World.frozen?_of_block (a := ⟨p, 2, none⟩) hpp).trans hi.f2
  · exact Below.setCell (hb.grown hg hb.size hv) hp _
  · rcases hloc with c | ⟨j, hj, c⟩
    · exact hv g (c ▸ e)
    · rw [c] at e; cases e; exact Nat.le_trans hb.size hj
theorem NwAt.done {T : TypeId} {w : World} {p k : Nat} {v : Value} {w' : World} (h : NwAt w p k v w') (h1 : 1 ≤ k) (h2 : k ≤ 256) : Becomes [] (dkA T p (Dk.new k)) w w' := by
  obtain ⟨hi, hb, hp, hv⟩ := h
  obtain ⟨g, cap, rfl, hg⟩ := rowT_lay hi.row (by simpa using h1)
  have hl : (Dk.new k).kept = List.replicate k zer64 := rfl
  refine ⟨_, ⟨g, cap, .slice none 0 0, ⟨hi.c0, hi.c1, hi.c2, hi.f0, hi.f1, hi.f2, hi.row, World.ownsRow_nil _ _ _ _, fun e => hi.pv (by rw [e]; rfl), by simp [Value.ownBlock], by simp [Value.ownBlock], Dk.ok_new h1 h2⟩, rfl⟩, Tn.ofBelow hb _, fun j hj => .inr ?_⟩
  simp [Value.ownBlock] at hj
  rcases hj with rfl | rfl
  · exact hp
  · exact hv j rfl
abbrev zObj : Obj := .cells (madeCells #[.int .u8 0] 64) 5
theorem z_made (W : World) : (Instr.makeSlice 77 (.int .i64 64) (.int .i64 64)).run Tryz.prog W = .ok (.slice (some ⟨W.heap.size, 0, none⟩) 64 64) (W.alloc zObj) :=
  run_make_row' 77 5 (.int .u8 0) 1 Tryz.underlying77 infoB rfl .i64 .i64 64 (by decide) (by decide) W
theorem z_own (W : World) : (W.alloc zObj).ownsRow 0 5 1 (.slice (some ⟨W.heap.size, 0, none⟩) 64 64) 64 ((List.replicate 64 (0 : Int)).map (Value.int .u8)) :=
  ⟨rfl, .inr ⟨W.heap.size, 64, _, rfl, Nat.zero_le _, heap_alloc_new W _, Nat.le_refl _, by unfold maxLen; omega, by kernel_rfl, by kernel_rfl⟩⟩
theorem z_conv (W : World) : (convert 77 9 (.slice (some ⟨W.heap.size, 0, none⟩) 64 64)).run Tryz.prog (W.alloc zObj) = .ok (.string zer64) (W.alloc zObj) :=
  (convD (z_own W)).trans rfl
abbrev zWorld (W : World) : World := ((W.alloc zObj).alloc (.cells #[.string zer64] 9)).drew
theorem z_row {W : World} {ao : Option Addr} {c k : Nat} (h : rowT W (.slice ao k c) (List.replicate k zer64)) : (zWorld W).ownsRow 0 9 1 (.slice ao k c) k ((List.replicate k zer64).map Value.string) := by
  have h2 := (h.alloc zObj).alloc (.cells #[.string zer64] 9)
  have h3 : (zWorld W).ownsRow 0 9 1 (.slice ao k c) (List.replicate k zer64).length ((List.replicate k zer64).map Value.string) := own_on h2 fun _ _ => rfl
  rw [List.length_replicate] at h3
  exact h3
theorem z_news (W : World) : ∀ j u, [Value.string zer64][j]? = some u → (zWorld W).cell? ((⟨W.heap.size + 1, 0, none⟩ : Addr).add j) = some u := by
  intro j u h
  have := cell_one_new (W.alloc zObj) (.string zer64) 9 j u h
  rw [show (W.alloc zObj).heap.size = W.heap.size + 1 by simp] at this
  exact this
theorem z_grown {W w2 : World} {row : Option Nat} (h : (zWorld W).grownBy w2 row) : W.grownBy w2 row := by
  have g := (World.grownBy_alloc W zObj row).trans (World.grownBy_alloc (W.alloc zObj) (.cells #[.string zer64] 9) row)
  exact g.trans ⟨h.os, h.tape, h.output, h.size, h.block⟩
theorem z_rows {w2 : World} {g cap k : Nat} (h : w2.ownsRow 0 9 1 (.slice (some ⟨g, 0, none⟩) (k + 1) cap) (k + 1) ((List.replicate k zer64).map Value.string ++ [.string zer64])) : rowT w2 (.slice (some ⟨g, 0, none⟩) (k + 1) cap) (List.replicate (k + 1) zer64) := by
  unfold rowT
  rw [List.length_replicate, List.replicate_succ', List.map_append]
  exact h
def KrnewP (n : Nat) (w : World) (e : Ending) (w' : World) : Prop := ∃ p : Nat, e = .returned (.tuple #[.pointer (some ⟨p, 0, none⟩), .int .i64 0]) ∧ Becomes [] (dkA TR p (Dk.new n)) w w'
theorem krnew_bad (n : Int) (w : World) (h : n < 1 ∨ 256 < n) : Calls Tryz.prog 45 #[.int .i64 n] w fun e w' => e = .returned (.tuple #[.pointer none, .int .i64 800]) ∧ w = w' := by
  rcases h with h | h
  · go_enter Tryz.func45, Tryz.ntmps45
    go_wp2
    go_ret2
    exact ⟨rfl, rfl⟩
  · have h' : ¬ n < 1 := by omega
    go_enter Tryz.func45, Tryz.ntmps45
    go_wp2
    go_ret2
    exact ⟨rfl, rfl⟩
set_option maxRecDepth 100000 in
set_option maxHeartbeats 2000000 in
theorem krnew_ok (n : Nat) (w : World) (h1 : 1 ≤ n) (h2 : n ≤ 256) : Calls Tryz.prog 45 #[.int .i64 n] w (KrnewP n w) := by
  have h0 : ∀ W, W = w.alloc (.cells #[.slice none 0 0, .slice none 0 0, .bool false] 112) → NwAt w w.heap.size 0 (.slice none 0 0) W := by
    rintro W rfl
    exact ⟨⟨by simp, by simp, by simp, by simp, by simp, by simp, World.ownsRow_nil _ _ _ _, by simp [Value.ownBlock]⟩, (Below.refl _ _).alloc (Nat.le_refl _) _, Nat.le_refl _, fun g e => by cases e⟩
  have H0 := Lib.hid h0
  clear h0
  go_enter Tryz.func45, Tryz.ntmps45
  go_wp2
  go_loopw [5] (fun x wr => ∃ (k : Nat) (v : Value), k ≤ n ∧ x = .int .i64 (k : Int) ∧ NwAt w w.heap.size k v wr) (fun x _ => n - (intOf x).toNat)
  case atStart => exact ⟨0, _, Nat.zero_le _, rfl, H0.out _ rfl⟩
  case round =>
    obtain ⟨k, v, hk, rfl, hN⟩ := hrel
    by_cases hlt : k < n
    · obtain ⟨ao, c, hv⟩ := rowT_shape hN.1.row
      rw [List.length_replicate] at hv
      subst hv
      obtain ⟨e0, g0, p0⟩ := hN.facts
      have d0 : wr.drew.cell? ⟨w.heap.size, 0, none⟩ = _ := e0
      have dg : wr.drew.frozen? ⟨w.heap.size, 0, none⟩ = false := g0
      go_wp2
      have hmk := z_made
      have hcv1 : (convert 77 9 (.slice (some ⟨wr.heap.size, 0, none⟩) 64 64)).run Tryz.prog (wr.alloc zObj).drew = .ok (.string zer64) (wr.alloc zObj).drew := z_conv wr.drew
      obtain ⟨i, hi, hz0, hz1, hz2⟩ := info_of infoT
      have HR := Lib.hid (z_row hN.1.row)
      have HW := Lib.hid (z_news wr)
      have HN := Lib.hid hN
      clear hN
      go_region_law (refine step_append_lies _ rfl (.tmp 23) (.tmp 26) 80 rfl 0 9 i (.string ⟨#[]⟩) 1 16 Tryz.underlying80 hi hz0 hz1 hz2 rfl (by decide) (.slice ao k c) _ _ (by simp [Act.eval]) HR.out ⟨wr.heap.size + 1, 0, none⟩ 1 1 [.string zer64] (by simp [Act.eval]) rfl HW.out (by intro u hu; simp at hu; subst hu; rfl) (by decide) (by unfold maxLen; omega) (by omega) (Nat.zero_le _) _ rfl ?_; intro g2 cap2 w2 hown2 hgrow2 hat hlt2; have hgg := z_grown hgrow2; obtain ⟨m0, mg⟩ := HN.out.kept hgg; have HF := Lib.hid (HN.out.added hgg (z_rows hown2) (by rcases hat with e | e; exact .inl e.symm; exact .inr ⟨g2, by rw [e]; simp; omega, rfl⟩)); clear hown2 hgrow2 hat hgg)
      all_goals
        go_wp2
        go_round
        case rel => exact ⟨k + 1, _, by omega, by go_num, HF.out⟩
        case measure => simp [intOf]; omega
    · obtain rfl : k = n := by omega
      have HN := Lib.hid (hN.done (T := TR) h1 h2)
      go_wp2
      go_ret2
      exact ⟨_, rfl, HN.out⟩
end Go.Proofs.YtbfpfmidjdonjaaGreatDoor
