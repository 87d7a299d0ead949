/- Rows of strings and rows of writes that the call itself made: their cells, and how one is set. No condition. -/
import Derived.Test.YtbfpfmidjdonjaaGreatDoorProg
import Derived.Test.YtbfpfmidjdonjaaGreatDoorBme
import Derived.Test.YtbfpfmidjdonjaaGreatDoorKplain
import Derived.WalkKit
import Derived.Lib.Hide
import Derived.OneCell
import Derived.Laws.OwnMore
import Derived.OwnWalk
import Derived.Maps.AppendAt
import Derived.Laws.Rows
namespace Go.Proofs.YtbfpfmidjdonjaaGreatDoor
open Go Go.RowKit
theorem infoT : (Tryz.prog.info? 9).map (fun i => (i.zero, i.size, i.bytes)) = some (some (.string ⟨#[]⟩), 1, 16) := by kernel_rfl
def rowT (w : World) (v : Value) (ts : List ByteArray) : Prop := w.ownsRow 0 9 1 v ts.length (ts.map Value.string)
theorem rowT_shape {w : World} {v : Value} {ts : List ByteArray} (h : rowT w v ts) : ∃ ao cap, v = .slice ao ts.length cap := by
  rcases h.2 with ⟨rfl, h0⟩ | ⟨g, cap, _, rfl, _⟩
  · exact ⟨none, 0, by rw [h0]⟩
  · exact ⟨_, cap, rfl⟩
theorem rowT_lay {w : World} {v : Value} {ts : List ByteArray} (h : rowT w v ts) (h1 : 1 ≤ ts.length) : ∃ g cap, v = .slice (some ⟨g, 0, none⟩) ts.length cap ∧ g < w.heap.size := by
  have hlt := h.lt
  rcases h.2 with ⟨rfl, h0⟩ | ⟨g, cap, _, rfl, _⟩
  · omega
  · exact ⟨g, cap, rfl, (hlt g (by simp [Value.ownBlock])).2⟩
theorem rowT_cell {w : World} {g cap : Nat} {ts : List ByteArray} (h : rowT w (.slice (some ⟨g, 0, none⟩) ts.length cap) ts) {i : Nat} (hi : i < ts.length) : w.cell? ⟨g, i, none⟩ = some (.string (ts.getD i ⟨#[]⟩)) := by
  have hc := h.cells (g := g) rfl i (.string (ts.getD i ⟨#[]⟩)) (by simp [List.getD, hi])
  rw [Addr.add_lit, Nat.zero_add] at hc
  exact hc
theorem rowT_froz {w : World} {g cap : Nat} {ts : List ByteArray} (h : rowT w (.slice (some ⟨g, 0, none⟩) ts.length cap) ts) (i : Nat) : w.frozen? ⟨g, i, none⟩ = false := h.frozenAt i
theorem own_on {w w' : World} {T : TypeId} {n m : Nat} {v : Value} {xs : List Value} (h : w.ownsRow 0 T n v m xs) (hw' : ∀ k ∈ v.ownBlock.toList, w'.heap[k]? = w.heap[k]?) : w'.ownsRow 0 T n v m xs := by
  refine ⟨h.1, ?_⟩
  rcases h.2 with hn | ⟨g, cap, cur, rfl, hb, hgg, rest⟩
  · exact .inl hn
  · exact .inr ⟨g, cap, cur, rfl, hb, (hw' g (by simp [Value.ownBlock])).trans hgg, rest⟩
theorem rowT_set {w : World} {g cap : Nat} {ts : List ByteArray} (h : rowT w (.slice (some ⟨g, 0, none⟩) ts.length cap) ts) (i : Nat) (s : ByteArray) :
    rowT (w.setCell ⟨g, i, none⟩ (.string s)) (.slice (some ⟨g, 0, none⟩) ts.length cap) (ts.set i s) := by
  obtain ⟨hl, hr⟩ := h
  rcases hr with ⟨c, _⟩ | ⟨g', cap', cur, e, hb, hgg, h1, h2, h3, h4⟩
  · cases c
  · obtain ⟨rfl, rfl⟩ : g = g' ∧ cap = cap' := by simpa using e
    refine ⟨by simp, .inr ⟨g, cap, cur.setIfInBounds i (.string s), by rw [List.length_set], hb, heap_setCell_same w g i cur _ _ hgg, by rw [List.length_set]; exact h1, h2, by simpa using h3, ?_⟩⟩
    rw [List.length_set, Array.toList_setIfInBounds, List.take_set, h4, List.map_set]
def wcells : List Wt → List Value
  | [] => []
  | x :: ws => .int .i64 (x.1 : Int) :: .string x.2 :: wcells ws
theorem wcells_len (ws : List Wt) : (wcells ws).length = ws.length * 2 := by
  induction ws with
  | nil => rfl
  | cons x ws ih => simp only [wcells, List.length_cons, ih]; omega
theorem wcells_app (ws : List Wt) (x : Wt) : wcells (ws ++ [x]) = wcells ws ++ [.int .i64 (x.1 : Int), .string x.2] := by
  induction ws with
  | nil => rfl
  | cons y ws ih => simp only [List.cons_append, wcells, ih]
theorem wcells_at (ws : List Wt) (j : Nat) (hj : j < ws.length) : (wcells ws)[j * 2]? = some (.int .i64 ((ws.getD j (0, ⟨#[]⟩)).1 : Int)) ∧ (wcells ws)[j * 2 + 1]? = some (.string (ws.getD j (0, ⟨#[]⟩)).2) := by
  induction ws generalizing j with
  | nil => cases hj
  | cons x ws ih =>
    cases j with
    | zero => exact ⟨rfl, rfl⟩
    | succ j =>
      have := ih j (by simpa using hj)
      rw [show (j + 1) * 2 = j * 2 + 1 + 1 by omega]
      simpa [wcells] using this
def rowW (T : TypeId) (w : World) (v : Value) (ws : List Wt) : Prop := w.ownsRow 0 T 2 v ws.length (wcells ws)
theorem rowW_shape {T : TypeId} {w : World} {v : Value} {ws : List Wt} (h : rowW T w v ws) : ∃ ao cap, v = .slice ao ws.length cap := by
  rcases h.2 with ⟨rfl, h0⟩ | ⟨g, cap, _, rfl, _⟩
  · exact ⟨none, 0, by rw [h0]⟩
  · exact ⟨_, cap, rfl⟩
theorem rowW_few {T : TypeId} {w : World} {v : Value} {ws : List Wt} (h : rowW T w v ws) : ws.length ≤ maxLen := by
  rcases h.2 with ⟨rfl, h0⟩ | ⟨g, cap, _, rfl, _, _, h1, h2, _⟩
  · omega
  · omega
theorem rowW_some {T : TypeId} {w : World} {v : Value} {ws : List Wt} (h : rowW T w v ws) {j : Nat} (hj : j < ws.length) : ∃ g cap, v = .slice (some ⟨g, 0, none⟩) ws.length cap ∧
    w.cell? ⟨g, j * 2, none⟩ = some (.int .i64 ((ws.getD j (0, ⟨#[]⟩)).1 : Int)) ∧ w.cell? ⟨g, j * 2 + 1, none⟩ = some (.string (ws.getD j (0, ⟨#[]⟩)).2) := by
  rcases h.2 with ⟨rfl, h0⟩ | ⟨g, cap, _, rfl, _⟩
  · omega
  · have h1 := h.cells (g := g) rfl (j * 2) _ (wcells_at ws j hj).1
    have h2 := h.cells (g := g) rfl (j * 2 + 1) _ (wcells_at ws j hj).2
    rw [Addr.add_lit, Nat.zero_add] at h1 h2
    exact ⟨g, cap, rfl, h1, h2⟩
structure DkIn (T : TypeId) (w : World) (p : Nat) (d : Dk) (g cap : Nat) (v : Value) : Prop where
  c0 : w.cell? ⟨p, 0, none⟩ = some (.slice (some ⟨g, 0, none⟩) d.kept.length cap)
  c1 : w.cell? ⟨p, 1, none⟩ = some v
  c2 : w.cell? ⟨p, 2, none⟩ = some (.bool d.down)
  f0 : w.frozen? ⟨p, 0, none⟩ = false
  f1 : w.frozen? ⟨p, 1, none⟩ = false
  f2 : w.frozen? ⟨p, 2, none⟩ = false
  rk : rowT w (.slice (some ⟨g, 0, none⟩) d.kept.length cap) d.kept
  rw : rowW T w v d.waits
  pg : p ≠ g
  pv : v.ownBlock ≠ some p
  gv : v.ownBlock ≠ some g
  ok : d.Ok
def dkA (T : TypeId) (p : Nat) (d : Dk) : Ass := fun w F => ∃ g cap v, DkIn T w p d g cap v ∧ F = p :: g :: v.ownBlock.toList
theorem DkIn.lt {T : TypeId} {w : World} {p : Nat} {d : Dk} {g cap : Nat} {v : Value} (h : DkIn T w p d g cap v) : ∀ k ∈ p :: g :: v.ownBlock.toList, k < w.heap.size := by
  intro k hk
  simp at hk
  rcases hk with rfl | rfl | hk
  · exact World.block_lt_of_cell? w ⟨k, 0, none⟩ h.c0
  · exact (h.rk.lt k (by simp [Value.ownBlock])).2
  · exact (h.rw.lt k hk).2
theorem DkIn.on {T : TypeId} {w w' : World} {p : Nat} {d : Dk} {g cap : Nat} {v : Value} (h : DkIn T w p d g cap v) (hw' : ∀ k ∈ p :: g :: v.ownBlock.toList, w'.heap[k]? = w.heap[k]?) : DkIn T w' p d g cap v := by
  have hp : w'.heap[p]? = w.heap[p]? := hw' p (by simp)
  refine { h with c0 := ?_, c1 := ?_, c2 := ?_, f0 := ?_, f1 := ?_, f2 := ?_, rk := own_on h.rk fun k hk => hw' k ?_, rw := own_on h.rw fun k hk => hw' k (List.mem_cons_of_mem _ (List.mem_cons_of_mem _ hk)) }
  · rw [World.cell?_of_block (w := w) hp]; exact h.c0
  · rw [World.cell?_of_block (w := w) hp]; exact h.c1
  · rw [World.cell?_of_block (w := w) hp]; exact h.c2
  · rw [World.frozen?_of_block (w := w) hp]; exact h.f0
  · rw [World.frozen?_of_block (w := w) hp]; exact h.f1
  · rw [World.frozen?_of_block (w := w) hp]; exact h.f2
  · simp [Value.ownBlock] at hk; subst hk; simp
theorem DkIn.below {T : TypeId} {w w' : World} {p : Nat} {d : Dk} {g cap : Nat} {v : Value} (h : DkIn T w p d g cap v) (hb : Below w.heap.size w w') : DkIn T w' p d g cap v :=
  h.on fun k hk => hb.block k (h.lt k hk)
theorem dkA_good (T : TypeId) (p : Nat) (d : Dk) : (dkA T p d).Good := by
  rintro w F ⟨g, cap, v, h, rfl⟩
  exact ⟨h.lt, fun w' hw' => ⟨g, cap, v, h.on hw', rfl⟩⟩
theorem dkA_same {T : TypeId} {p : Nat} {d : Dk} {w w' : World} {F : List Nat} (h : dkA T p d w F) (hb : Below w.heap.size w w') : Becomes F (dkA T p d) w w' :=
  ⟨F, (dkA_good T p d).below h hb, Tn.ofBelow hb F, fun _ hk => .inl hk⟩
theorem DkIn.setDown {T : TypeId} {w : World} {p : Nat} {d : Dk} {g cap : Nat} {v : Value} (h : DkIn T w p d g cap v) (b : Bool) : DkIn T (w.setCell ⟨p, 2, none⟩ (.bool b)) p { d with down := b } g cap v := by
  have hg : (w.setCell ⟨p, 2, none⟩ (.bool b)).heap[g]? = w.heap[g]? := heap_setCell_other _ _ _ _ (fun e => h.pg e.symm)
  refine ⟨?_, ?_, ?_, by rw [World.frozen?_setCell]; exact h.f0, by rw [World.frozen?_setCell]; exact h.f1, by rw [World.frozen?_setCell]; exact h.f2, ?_, ?_, h.pg, h.pv, h.gv, ⟨h.ok.one, h.ok.most, h.ok.sz, h.ok.ws⟩⟩
  · rw [World.cell?_setCell_other _ _ _ _ (by simp)]; exact h.c0
  · rw [World.cell?_setCell_other _ _ _ _ (by simp)]; exact h.c1
  · exact World.cell?_setCell_same' _ _ _ (by rw [h.c2]; rfl)
  · exact ownsRow_setCell_other h.rk (by simp [Value.ownBlock]; exact fun e => h.pg e.symm) _
  · exact ownsRow_setCell_other h.rw h.pv _
theorem DkIn.setNil {T : TypeId} {w : World} {p : Nat} {d : Dk} {g cap : Nat} {v : Value} (h : DkIn T w p d g cap v) : DkIn T (w.setCell ⟨p, 1, none⟩ (.slice none 0 0)) p { d with waits := [] } g cap (.slice none 0 0) := by
  refine ⟨?_, ?_, ?_, by rw [World.frozen?_setCell]; exact h.f0, by rw [World.frozen?_setCell]; exact h.f1, by rw [World.frozen?_setCell]; exact h.f2, ?_, World.ownsRow_nil _ _ _ _, h.pg, by simp [Value.ownBlock], by simp [Value.ownBlock], ⟨h.ok.one, h.ok.most, h.ok.sz, fun x hx => by cases hx⟩⟩
  · rw [World.cell?_setCell_other _ _ _ _ (by simp)]; exact h.c0
  · exact World.cell?_setCell_same' _ _ _ (by rw [h.c1]; rfl)
  · rw [World.cell?_setCell_other _ _ _ _ (by simp)]; exact h.c2
  · exact ownsRow_setCell_other h.rk (by simp [Value.ownBlock]; exact fun e => h.pg e.symm) _
theorem DkIn.setKept {T : TypeId} {w : World} {p : Nat} {d : Dk} {g cap : Nat} {v : Value} (h : DkIn T w p d g cap v) (i : Nat) {s : ByteArray} (hs : s.size = 64) : DkIn T (w.setCell ⟨g, i, none⟩ (.string s)) p { d with kept := d.kept.set i s } g cap v := by
  have hne : ∀ j : Nat, (⟨g, i, none⟩ : Addr) ≠ ⟨p, j, none⟩ := fun j e => h.pg (congrArg Addr.block e).symm
  have hne' : ∀ j : Nat, (⟨p, j, none⟩ : Addr) ≠ ⟨g, i, none⟩ := fun j e => h.pg (congrArg Addr.block e)
  refine ⟨?_, ?_, ?_, by rw [World.frozen?_setCell]; exact h.f0, by rw [World.frozen?_setCell]; exact h.f1, by rw [World.frozen?_setCell]; exact h.f2, ?_, ?_, h.pg, h.pv, h.gv, ⟨by simpa using h.ok.one, by simpa using h.ok.most, set_sz h.ok.sz hs, fun x hx => by simpa using h.ok.ws x hx⟩⟩
  · rw [World.cell?_setCell_other _ _ _ _ (by first | exact hne' 0 | exact hne 0), List.length_set]; exact h.c0
  · rw [World.cell?_setCell_other _ _ _ _ (by first | exact hne' 1 | exact hne 1)]; exact h.c1
  · rw [World.cell?_setCell_other _ _ _ _ (by first | exact hne' 2 | exact hne 2)]; exact h.c2
  · have := rowT_set h.rk i s; rw [List.length_set]; exact this
  · exact ownsRow_setCell_other h.rw h.gv _
theorem cell_two_new (w : World) (u v : Value) (t : TypeId) : ∀ j x, [u, v][j]? = some x → (w.alloc (.cells #[u, v] t)).cell? ((⟨w.heap.size, 0, none⟩ : Addr).add j) = some x := by
  intro j x hx
  rw [Addr.add_lit, Nat.zero_add]
  match j, hx with
  | 0, hx => simp at hx; subst hx; simp
  | 1, hx => simp at hx; subst hx; simp
  | j + 2, hx => simp at hx
theorem DkIn.added {T : TypeId} {w w2 : World} {p : Nat} {d : Dk} {g cap : Nat} {v v' : Value} {x : Wt} (h : DkIn T w p d g cap v) (hg : w.grownBy w2 v.ownBlock) (hr : rowW T w2 v' (d.waits ++ [x])) (hx : x.1 < d.kept.length ∧ x.2.size = 64)
    (hloc : v'.ownBlock = v.ownBlock ∨ ∃ k, w.heap.size ≤ k ∧ v'.ownBlock = some k) :
    Becomes (p :: g :: v.ownBlock.toList) (dkA T p { d with waits := d.waits ++ [x] }) w (w2.setCell ⟨p, 1, none⟩ v') := by
  have hpl := h.lt p (by simp)
  have hgl := h.lt g (by simp)
  have hp : w2.heap[p]? = w.heap[p]? := hg.block p hpl (fun e => h.pv e.symm)
  have hgg : w2.heap[g]? = w.heap[g]? := hg.block g hgl (fun e => h.gv e.symm)
  have hn1 : v'.ownBlock ≠ some p := by
    rcases hloc with e | ⟨k, hk, e⟩
    · rw [e]; exact h.pv
    · rw [e]; simp; omega
  have hn2 : v'.ownBlock ≠ some g := by
    rcases hloc with e | ⟨k, hk, e⟩
    · rw [e]; exact h.gv
    · rw [e]; simp; omega
  have c0 := (World.cell?_of_block (a := ⟨p, 0, none⟩) hp).trans h.c0
  have c1 := (World.cell?_of_block (a := ⟨p, 1, none⟩) hp).trans h.c1
  have c2 := (World.cell?_of_block (a := ⟨p, 2, none⟩) hp).trans h.c2
  refine ⟨_, ⟨g, cap, v', ⟨?_, ?_, ?_, ?_, ?_, ?_, ?_, ?_, h.pg, hn1, hn2, ⟨h.ok.one, h.ok.most, h.ok.sz, fun y hy => ?_⟩⟩, rfl⟩, ?_, ?_⟩
  · rw [World.cell?_setCell_other _ _ _ _ (by simp)]; exact c0
  · exact World.cell?_setCell_same' _ _ _ (by rw [c1]; rfl)
  · rw [World.cell?_setCell_other _ _ _ _ (by simp)]; exact c2
  · rw [World.frozen?_setCell]; exact (World.frozen?_of_block (a := ⟨p, 0, none⟩) hp).trans h.f0
  · rw [World.frozen?_setCell]; exact (World.frozen?_of_block (a := ⟨p, 1, none⟩) hp).trans h.f1
  · rw [World.frozen?_setCell]; exact (World.frozen?_of_block (a := ⟨p, 2, none⟩) hp).trans h.f2
  · exact ownsRow_setCell_other (own_on h.rk fun k hk => by simp [Value.ownBlock] at hk; subst hk; exact hgg) (by simp [Value.ownBlock]; exact fun e => h.pg e.symm) _
  · exact ownsRow_setCell_other hr hn1 _
  · rcases List.mem_append.1 hy with c | c
    · exact h.ok.ws y c
    · simp at c; subst c; exact hx
  · refine ((Tn.refl _ _).grown hg (fun k hk => ?_)).setCell (.inl (by simp)) _
    exact .inl (List.mem_cons_of_mem _ (List.mem_cons_of_mem _ (Option.mem_toList.2 hk)))
  · intro k hk
    simp at hk
    rcases hk with rfl | rfl | hk
    · left; simp
    · left; simp
    · rcases hloc with e | ⟨j, hj, e⟩
      · rw [e] at hk; exact .inl (List.mem_cons_of_mem _ (List.mem_cons_of_mem _ (Option.mem_toList.2 hk)))
      · rw [e] at hk; simp at hk; right; omega
end Go.Proofs.YtbfpfmidjdonjaaGreatDoor
