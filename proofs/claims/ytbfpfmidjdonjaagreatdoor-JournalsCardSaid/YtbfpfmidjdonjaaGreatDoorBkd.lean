/- Put together: Kdq, Kdp1. Conditions: each theorem's own. -/
import Derived.Test.YtbfpfmidjdonjaaGreatDoorKflat
import Derived.Test.YtbfpfmidjdonjaaGreatDoorProg
import Derived.Test.YtbfpfmidjdonjaaGreatDoorRowT
import Derived.Test.YtbfpfmidjdonjaaGreatDoorRegT
import Derived.WalkKit
import Derived.Lib.Hide
import Derived.BigQuiet
import Derived.Deep.QuietTactic
import Derived.IntWalk
import Derived.Deep.RegionLaw
import Derived.Deep.AppendLies
import Derived.Deep.OwnRows
import Derived.Test.YtbfpfmidjdonjaaGreatDoorBkr
namespace Go.Proofs.YtbfpfmidjdonjaaGreatDoor
open Go Go.RowKit
abbrev TD : TypeId := 109
abbrev TC : TypeId := 103
abbrev TW : TypeId := 105
structure DqIn (w : World) (p : Nat) (k s : List ByteArray) (ws : List Wt) (dn : Bool) (n gk gs : Nat) (v : Value) : Prop where
  bp : w.heap[p]? = some (.cells #[.slice (some ⟨gk, 0, none⟩) n n, .slice (some ⟨gs, 0, none⟩) n n, v, .bool dn] TD (0, 0))
  bk : w.heap[gk]? = some (.cells (flatS k).toArray TC (0, 0))
  bs : w.heap[gs]? = some (.cells (flatS s).toArray TC (0, 0))
  rw : w.ownsRow 0 TW 65 v ws.length (pV ws)
  d1 : p ≠ gk
  d2 : p ≠ gs
  d3 : gk ≠ gs
  v1 : v.ownBlock ≠ some p
  v2 : v.ownBlock ≠ some gk
  v3 : v.ownBlock ≠ some gs
  kn : k.length = n
  sn : s.length = n
  n1 : 1 ≤ n
  n2 : n ≤ 256
  ks : ∀ x ∈ k, x.size = 64
  ss : ∀ x ∈ s, x.size = 64
  wo : ∀ x ∈ ws, x.1 < n ∧ x.2.size = 64
abbrev dqF (p gk gs : Nat) (v : Value) : List Nat := p :: gk :: gs :: v.ownBlock.toList
def dpA (p : Nat) (d : Dk) : Ass := fun w F => ∃ n gk gs v, DqIn w p d.kept d.see d.waits d.down n gk gs v ∧ F = dqF p gk gs v
theorem block_lt {w : World} {g : Nat} {o : Obj} (h : w.heap[g]? = some o) : g < w.heap.size := (Array.getElem?_eq_some_iff.1 h).1
section
variable {w : World} {p : Nat} {k s : List ByteArray} {ws : List Wt} {dn : Bool} {n gk gs : Nat} {v : Value}
theorem DqIn.lt (h : DqIn w p k s ws dn n gk gs v) : ∀ i ∈ dqF p gk gs v, i < w.heap.size := by
  intro i hi
  simp at hi
  rcases hi with rfl | rfl | rfl | hi
  · exact block_lt h.bp
  · exact block_lt h.bk
  · exact block_lt h.bs
  · exact (h.rw.lt i hi).2
theorem DqIn.on {w' : World} (h : DqIn w p k s ws dn n gk gs v) (hw' : ∀ i ∈ dqF p gk gs v, w'.heap[i]? = w.heap[i]?) : DqIn w' p k s ws dn n gk gs v :=
  { h with bp := (hw' p (by simp)).trans h.bp, bk := (hw' gk (by simp)).trans h.bk, bs := (hw' gs (by simp)).trans h.bs, rw := own_on h.rw fun i hi => hw' i (by simp [Option.mem_toList.1 hi]) }
theorem DqIn.below {w' : World} (h : DqIn w p k s ws dn n gk gs v) (hb : Below w.heap.size w w') : DqIn w' p k s ws dn n gk gs v :=
  h.on fun i hi => hb.block i (h.lt i hi)
theorem DqIn.drew (h : DqIn w p k s ws dn n gk gs v) : DqIn w.drew p k s ws dn n gk gs v := h.on fun _ _ => rfl
theorem DqIn.alloc (h : DqIn w p k s ws dn n gk gs v) (o : Obj) : DqIn (w.alloc o) p k s ws dn n gk gs v := h.below ((Below.refl _ _).alloc (Nat.le_refl _) o)
theorem DqIn.setK (h : DqIn w p k s ws dn n gk gs v) {k' : List ByteArray} (hn : k'.length = n) (hk : ∀ x ∈ k', x.size = 64) : DqIn (w.setRow gk (flatS k').toArray) p k' s ws dn n gk gs v := by
  refine { h with bp := (setRow_other w gk p _ h.d1).trans h.bp, bk := setRow_heap w gk _ _ _ _ h.bk, bs := (setRow_other w gk gs _ (fun e => h.d3 e.symm)).trans h.bs, rw := own_on h.rw fun i hi => setRow_other w gk i _ (fun e => ?_), kn := hn, ks := hk }
  subst e
  exact h.v2 (Option.mem_toList.1 hi)
theorem DqIn.setS (h : DqIn w p k s ws dn n gk gs v) {s' : List ByteArray} (hn : s'.length = n) (hs : ∀ x ∈ s', x.size = 64) : DqIn (w.setRow gs (flatS s').toArray) p k s' ws dn n gk gs v := by
  refine { h with bp := (setRow_other w gs p _ h.d2).trans h.bp, bk := (setRow_other w gs gk _ h.d3).trans h.bk, bs := setRow_heap w gs _ _ _ _ h.bs, rw := own_on h.rw fun i hi => setRow_other w gs i _ (fun e => ?_), sn := hn, ss := hs }
  subst e
  exact h.v3 (Option.mem_toList.1 hi)
theorem DqIn.setDown (h : DqIn w p k s ws dn n gk gs v) (b : Bool) : DqIn (w.setCell ⟨p, 3, none⟩ (.bool b)) p k s ws b n gk gs v := by
  refine { h with bp := ?_, bk := (heap_setCell_other w _ gk _ (fun e => h.d1 e.symm)).trans h.bk, bs := (heap_setCell_other w _ gs _ (fun e => h.d2 e.symm)).trans h.bs, rw := ownsRow_setCell_other h.rw h.v1 _ }
  rw [heap_setCell_same w p 3 _ _ _ h.bp]; rfl
theorem DqIn.setNil (h : DqIn w p k s ws dn n gk gs v) : DqIn (w.setCell ⟨p, 2, none⟩ (.slice none 0 0)) p k s [] dn n gk gs (.slice none 0 0) := by
  refine { h with bp := ?_, bk := (heap_setCell_other w _ gk _ (fun e => h.d1 e.symm)).trans h.bk, bs := (heap_setCell_other w _ gs _ (fun e => h.d2 e.symm)).trans h.bs, rw := World.ownsRow_nil _ _ _ _, v1 := by simp [Value.ownBlock], v2 := by simp [Value.ownBlock], v3 := by simp [Value.ownBlock], wo := fun x hx => by cases hx }
  rw [heap_setCell_same w p 2 _ _ _ h.bp]; rfl
theorem DqIn.added {w2 : World} {v' : Value} {x : Wt} (h : DqIn w p k s ws dn n gk gs v) (hg : w.grownBy w2 v.ownBlock) (hr : w2.ownsRow 0 TW 65 v' (ws.length + 1) (pV ws ++ wV x)) (hx : x.1 < n ∧ x.2.size = 64)
    (hloc : v'.ownBlock = v.ownBlock ∨ ∃ j, w.heap.size ≤ j ∧ v'.ownBlock = some j) : DqIn (w2.setCell ⟨p, 2, none⟩ v') p k s (ws ++ [x]) dn n gk gs v' := by
  have hne : ∀ i ∈ [p, gk, gs], v'.ownBlock ≠ some i := by
    intro i hi
    rcases hloc with e | ⟨j, hj, e⟩
    · rw [e]
      simp at hi
      rcases hi with rfl | rfl | rfl
      · exact h.v1
      · exact h.v2
      · exact h.v3
    · have := h.lt i (by simp at hi ⊢; rcases hi with rfl | rfl | rfl <;> simp)
      rw [e]; simp; omega
  have hb : ∀ i ∈ [p, gk, gs], w2.heap[i]? = w.heap[i]? := by
    intro i hi
    refine hg.block i (h.lt i (by simp at hi ⊢; rcases hi with rfl | rfl | rfl <;> simp)) ?_
    simp at hi
    rcases hi with rfl | rfl | rfl
    · exact fun e => h.v1 e.symm
    · exact fun e => h.v2 e.symm
    · exact fun e => h.v3 e.symm
  have hp := (hb p (by simp)).trans h.bp
  refine { h with bp := ?_, bk := (heap_setCell_other w2 _ gk _ (fun e => h.d1 e.symm)).trans ((hb gk (by simp)).trans h.bk), bs := (heap_setCell_other w2 _ gs _ (fun e => h.d2 e.symm)).trans ((hb gs (by simp)).trans h.bs), rw := ?_, v1 := hne p (by simp), v2 := hne gk (by simp), v3 := hne gs (by simp), wo := fun y hy => ?_ }
  · rw [heap_setCell_same w2 p 2 _ _ _ hp]; rfl
  · rw [List.length_append, pV_app]
    exact ownsRow_setCell_other hr (hne p (by simp)) _
  · rcases List.mem_append.1 hy with c | c
    · exact h.wo y c
    · simp at c; subst c; exact hx
theorem DqIn.c0 (h : DqIn w p k s ws dn n gk gs v) : w.cell? ⟨p, 0, none⟩ = some (.slice (some ⟨gk, 0, none⟩) n n) := by rw [cell_of_row w p 0 _ _ _ h.bp]; rfl
theorem DqIn.c1 (h : DqIn w p k s ws dn n gk gs v) : w.cell? ⟨p, 1, none⟩ = some (.slice (some ⟨gs, 0, none⟩) n n) := by rw [cell_of_row w p 1 _ _ _ h.bp]; rfl
theorem DqIn.c2 (h : DqIn w p k s ws dn n gk gs v) : w.cell? ⟨p, 2, none⟩ = some v := by rw [cell_of_row w p 2 _ _ _ h.bp]; rfl
theorem DqIn.c3 (h : DqIn w p k s ws dn n gk gs v) : w.cell? ⟨p, 3, none⟩ = some (.bool dn) := by rw [cell_of_row w p 3 _ _ _ h.bp]; rfl
theorem DqIn.f (h : DqIn w p k s ws dn n gk gs v) (i : Nat) : w.frozen? ⟨p, i, none⟩ = false := frozen_of_row w p i _ _ h.bp
theorem DqIn.shape (h : DqIn w p k s ws dn n gk gs v) : ∃ ao cap, v = .slice ao ws.length cap := by
  rcases h.rw.2 with ⟨rfl, h0⟩ | ⟨g, cap, _, rfl, _⟩
  · exact ⟨none, 0, by rw [h0]⟩
  · exact ⟨_, cap, rfl⟩
theorem DqIn.few (h : DqIn w p k s ws dn n gk gs v) : ws.length ≤ maxLen := by
  rcases h.rw.2 with ⟨rfl, h0⟩ | ⟨g, cap, _, rfl, _, _, h1, h2, _⟩
  · omega
  · omega
theorem DqIn.wait (h : DqIn w p k s ws dn n gk gs v) {j : Nat} (hj : j < ws.length) : ∃ gw cw, v = .slice (some ⟨gw, 0, none⟩) ws.length cw ∧ w.rangeAt gw (j * 65) (wV (ws.getD j (0, ⟨#[]⟩))) := by
  rcases h.rw.2 with ⟨rfl, h0⟩ | ⟨g, cap, _, rfl, _⟩
  · omega
  · refine ⟨g, cap, rfl, fun i u hu => ?_⟩
    have := h.rw.cells (g := g) rfl (j * 65 + i) u (pV_at (fun x hx => (h.wo x hx).2) hj hu)
    rw [Addr.add_lit, Nat.zero_add] at this
    exact this
theorem DqIn.ok (h : DqIn w p k s ws dn n gk gs v) : (⟨k, ws, dn⟩ : Dk).Ok := ⟨by rw [h.kn]; exact h.n1, by rw [h.kn]; exact h.n2, h.ks, fun x hx => by rw [show (⟨k, ws, dn⟩ : Dk).kept.length = n from h.kn]; exact h.wo x hx⟩
end
theorem dpA_good (p : Nat) (d : Dk) : (dpA p d).Good := by
  rintro w F ⟨n, gk, gs, v, h, rfl⟩
  exact ⟨h.lt, fun w' hw' => ⟨n, gk, gs, v, h.on hw', rfl⟩⟩
theorem dpA_same {p : Nat} {d : Dk} {w w' : World} {F : List Nat} (h : dpA p d w F) (hb : Below w.heap.size w w') : Becomes F (dpA p d) w w' :=
  ⟨F, (dpA_good p d).below h hb, Tn.ofBelow hb F, fun _ hk => .inl hk⟩
theorem dpA_becomes {w w' : World} {p : Nat} {d : Dk} {n gk gs : Nat} {v v' : Value} (h : DqIn w' p d.kept d.see d.waits d.down n gk gs v') (ht : Tn (dqF p gk gs v) w w') (hv : ∀ j, v'.ownBlock = some j → v.ownBlock = some j ∨ w.heap.size ≤ j) : Becomes (dqF p gk gs v) (dpA p d) w w' := by
  refine ⟨_, ⟨n, gk, gs, v', h, rfl⟩, ht, fun j hj => ?_⟩
  simp at hj
  rcases hj with rfl | rfl | rfl | hj
  · left; simp
  · left; simp
  · left; simp
  · rcases hv j hj with e | e
    · left; simp [e]
    · exact .inr e
open Go Go.RowKit
theorem conv_mid {w : World} {g o : Nat} {s : ByteArray} (cap : Nat) (h : w.rangeAt g o (bV s)) :
    (convert 77 9 (.slice (some ⟨g, o, none⟩) s.size cap)).run Tryz.prog w = .ok (.string s) w := by
  rw [run_convert_bytes_string w 77 9 5 _ _ _ Tryz.underlying77 Tryz.underlying5 Tryz.underlying9]
  have hld := run_loadCells_list (P := Tryz.prog) (w := w) ⟨g, o, none⟩ (bV s) (fun j v hv => by rw [Addr.add_mid]; exact h j v hv)
  have e : bV s = (s.data.toList.map fun b => (b.toNat : Int)).map (Value.int .u8) := by simp [bV]
  rw [bV_len, e] at hld
  rw [run_bytesToString w _ s.size cap _ hld, foldl_push_bytes]
  simp [Function.comp_def]
section
variable {w : World} {p : Nat} {k s : List ByteArray} {ws : List Wt} {dn : Bool} {n gk gs : Nat} {v : Value}
theorem kup (h : DqIn w p k s ws dn n gk gs v) : Calls Tryz.prog 52 #[.pointer (some ⟨p, 0, none⟩)] w fun e w' => e = .returned (.int .i64 (if dn then 801 else 0)) ∧ w = w' := by
  have c3 := h.c3
  clear h
  cases dn with
  | true =>
    go_enter Tryz.func52, Tryz.ntmps52
    go_wp2
    go_ret
    exact ⟨rfl, rfl⟩
  | false =>
    go_enter Tryz.func52, Tryz.ntmps52
    go_wp2
    go_ret
    exact ⟨rfl, rfl⟩
theorem khas (h : DqIn w p k s ws dn n gk gs v) (i : Int) : Calls Tryz.prog 53 #[.pointer (some ⟨p, 0, none⟩), .int .i64 i] w fun e w' => e = .returned (.bool (decide (0 ≤ i) && decide (i < n))) ∧ w = w' := by
  have c0 := h.c0
  clear h
  by_cases h0 : 0 ≤ i
  · by_cases h1 : i < n
    · rw [show (decide (0 ≤ i) && decide (i < (n : Int))) = true by simp [h0, h1]]
      go_enter Tryz.func53, Tryz.ntmps53
      go_wp2
      go_ret
      exact ⟨rfl, rfl⟩
    · rw [show (decide (0 ≤ i) && decide (i < (n : Int))) = false by simp [h0, h1]]
      go_enter Tryz.func53, Tryz.ntmps53
      go_wp2
      go_ret
      exact ⟨rfl, rfl⟩
  · rw [show (decide (0 ≤ i) && decide (i < (n : Int))) = false by simp [h0]]
    go_enter Tryz.func53, Tryz.ntmps53
    go_wp2
    go_ret
    exact ⟨rfl, rfl⟩
end
theorem kprestart (p : Nat) (d : Dk) : Does Tryz.prog (dpA p d) 22 #[.pointer (some ⟨p, 0, none⟩)] (.returned (.int .i64 d.rsE)) (dpA p d.rs) := by
  intro w F h
  have hs := dpA_same h (Below.refl _ _)
  obtain ⟨n, gk, gs, v, hi, rfl⟩ := h
  have c3 := hi.c3
  have f3 := hi.f 3
  have HN := Lib.hid (dpA_becomes (w := w) (d := d.rs) (v := v) (hi.setDown false) ((Tn.refl _ _).setCell (.inl (by simp)) _) (fun j hj => .inl hj))
  clear hi
  cases hd : d.down with
  | false =>
    rw [show d.rsE = 800 by unfold Dk.rsE; rw [hd]; rfl, show d.rs = d by unfold Dk.rs; rw [← hd]]
    rw [hd] at c3
    go_enter Tryz.func22, Tryz.ntmps22
    go_wp2
    go_ret
    exact ⟨rfl, hs⟩
  | true =>
    rw [show d.rsE = 0 by unfold Dk.rsE; rw [hd]; rfl]
    rw [hd] at c3
    go_enter Tryz.func22, Tryz.ntmps22
    go_wp2
    go_ret
    exact ⟨rfl, HN.out⟩
set_option maxRecDepth 100000 in
set_option maxHeartbeats 1000000 in
theorem kpread (p : Nat) (d : Dk) (i : Int) : Does Tryz.prog (dpA p d) 40 #[.pointer (some ⟨p, 0, none⟩), .int .i64 i] (.returned (.tuple #[.string (d.rdS i), .int .i64 (d.rdE i)])) (dpA p d) := by
  intro w F h
  have hs := dpA_same h (Below.refl _ _)
  obtain ⟨n, gk, gs, v, hi, rfl⟩ := h
  have Hu := Lib.hid (kup hi)
  have Hh := Lib.hid (khas hi i)
  have hkn := hi.kn
  cases hd : d.down with
  | true =>
    rw [show d.rdE i = 801 by unfold Dk.rdE; rw [hd]; rfl, show d.rdS i = ⟨#[]⟩ by unfold Dk.rdS; rw [hd]; rfl]
    rw [hd] at Hu
    clear hi
    go_enter Tryz.func40, Tryz.ntmps40
    go_wp2_with (go_at_call 52; (with_reducible refine (Hu.out).mono ?_); rintro e w1 ⟨rfl, rfl⟩)
    go_ret2
    exact ⟨rfl, hs⟩
  | false =>
    rw [hd] at Hu
    cases hh : d.has i with
    | false =>
      rw [show d.rdE i = 800 by unfold Dk.rdE; rw [hd, hh]; rfl, show d.rdS i = ⟨#[]⟩ by unfold Dk.rdS; rw [hd, hh]; rfl]
      unfold Dk.has at hh
      rw [hkn] at hh
      rw [hh] at Hh
      clear hi
      go_enter Tryz.func40, Tryz.ntmps40
      go_wp2_with (first
        | (go_at_call 52; (with_reducible refine (Hu.out).mono ?_); rintro e w1 ⟨rfl, rfl⟩)
        | (go_at_call 53; (with_reducible refine (Hh.out).mono ?_); rintro e w1 ⟨rfl, rfl⟩))
      go_ret2
      exact ⟨rfl, hs⟩
    | true =>
      rw [show d.rdE i = 0 by unfold Dk.rdE; rw [hd, hh]; rfl, show d.rdS i = d.see.getD i.toNat ⟨#[]⟩ by unfold Dk.rdS; rw [hd, hh]; rfl]
      obtain ⟨h0, h1⟩ := (d.has_iff i).1 hh
      unfold Dk.has at hh
      rw [hkn] at hh h1
      rw [hh] at Hh
      obtain ⟨m, rfl⟩ := Int.eq_ofNat_of_zero_le h0
      have hm : m < n := by omega
      have hm2 : m < d.see.length := by rw [hi.sn]; exact hm
      rw [show ((m : Nat) : Int).toNat = m from rfl]
      have c1 := hi.c1
      have h64 : (d.see.getD m ⟨#[]⟩).size = 64 := getD_sz hi.ss hm2
      have hcv := conv_mid (w := w) (g := gs) (o := m * 64) (s := d.see.getD m ⟨#[]⟩) 64 (rangeAt_row hi.bs fun j u hu => flatS_at hi.ss hm2 hu)
      rw [h64] at hcv
      clear hi h64
      generalize d.see.getD m ⟨#[]⟩ = R at *
      go_enter Tryz.func40, Tryz.ntmps40
      go_wp2_with (first
        | (go_at_call 52; (with_reducible refine (Hu.out).mono ?_); rintro e w1 ⟨rfl, rfl⟩)
        | (go_at_call 53; (with_reducible refine (Hh.out).mono ?_); rintro e w1 ⟨rfl, rfl⟩))
      go_ret2
      exact ⟨rfl, hs⟩
end Go.Proofs.YtbfpfmidjdonjaaGreatDoor
