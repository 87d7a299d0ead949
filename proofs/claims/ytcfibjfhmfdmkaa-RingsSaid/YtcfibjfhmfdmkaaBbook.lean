
/- The program's Book in memory, and what its calls answer: New, Find, Len, Term, add, Name. No condition but that the book is one. -/
import Derived.Test.YtcfibjfhmfdmkaaProg
import Derived.Test.YtcfibjfhmfdmkaaShelf
import Derived.Test.YtcfibjfhmfdmkaaSep
import Derived.Test.YtcfibjfhmfdmkaaBplain
import Derived.WalkKit
import Derived.WalkSpells
import Derived.WalkLawsBesides
import Derived.Lib.Hide
import Derived.Maps.OwnSet
import Derived.OwnWalk
import Derived.OneCell
import Derived.BigQuiet
import Derived.Deep.QuietTactic
namespace Go.Proofs.Ytcfibjfhmfdmkaa
open Go Go.RowKit Go.Maps Go.ChangeMaps Go.WideMaps

theorem mlaw : Keyed Try.prog 9 := string_keyed Try.underlying9
theorem mzero (w : World) : (zeroValue 3).run Try.prog w = .ok (.int .i64 0) w := by kernel_rfl
theorem infoS : (Try.prog.info? 9).map (fun i => (i.zero, i.size, i.bytes)) = some (some (.string ⟨#[]⟩), 1, 16) := by kernel_rfl

/-- A row of strings that the call itself made. -/
def rowS (w : World) (v : Value) (ts : List ByteArray) : Prop := w.ownsRow 0 9 1 v ts.length (ts.map Value.string)
theorem rowS_shape {w : World} {v : Value} {ts : List ByteArray} (h : rowS w v ts) : ∃ ao cap, v = .slice ao ts.length cap := by
  rcases h.2 with ⟨rfl, h0⟩ | ⟨g, cap, _, rfl, _⟩
  · exact ⟨none, 0, by rw [h0]⟩
  · exact ⟨_, cap, rfl⟩
theorem rowS_some {w : World} {v : Value} {ts : List ByteArray} (h : rowS w v ts) {i : Nat} (hi : i < ts.length) : ∃ g cap, v = .slice (some ⟨g, 0, none⟩) ts.length cap ∧ w.cell? ⟨g, i, none⟩ = some (.string (ts.getD i ⟨#[]⟩)) := by
  rcases h.2 with ⟨rfl, h0⟩ | ⟨g, cap, _, rfl, _⟩
  · omega
  · refine ⟨g, cap, rfl, ?_⟩
    have hc := h.cells (g := g) rfl i (.string (ts.getD i ⟨#[]⟩)) (by simp [List.getD, hi])
    rw [Addr.add_lit, Nat.zero_add] at hc
    exact hc

structure BookIn (w : World) (p : Nat) (most : Int) (ts : List ByteArray) (v : Value) (bm : Nat) (D : DataW Unit) : Prop where
  c0 : w.cell? ⟨p, 0, none⟩ = some (.int .i64 most)
  c1 : w.cell? ⟨p, 1, none⟩ = some v
  c2 : w.cell? ⟨p, 2, none⟩ = some (.map (some bm))
  f1 : w.frozen? ⟨p, 1, none⟩ = false
  row : rowS w v ts
  mp : w.ownsMap Try.prog 9 (plainElem Try.prog 3) bm ts.length D
  ix : Ix D ts
  nd : ts.Nodup
  ok : ∀ t ∈ ts, okT t = true
  lm : (ts.length : Int) ≤ most
  m1 : 1 ≤ most
  m2 : most ≤ 65536
  pm : p ≠ bm
  pv : v.ownBlock ≠ some p
  vm : v.ownBlock ≠ some bm
/-- At p there is a book of at most so many terms, with these. -/
def bookA (p : Nat) (most : Int) (ts : List ByteArray) : Ass := fun w F => ∃ v bm D, BookIn w p most ts v bm D ∧ F = p :: bm :: v.ownBlock.toList

theorem BookIn.lt {w : World} {p : Nat} {most : Int} {ts : List ByteArray} {v : Value} {bm : Nat} {D : DataW Unit} (h : BookIn w p most ts v bm D) : ∀ k ∈ p :: bm :: v.ownBlock.toList, k < w.heap.size := by
  intro k hk
  simp at hk
  rcases hk with rfl | rfl | hk
  · exact World.block_lt_of_cell? w ⟨k, 0, none⟩ h.c0
  · exact h.mp.lt
  · exact (h.row.lt k hk).2
theorem BookIn.on {w w' : World} {p : Nat} {most : Int} {ts : List ByteArray} {v : Value} {bm : Nat} {D : DataW Unit} (h : BookIn w p most ts v bm D) (hw' : ∀ k ∈ p :: bm :: v.ownBlock.toList, w'.heap[k]? = w.heap[k]?) : BookIn w' p most ts v bm D := by
  have hp : w'.heap[p]? = w.heap[p]? := hw' p (by simp)
  have hb : w'.heap[bm]? = w.heap[bm]? := hw' bm (by simp)
  refine { h with c0 := ?_, c1 := ?_, c2 := ?_, f1 := ?_, row := ?_, mp := ?_ }
  · rw [World.cell?_of_block (w := w) hp]; exact h.c0
  · rw [World.cell?_of_block (w := w) hp]; exact h.c1
  · rw [World.cell?_of_block (w := w) hp]; exact h.c2
  · rw [World.frozen?_of_block (w := w) hp]; exact h.f1
  · refine ⟨h.row.1, ?_⟩
    rcases h.row.2 with hn | ⟨g, cap, cur, rfl, hb, hgg, rest⟩
    · exact .inl hn
    · exact .inr ⟨g, cap, cur, rfl, hb, (hw' g (by simp [Value.ownBlock])).trans hgg, rest⟩
  · obtain ⟨es, clock, h1, h2⟩ := h.mp
    exact ⟨es, clock, hb.trans h1, h2⟩
theorem BookIn.below {w w' : World} {p : Nat} {most : Int} {ts : List ByteArray} {v : Value} {bm : Nat} {D : DataW Unit} (h : BookIn w p most ts v bm D) (hb : Below w.heap.size w w') : BookIn w' p most ts v bm D :=
  h.on fun k hk => hb.block k (h.lt k hk)
theorem bookA_good (p : Nat) (most : Int) (ts : List ByteArray) : (bookA p most ts).Good := by
  rintro w F ⟨v, bm, D, h, rfl⟩
  exact ⟨h.lt, fun w' hw' => ⟨v, bm, D, h.on hw', rfl⟩⟩

/-- What New leaves. -/
def NewP (most : Int) (w : World) (e : Ending) (w' : World) : Prop := ∃ p : Nat, e = .returned (.tuple #[.pointer (some ⟨p, 0, none⟩), .int .i64 0]) ∧ Becomes [] (bookA p most []) w w'

set_option maxHeartbeats 1000000 in
theorem bnew_ok (most : Int) (w : World) (h1 : 1 ≤ most) (h2 : most ≤ 65536) : Calls Try.prog 13 #[.int .i64 most] w (NewP most w) := by
  have hmm := @run_makeMap Try.prog
  go_enter Try.func13, Try.ntmps13
  go_wp2
  go_ret2
  refine ⟨w.heap.size + 1, rfl, [w.heap.size + 1, w.heap.size], ⟨.slice none 0 0, w.heap.size, .map [], ?_, rfl⟩, ((Tn.refl _ _).alloc _).alloc _, fun k hk => .inr ?_⟩
  · refine { c0 := by simp, c1 := by simp, c2 := by simp, f1 := by simp, row := World.ownsRow_nil _ _ _ _, mp := (World.ownsMap_made _ _ _ _).alloc _, ix := Ix_nil, nd := List.nodup_nil, ok := fun t ht => (by cases ht), lm := by simp; omega, m1 := h1, m2 := h2, pm := by omega, pv := by simp [Value.ownBlock], vm := by simp [Value.ownBlock] }
  · simp at hk; omega
theorem bnew_bad (most : Int) (w : World) (h : most < 1 ∨ 65536 < most) : Calls Try.prog 13 #[.int .i64 most] w fun e w' => e = .returned (.tuple #[.pointer none, .int .i64 200]) ∧ w = w' := by
  rcases h with h | h
  · go_enter Try.func13, Try.ntmps13
    go_wp2
    go_ret2
    exact ⟨rfl, rfl⟩
  · have h' : ¬ most < 1 := by omega
    go_enter Try.func13, Try.ntmps13
    go_wp2
    go_ret2
    exact ⟨rfl, rfl⟩

theorem blen (p : Nat) (most : Int) (ts : List ByteArray) (w : World) (F : List Nat) (h : bookA p most ts w F) :
    Calls Try.prog 23 #[.pointer (some ⟨p, 0, none⟩)] w fun e w' => e = .returned (.int .i64 ((ts.length : Nat) : Int)) ∧ w = w' := by
  obtain ⟨v, bm, D, hb, rfl⟩ := h
  obtain ⟨ao, cap, rfl⟩ := rowS_shape hb.row
  have c1 := hb.c1
  clear hb
  go_enter Try.func23, Try.ntmps23
  go_wp2
  go_ret
  exact ⟨rfl, rfl⟩

end Go.Proofs.Ytcfibjfhmfdmkaa
