/- Put together: Reader, Rd. Conditions: each theorem's own. -/
import Derived.Test.YtcakipojmkehgaaDoorBfr
import Derived.Test.YtcakipojmkehgaaDoorBpm
import Derived.Deep.QuietTactic
import Derived.BigQuiet
namespace Go.Proofs.YtcakipojmkehgaaDoor
open Go Go.RowKit

theorem setCell_id {w : World} {a : Addr} {v : Value} (h : w.cell? a = some v) : w.setCell a v = w := by
  obtain ⟨heap, tape, drawn, os, output⟩ := w
  unfold World.cell? at h
  unfold World.setCell
  simp only at h ⊢
  congr 1
  apply Array.ext_getElem?
  intro i
  rw [Array.getElem?_modify]
  by_cases e : a.block = i
  · subst e
    rw [if_pos rfl]
    cases hb : heap[a.block]? with
    | none => rfl
    | some o =>
      rw [hb] at h
      cases o with
      | cells c t fr =>
        simp only at h
        split at h
        · cases h
        · rename_i hsp
          simp only [Option.map_some, Option.some.injEq]
          rw [if_neg hsp]
          congr 1
          apply Array.ext_getElem?
          intro j
          rw [Array.getElem?_setIfInBounds]
          by_cases ej : a.off = j
          · subst ej
            have hlt : a.off < c.size := (Array.getElem?_eq_some_iff.1 h).1
            rw [if_pos rfl, if_pos hlt, h]
          · rw [if_neg ej]
      | _ => cases h
  · rw [if_neg e]

/-- A reader over s at a lies at q. -/
structure RdAt (w : World) (q : Nat) (s : ByteArray) (a : Int) (b : Bool) : Prop where
  c0 : w.cell? ⟨q, 0, none⟩ = some (.string s)
  c1 : w.cell? ⟨q, 1, none⟩ = some (.int .i64 a)
  c2 : w.cell? ⟨q, 2, none⟩ = some (.bool b)
  f1 : w.frozen? ⟨q, 1, none⟩ = false
  f2 : w.frozen? ⟨q, 2, none⟩ = false
/-- The world in which the reader at q has come to a, with the flag b. -/
def rdW (w : World) (q : Nat) (a : Int) (b : Bool) : World := (w.setCell ⟨q, 1, none⟩ (.int .i64 a)).setCell ⟨q, 2, none⟩ (.bool b)
theorem rdW_ok {w : World} {q : Nat} {s : ByteArray} {a a' : Int} (h : RdAt w q s a false) (n : Nat) : (w.drewN n).setCell ⟨q, 1, none⟩ (.int .i64 a') = (rdW w q a' false).drewN n := by
  unfold rdW
  rw [setCell_id (w := w.setCell ⟨q, 1, none⟩ (.int .i64 a')) (by rw [World.cell?_setCell_other _ _ _ _ (by simp)]; exact h.c2)]
  rfl
theorem rdW_bad {w : World} {q : Nat} {s : ByteArray} {a : Int} {b : Bool} (h : RdAt w q s a b) (n : Nat) : (w.drewN n).setCell ⟨q, 2, none⟩ (.bool true) = (rdW w q a true).drewN n := by
  unfold rdW
  rw [setCell_id (w := w) h.c1]
  rfl

def RdP (w : World) (q : Nat) (v : Value) (a : Int) (b : Bool) (e : Ending) (w' : World) : Prop := e = .returned v ∧ ∃ n, w' = (rdW w q a b).drewN n

set_option maxHeartbeats 2000000 in
theorem rdnum (q : Nat) (s : ByteArray) (a : Int) (b : Bool) (w : World) (h : RdAt w q s a b) (hs : s.size ≤ 9223372036854770000) (a0 : 0 ≤ a) (a1 : a ≤ s.size) :
    Calls Tryd.prog 50 #[.pointer (some ⟨q, 0, none⟩)] w (RdP w q (.int .i64 (rnX s a b)) (rnA s a b) (rnB s a b)) := by
  have hg := fun w => rget s a w hs (by omega) (by omega)
  have c0 := h.c0
  have c1 := h.c1
  have c2 := h.c2
  have f1 := h.f1
  have f2 := h.f2
  have Hok := Lib.hid (fun (h : RdAt w q s a false) a' n => rdW_ok (a' := a') h n)
  have Hbad := Lib.hid (fun n => rdW_bad h n)
  cases b with
  | true =>
    rw [show rnX s a true = 0 from rfl, show rnA s a true = a from rfl, show rnB s a true = true from rfl]
    have HG := Lib.hid hg
    clear hg h a0 a1 hs Hok
    go_enter Tryd.func50, Tryd.ntmps50
    go_wp2
    go_quiet ((go_at_call 62; exact Calls.quiet_of_same (HG.out _)))
    go_wp2
    go_ret
    exact ⟨rfl, _, Hbad.out _⟩
  | false =>
    by_cases hE : getE s a = 0
    · have e1 : rnB s a false = false := by simp [rnB, hE]
      rw [show rnX s a false = getX s a by unfold rnX; rw [e1]; rfl, show rnA s a false = getTo s a by unfold rnA; rw [e1]; rfl, e1]
      rw [hE] at hg
      have HG := Lib.hid hg
      have HH := Lib.hid h
      clear hg h a0 a1 hs hE e1 Hbad
      go_enter Tryd.func50, Tryd.ntmps50
      go_wp2
      go_quiet ((go_at_call 62; exact Calls.quiet_of_same (HG.out _)))
      go_wp2
      go_ret
      exact ⟨rfl, _, Hok.out HH.out _ _⟩
    · have e1 : rnB s a false = true := by simp [rnB, hE]
      rw [show rnX s a false = 0 by unfold rnX; rw [e1]; rfl, show rnA s a false = a by unfold rnA; rw [e1]; rfl, e1]
      have hx := getX_ne hE
      have ht := getTo_ne hE
      rw [hx, ht] at hg
      have he' : (getE s a == 0) = false := by simpa using hE
      have he2 : (getE s a != 0) = true := by simpa using hE
      generalize getE s a = ee at *
      have HG := Lib.hid hg
      clear hg h a0 a1 hs hE e1 hx ht Hok
      go_enter Tryd.func50, Tryd.ntmps50
      go_wp2
      go_quiet ((go_at_call 62; exact Calls.quiet_of_same (HG.out _)))
      go_wp2
      go_ret
      exact ⟨rfl, _, Hbad.out _⟩
end Go.Proofs.YtcakipojmkehgaaDoor

namespace Go.Proofs.YtcakipojmkehgaaDoor
open Go Go.RowKit

theorem rdW_top (X : World) (q : Nat) (hq : X.heap.size = q) (s : ByteArray) (a a' : Int) (b b' : Bool) (T : TypeId) (n : Nat) :
    (rdW (X.alloc (.cells #[.string s, .int .i64 a, .bool b] T)) q a' b').drewN n = (X.drewN n).alloc (.cells #[.string s, .int .i64 a', .bool b'] T) := by
  subst hq
  unfold rdW
  rw [World.setCell_alloc_at _ _ _ _ _ rfl, World.setCell_alloc_at _ _ _ _ _ rfl]
  rfl
theorem rdW_under (X : World) (q : Nat) (hq : X.heap.size = q) (s : ByteArray) (a a' : Int) (b b' : Bool) (T : TypeId) (P : Obj) (n : Nat) :
    (rdW ((X.alloc (.cells #[.string s, .int .i64 a, .bool b] T)).alloc P) q a' b').drewN n = ((X.drewN n).alloc (.cells #[.string s, .int .i64 a', .bool b'] T)).alloc P := by
  subst hq
  unfold rdW
  rw [World.setCell_alloc_past _ _ _ _ (by simp), World.setCell_alloc_past _ _ _ _ (by simp), World.setCell_alloc_at _ _ _ _ _ rfl, World.setCell_alloc_at _ _ _ _ _ rfl]
  rfl
theorem rdAt_top (X : World) (q : Nat) (hq : X.heap.size = q) (s : ByteArray) (a : Int) (b : Bool) (T : TypeId) : RdAt (X.alloc (.cells #[.string s, .int .i64 a, .bool b] T)) q s a b := by
  subst hq
  exact ⟨by simp, by simp, by simp, by simp, by simp⟩
theorem rdAt_under (X : World) (q : Nat) (hq : X.heap.size = q) (s : ByteArray) (a : Int) (b : Bool) (T : TypeId) (P : Obj) : RdAt ((X.alloc (.cells #[.string s, .int .i64 a, .bool b] T)).alloc P) q s a b := by
  subst hq
  exact ⟨by simp, by simp, by simp, by simp, by simp⟩
theorem rdnum2 (s : ByteArray) (a : Int) (b : Bool) (T : TypeId) (hs : s.size ≤ 9223372036854770000) (a0 : 0 ≤ a) (a1 : a ≤ s.size) (X : World) (q : Nat) (hq : X.heap.size = q) :
    Calls Tryd.prog 50 #[.pointer (some ⟨q, 0, none⟩)] (X.alloc (.cells #[.string s, .int .i64 a, .bool b] T))
      fun e w' => e = .returned (.int .i64 (rnX s a b)) ∧ ∃ n, w' = (X.drewN n).alloc (.cells #[.string s, .int .i64 (rnA s a b), .bool (rnB s a b)] T) := by
  refine (rdnum q s a b _ (rdAt_top X q hq s a b T) hs a0 a1).mono ?_
  rintro e w' ⟨he, n, rfl⟩
  exact ⟨he, n, rdW_top X q hq s a _ b _ T n⟩
theorem rdnum3 (s : ByteArray) (a : Int) (b : Bool) (T : TypeId) (hs : s.size ≤ 9223372036854770000) (a0 : 0 ≤ a) (a1 : a ≤ s.size) (X : World) (q : Nat) (P : Obj) (hq : X.heap.size = q) :
    Calls Tryd.prog 50 #[.pointer (some ⟨q, 0, none⟩)] ((X.alloc (.cells #[.string s, .int .i64 a, .bool b] T)).alloc P)
      fun e w' => e = .returned (.int .i64 (rnX s a b)) ∧ ∃ n, w' = ((X.drewN n).alloc (.cells #[.string s, .int .i64 (rnA s a b), .bool (rnB s a b)] T)).alloc P := by
  refine (rdnum q s a b _ (rdAt_under X q hq s a b T P) hs a0 a1).mono ?_
  rintro e w' ⟨he, n, rfl⟩
  exact ⟨he, n, rdW_under X q hq s a _ b _ T P n⟩
end Go.Proofs.YtcakipojmkehgaaDoor

