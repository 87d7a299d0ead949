/- What the walks of the reference's May, Put and Get share, whatever the layer. No condition. -/
import Derived.Test.YtodngcpphnmphaaDoorRd
import Derived.Test.YtodngcpphnmphaaDoorHeld
namespace Go.Proofs.YtodngcpphnmphaaDoor
open Go Go.RowKit

theorem rnumb (x : Int) (b : Bool) (h : okNum x = b) (w : World) : Calls Tryd.prog 24 #[.int .i64 x] w fun e w' => e = .returned (.bool b) ∧ w' = w := by subst h; exact rnum0 x w
theorem isE (d : ByteArray) : d.toList = [] ↔ d = ⟨#[]⟩ := by
  obtain ⟨⟨a⟩⟩ := d
  rw [ByteArray.toList_mk]
  constructor
  · intro h; subst h; rfl
  · intro h; exact congrArg (fun b : ByteArray => b.data.toList) h
theorem enc_nums (k : Int) (l : List Int) : numsB [k] ++ numsB l = encL (.n k :: l.map Fld.n) := by
  have h : ∀ l : List Int, numsB l = encL (l.map Fld.n) := by
    intro l
    induction l with
    | nil => rfl
    | cons a l ih => rw [List.map_cons, encL, ← ih]; rfl
  rw [numsB_one, encL, h]; rfl
theorem enc_numst (k : Int) (l : List Int) (d : ByteArray) : (numsB [k] ++ numsB l) ++ textS d = encL (.n k :: (l.map Fld.n ++ [.t d])) := by
  have h : ∀ l : List Int, numsB l ++ textS d = encL (l.map Fld.n ++ [.t d]) := by
    intro l
    induction l with
    | nil => rw [List.map_nil, List.nil_append, encL, show numsB [] = ⟨#[]⟩ from rfl, nil_ba]; exact (ba_nil _).symm
    | cons a l ih => rw [List.map_cons, List.cons_append, encL, ← ih, numsB, ba_assoc]; rfl
  rw [ba_assoc, numsB_one, encL, h]; rfl
theorem okn {x : Int} (h : okNum x = true) : -9223372036854775808 ≤ x ∧ x ≤ 9223372036854775807 := by have := (okNum_iff x).1 h; omega
theorem below_two (w : World) (R A B : Obj) (m : Nat) : Below w.heap.size w ((((w.alloc R).drewN m).alloc A).alloc B) :=
  ((((Below.refl w.heap.size w).alloc (Nat.le_refl _) R).trans (⟨rfl, rfl, rfl, Nat.le_refl _, fun _ _ => rfl⟩ : Below w.heap.size (w.alloc R) ((w.alloc R).drewN m))).alloc (by simp) A).alloc (by simp; omega) B
theorem bcellX {W w1 : World} (hb : Below W.heap.size W w1) : (∀ b o, b < W.heap.size → w1.cell? ⟨b, o, none⟩ = W.cell? ⟨b, o, none⟩) ∧ (∀ b o, b < W.heap.size → w1.frozen? ⟨b, o, none⟩ = W.frozen? ⟨b, o, none⟩) :=
  ⟨fun b o h => hb.cell (p := ⟨b, o, none⟩) h, fun b o h => hb.frozen (p := ⟨b, o, none⟩) h⟩
theorem below_after {w W w1 : World} (h : Below w.heap.size w W) (hb : Below W.heap.size W w1) : Below w.heap.size w w1 := h.trans (hb.mono h.size)
theorem res_after {w w1 : World} {R : Array Value} {T : TypeId} {A B : Obj} {m : Nat} (hb : Below ((((w.alloc (.cells R T)).drewN m).alloc A).alloc B).heap.size ((((w.alloc (.cells R T)).drewN m).alloc A).alloc B) w1) (i : Nat) :
    w1.cell? ⟨w.heap.size, i, none⟩ = R[i]? := by
  rw [hb.cell (p := ⟨w.heap.size, i, none⟩) (by simp; omega), World.cell?_alloc_past _ _ _ (by simp; omega), World.cell?_alloc_past _ _ _ (by simp)]
  show (w.alloc (.cells R T)).cell? ⟨w.heap.size, i, none⟩ = R[i]?
  exact World.cell?_alloc_at _ _ _ _ rfl
end Go.Proofs.YtodngcpphnmphaaDoor
