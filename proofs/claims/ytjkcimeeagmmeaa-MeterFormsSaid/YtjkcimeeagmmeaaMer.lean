/- The reference's Over and Deliver: what they answer. No condition. -/
import Derived.Test.YtjkcimeeagmmeaaMe
import Derived.Test.YtjkcimeeagmmeaaProg
import Derived.Test.YtjkcimeeagmmeaaBlk
import Derived.Lib.Hide
import Derived.WalkSpells
import Derived.WalkLawsBesides
import Derived.Great.Walk
import Derived.OwnWalk
import Derived.IntWalk
import Derived.Below
import Derived.Deep.RegionWith
namespace Go.Proofs.Ytjkcimeeagmmeaa
open Go Go.RowKit

abbrev TMe : TypeId := 23
abbrev meA (s l b : Int) : Array Value := #[.int .i64 s, .int .i64 l, .int .i64 b]
theorem me_one {w w1 : World} {c : Array Value} {T : TypeId} (hb : Below (w.alloc (.cells c T)).heap.size (w.alloc (.cells c T)) w1) : Blk w1 w.heap.size c ∧ Below w.heap.size w w1 :=
  ⟨(Blk.new w c T).step hb, ((Below.refl _ _).alloc (Nat.le_refl _) _).trans (hb.mono (by simp))⟩
theorem me_two {w w1 : World} {A B : Array Value} {tA tB : TypeId} (hb : Below ((w.alloc (.cells A tA)).alloc (.cells B tB)).heap.size ((w.alloc (.cells A tA)).alloc (.cells B tB)) w1) :
    Blk w1 w.heap.size A ∧ Blk w1 (w.heap.size + 1) B ∧ Below w.heap.size w w1 :=
  ⟨((Blk.new w A tA).alloc _).step hb, (Blk.new' (w.alloc (.cells A tA)) _ (by simp) B tB).step hb, (((Below.refl _ _).alloc (Nat.le_refl _) _).alloc (by simp) _).trans (hb.mono (by simp; omega))⟩
theorem me_drewn {B : Nat} {w Z : World} (h : Below B w Z) : Below B w Z.drew := ⟨h.os, h.tape, h.output, h.size, h.block⟩
theorem rmenum (x : Int) (r : Bool) (h : meNum x = r) (w : World) : Calls Try.prog 16 #[.int .i64 x] w fun e w' => e = .returned (.bool r) ∧ w = w' := by
  subst h
  unfold meNum
  go_enter Try.func16, Try.ntmps16
  go_wp2
  all_goals (go_ret; refine ⟨?_, rfl⟩; congr 2; simp [*] <;> omega)
set_option maxRecDepth 100000 in
set_option maxHeartbeats 4000000 in
theorem rmemay (s l b : Int) (w : World) : Calls Try.prog 15 #[.agg (meA s l b)] w fun e w' => e = .returned (.bool (meMay s l b)) ∧ Below w.heap.size w w' := by
  have HB := Lib.hid ((Below.refl w.heap.size w).alloc (Nat.le_refl _) (.cells (meA s l b) TMe))
  unfold meMay
  cases hs : meNum s with
  | false =>
    go_enter Try.func15, Try.ntmps15
    go_wp2_with (go_at_call 16; (with_reducible refine (rmenum _ _ hs _).mono ?_); rintro e w1 ⟨rfl, rfl⟩)
    go_ret
    exact ⟨rfl, HB.out⟩
  | true =>
    cases hl : meNum l with
    | false =>
      go_enter Try.func15, Try.ntmps15
      go_wp2_with (go_at_call 16; first
        | ((with_reducible refine (rmenum _ _ hs _).mono ?_); rintro e w1 ⟨rfl, rfl⟩)
        | ((with_reducible refine (rmenum _ _ hl _).mono ?_); rintro e w1 ⟨rfl, rfl⟩))
      all_goals (go_ret; exact ⟨rfl, HB.out⟩)
    | true =>
      cases hb : meNum b with
      | false =>
        go_enter Try.func15, Try.ntmps15
        go_wp2_with (go_at_call 16; first
          | ((with_reducible refine (rmenum _ _ hs _).mono ?_); rintro e w1 ⟨rfl, rfl⟩)
          | ((with_reducible refine (rmenum _ _ hl _).mono ?_); rintro e w1 ⟨rfl, rfl⟩)
          | ((with_reducible refine (rmenum _ _ hb _).mono ?_); rintro e w1 ⟨rfl, rfl⟩))
        all_goals (go_ret; exact ⟨rfl, HB.out⟩)
      | true =>
        go_enter Try.func15, Try.ntmps15
        go_wp2_with (go_at_call 16; first
          | ((with_reducible refine (rmenum _ _ hs _).mono ?_); rintro e w1 ⟨rfl, rfl⟩)
          | ((with_reducible refine (rmenum _ _ hl _).mono ?_); rintro e w1 ⟨rfl, rfl⟩)
          | ((with_reducible refine (rmenum _ _ hb _).mono ?_); rintro e w1 ⟨rfl, rfl⟩))
        all_goals (go_ret; exact ⟨by simp, HB.out⟩)
end Go.Proofs.Ytjkcimeeagmmeaa
