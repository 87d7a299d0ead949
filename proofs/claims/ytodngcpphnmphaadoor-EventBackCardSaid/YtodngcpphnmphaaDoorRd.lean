/- The reference's Reader in a block of the call's own, beneath one more block or none. No condition but its place. -/
import Derived.Test.YtodngcpphnmphaaDoorReader
namespace Go.Proofs.YtodngcpphnmphaaDoor
open Go Go.RowKit

theorem rdW_top (X : World) (q : Nat) (hq : X.heap.size = q) (s : ByteArray) (a a' : Int) (b b' : Bool) (T : TypeId) (n : Nat) :
    (rdW (X.alloc (.cells #[.string s, .int .i64 a, .bool b] T)) q a' b').drewN n = (X.drewN n).alloc (.cells #[.string s, .int .i64 a', .bool b'] T) := by
  subst hq
  unfold rdW
  rw [World.setCell_alloc_at _ _ _ _ _ rfl, World.setCell_alloc_at _ _ _ _ _ rfl]
  rfl
theorem rdW_under (X : World) (q : Nat) (hq : X.heap.size = q) (s : ByteArray) (a a' : Int) (b b' : Bool) (T : TypeId) (P : Obj) (n : Nat) :
    (rdW ((X.alloc (.cells #[.string s, .int .i64 a, .bool b] T)).alloc P) q a' b').drewN n = ((X.drewN n).alloc (.cells #[.string s, .int .i64 a', .bool b'] T)).alloc P := by
  subst hq
  unfold rdW
  rw [World.setCell_alloc_past _ _ _ _ (by simp), World.setCell_alloc_past _ _ _ _ (by simp), World.setCell_alloc_at _ _ _ _ _ rfl, World.setCell_alloc_at _ _ _ _ _ rfl]
  rfl
theorem rdAt_top (X : World) (q : Nat) (hq : X.heap.size = q) (s : ByteArray) (a : Int) (b : Bool) (T : TypeId) : RdAt (X.alloc (.cells #[.string s, .int .i64 a, .bool b] T)) q s a b := by
  subst hq
  exact ⟨by simp, by simp, by simp, by simp, by simp⟩
theorem rdAt_under (X : World) (q : Nat) (hq : X.heap.size = q) (s : ByteArray) (a : Int) (b : Bool) (T : TypeId) (P : Obj) : RdAt ((X.alloc (.cells #[.string s, .int .i64 a, .bool b] T)).alloc P) q s a b := by
  subst hq
  exact ⟨by simp, by simp, by simp, by simp, by simp⟩
theorem rdnum2 (s : ByteArray) (a : Int) (b : Bool) (T : TypeId) (hs : s.size ≤ 9223372036854770000) (a0 : 0 ≤ a) (a1 : a ≤ s.size) (X : World) (q : Nat) (hq : X.heap.size = q) :
    Calls Tryd.prog 20 #[.pointer (some ⟨q, 0, none⟩)] (X.alloc (.cells #[.string s, .int .i64 a, .bool b] T))
      fun e w' => e = .returned (.int .i64 (rnX s a b)) ∧ ∃ n, w' = (X.drewN n).alloc (.cells #[.string s, .int .i64 (rnA s a b), .bool (rnB s a b)] T) := by
  refine (rdnum q s a b _ (rdAt_top X q hq s a b T) hs a0 a1).mono ?_
  rintro e w' ⟨he, n, rfl⟩
  exact ⟨he, n, rdW_top X q hq s a _ b _ T n⟩
theorem rdnum3 (s : ByteArray) (a : Int) (b : Bool) (T : TypeId) (hs : s.size ≤ 9223372036854770000) (a0 : 0 ≤ a) (a1 : a ≤ s.size) (X : World) (q : Nat) (P : Obj) (hq : X.heap.size = q) :
    Calls Tryd.prog 20 #[.pointer (some ⟨q, 0, none⟩)] ((X.alloc (.cells #[.string s, .int .i64 a, .bool b] T)).alloc P)
      fun e w' => e = .returned (.int .i64 (rnX s a b)) ∧ ∃ n, w' = ((X.drewN n).alloc (.cells #[.string s, .int .i64 (rnA s a b), .bool (rnB s a b)] T)).alloc P := by
  refine (rdnum q s a b _ (rdAt_under X q hq s a b T P) hs a0 a1).mono ?_
  rintro e w' ⟨he, n, rfl⟩
  exact ⟨he, n, rdW_under X q hq s a _ b _ T P n⟩
end Go.Proofs.YtodngcpphnmphaaDoor
