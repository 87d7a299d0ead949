/- The reference's Reader: what its Text answers, also in a block of the call's own, beneath one more. Condition: the reader's three cells lie where they should, and its place within its bytes. -/
import Derived.Test.YthbnkejjipiaaaaDoorRd
import Derived.Test.YthbnkejjipiaaaaDoorRtext
import Derived.Deep.QuietTactic
import Derived.BigQuiet
namespace Go.Proofs.YthbnkejjipiaaaaDoor
open Go Go.RowKit

set_option maxHeartbeats 2000000 in
theorem rdtext (q : Nat) (s : ByteArray) (a : Int) (b : Bool) (w : World) (h : RdAt w q s a b) (hs : s.size ≤ 9223372036854770000) (a0 : 0 ≤ a) (a1 : a ≤ s.size) :
    Calls Tryd.prog 35 #[.pointer (some ⟨q, 0, none⟩)] w (RdP w q (.string (rtX s a b)) (rtA s a b) (rtB s a b)) := by
  have hg := fun w => (rgett s a w hs (by omega) (by omega)).mono fun _ _ ⟨x, y⟩ => (⟨x, y.symm⟩ : _ ∧ _ = w)
  have c0 := h.c0
  have c1 := h.c1
  have c2 := h.c2
  have f1 := h.f1
  have f2 := h.f2
  have Hok := Lib.hid (fun (h : RdAt w q s a false) a' n => rdW_ok (a' := a') h n)
  have Hbad := Lib.hid (fun n => rdW_bad h n)
  cases b with
  | true =>
    rw [show rtX s a true = ⟨#[]⟩ from rfl, show rtA s a true = a from rfl, show rtB s a true = true from rfl]
    have HG := Lib.hid hg
    clear hg h a0 a1 hs Hok
    go_enter Tryd.func35, Tryd.ntmps35
    go_wp2
    go_quiet ((go_at_call 51; exact Calls.quiet_of_same (HG.out _)))
    go_wp2
    go_ret
    exact ⟨rfl, _, Hbad.out _⟩
  | false =>
    by_cases hE : txtE s a = 0
    · have e1 : rtB s a false = false := by simp [rtB, hE]
      rw [show rtX s a false = txtS s a by unfold rtX; rw [e1]; rfl, show rtA s a false = txtTo s a by unfold rtA; rw [e1]; rfl, e1]
      rw [hE] at hg
      have HG := Lib.hid hg
      have HH := Lib.hid h
      clear hg h a0 a1 hs hE e1 Hbad
      go_enter Tryd.func35, Tryd.ntmps35
      go_wp2
      go_quiet ((go_at_call 51; exact Calls.quiet_of_same (HG.out _)))
      go_wp2
      go_ret
      exact ⟨rfl, _, Hok.out HH.out _ _⟩
    · have e1 : rtB s a false = true := by simp [rtB, hE]
      rw [show rtX s a false = ⟨#[]⟩ by unfold rtX; rw [e1]; rfl, show rtA s a false = a by unfold rtA; rw [e1]; rfl, e1]
      have hx := txtS_ne hE
      have ht := txtTo_ne hE
      rw [hx, ht] at hg
      have he' : (txtE s a == 0) = false := by simpa using hE
      have he2 : (txtE s a != 0) = true := by simpa using hE
      generalize txtE s a = ee at *
      have HG := Lib.hid hg
      clear hg h a0 a1 hs hE e1 hx ht Hok
      go_enter Tryd.func35, Tryd.ntmps35
      go_wp2
      go_quiet ((go_at_call 51; exact Calls.quiet_of_same (HG.out _)))
      go_wp2
      go_ret
      exact ⟨rfl, _, Hbad.out _⟩
theorem rdtext3 (s : ByteArray) (a : Int) (b : Bool) (T : TypeId) (hs : s.size ≤ 9223372036854770000) (a0 : 0 ≤ a) (a1 : a ≤ s.size) (X : World) (q : Nat) (P : Obj) (hq : X.heap.size = q) :
    Calls Tryd.prog 35 #[.pointer (some ⟨q, 0, none⟩)] ((X.alloc (.cells #[.string s, .int .i64 a, .bool b] T)).alloc P)
      fun e w' => e = .returned (.string (rtX s a b)) ∧ ∃ n, w' = ((X.drewN n).alloc (.cells #[.string s, .int .i64 (rtA s a b), .bool (rtB s a b)] T)).alloc P := by
  refine (rdtext q s a b _ (rdAt_under X q hq s a b T P) hs a0 a1).mono ?_
  rintro e w' ⟨he, n, rfl⟩
  exact ⟨he, n, rdW_under X q hq s a _ b _ T P n⟩
end Go.Proofs.YthbnkejjipiaaaaDoor
