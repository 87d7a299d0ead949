/- The law's sameBooks answers true of a book and a reference's book with the same terms. No other condition. -/
import Derived.Test.YtcakipojmkehgaaDoorBbk
namespace Go.Proofs.YtcakipojmkehgaaDoor
open Go Go.RowKit Go.Maps

set_option maxHeartbeats 2000000 in
theorem bsame15 (p q : Nat) (most : Int) (ts : List ByteArray) (w : World) (F G : List Nat) (h : bookA p most ts w F) (g : refA q most ts w G) :
    Calls Tryd.prog 15 #[.pointer (some ⟨p, 0, none⟩), .pointer (some ⟨q, 0, none⟩)] w fun e w' => e = .returned (.bool true) ∧ Below w.heap.size w w' := by
  have hlen : ∀ w', Below w.heap.size w w' → Calls Tryd.prog 16 #[.pointer (some ⟨p, 0, none⟩)] w' fun e w'' => e = .returned (.int .i64 ((ts.length : Nat) : Int)) ∧ w'' = w' := fun w' hb =>
    (blen p most ts w' F ((bookA_good p most ts).below h hb)).mono fun e w'' ⟨a, b⟩ => ⟨a, b.symm⟩
  have hterm : ∀ w' (k : Nat), k < ts.length → Below w.heap.size w w' → Calls Tryd.prog 33 #[.pointer (some ⟨p, 0, none⟩), .int .i64 ((k : Nat) : Int)] w' fun e w'' => e = .returned (.tuple #[.string (ts.getD k ⟨#[]⟩), .int .i64 0]) ∧ Below w.heap.size w w'' := fun w' k hk hb => by
    have := bterm p most ts ((k : Nat) : Int) w' F ((bookA_good p most ts).below h hb)
    rw [tmS_in hk, tmE_in hk] at this
    exact this.mono fun e w'' ⟨a, b⟩ => ⟨a, hb.trans (b.mono hb.size)⟩
  obtain ⟨v, hb, hG⟩ := g
  have hcell : ∀ w', Below w.heap.size w w' → w'.cell? ⟨q, 1, none⟩ = some v := fun w' hbl => (hb.below hbl).c1
  have hrow : ∀ (k : Nat) w', k < ts.length → Below w.heap.size w w' → ∃ g cap, v = .slice (some ⟨g, 0, none⟩) ts.length cap ∧ w'.cell? ⟨g, k, none⟩ = some (.string (ts.getD k ⟨#[]⟩)) := fun k w' hk hbl => rowS_some (hb.below hbl).row hk
  have hl := hb.lm
  have h2 := hb.m2
  have c1 := hb.c1
  obtain ⟨ao, cap, rfl⟩ := rowS_shape hb.row
  have Hlen := Lib.hid hlen
  have Hterm := Lib.hid hterm
  have Hcell := Lib.hid hcell
  have Hrow := Lib.hid hrow
  clear hb hlen hterm hcell hrow h hG
  go_enter Tryd.func15, Tryd.ntmps15
  go_wp2
  go_quiet ((go_at_call 16; exact Calls.quiet_of_same (Hlen.out _ (below_drewN _ _))))
  go_wp2
  go_loopw [5] (fun i wr => ∃ k : Nat, k ≤ ts.length ∧ i = .int .i64 k ∧ Below w.heap.size w wr) (fun i _ => ts.length - (intOf i).toNat)
  case atStart => exact ⟨ts.length - 40, by omega, congrArg (Value.int .i64) (by omega), below_drewN _ _⟩
  case round =>
    obtain ⟨k, hk, rfl, hbel⟩ := hrel
    have d1 := Hcell.out _ hbel
    by_cases hlt : k < ts.length
    · obtain ⟨g, cap', hv, hc⟩ := Hrow.out k _ hlt hbel
      obtain ⟨rfl, rfl⟩ : ao = some ⟨g, 0, none⟩ ∧ cap = cap' := by simpa using hv
      obtain ⟨s, hs⟩ : ∃ s, ts.getD k ⟨#[]⟩ = s := ⟨_, rfl⟩
      have hT := Hterm.out _ k hlt hbel
      rw [hs] at hT hc
      have hcw : ∀ W, Below w.heap.size w W → W.cell? ⟨g, k, none⟩ = some (.string s) := fun W hW => by
        obtain ⟨g2, cap2, hv2, hc2⟩ := Hrow.out k W hlt hW
        have e : g = g2 := by simp at hv2; exact hv2.1
        rw [← e, hs] at hc2
        exact hc2
      have Hcw := Lib.hid hcw
      clear hcw
      have HT := Lib.hid hT
      clear hs hv hT
      go_wp2_with (first
        | (go_at_call 33; (with_reducible refine HT.out.mono ?_); rintro e w1 ⟨rfl, hb1⟩; have d2 := Hcell.out _ hb1; have hc2 := Hcw.out _ hb1)
        | (go_at_call 14; refine (lnum _ _).mono ?_; rintro e w1 ⟨rfl, rfl⟩))
      go_roundw
      case rel => exact ⟨k + 1, by omega, by go_num, hb1⟩
      case measure => simp [intOf]; omega
    · have Hk := Lib.hid (Nat.le_antisymm hk (by omega))
      go_wp2
      go_ret
      exact ⟨rfl, hbel⟩
end Go.Proofs.YtcakipojmkehgaaDoor
