/- The reference's AddHalf and TakeHalf: what they answer. Condition: the row's size. -/
import Derived.Test.YtikdnmbbiipbjaaHar
import Derived.Test.YtikdnmbbiipbjaaBlk
namespace Go.Proofs.Ytikdnmbbiipbjaa
open Go Go.RowKit

theorem At.oneA {A : Ass} {w0 w : World} (h : At w0 (A.star emp) w) : At w0 A w := by
  obtain ⟨_, ⟨F1, F2, rfl, h1, h2, _⟩, hB, hb⟩ := h
  exact ⟨F1, h1, fun k hk => hB k (by simp [hk]), hb⟩
theorem HaNew.no {w w' : World} (h : Below w.heap.size w w') : HaNew w [] none 0 w' := At.erow0 THa 5 (At.none h)
theorem HaNew.bel {w w' : World} {es : List Ha} {a2 : Option Addr} {c2 : Nat} (h : HaNew w es a2 c2 w') : Below w.heap.size w w' := At.bel h
theorem HaNew.under {w w1 w' : World} {es : List Ha} {a2 : Option Addr} {c2 : Nat} (hb : Below w.heap.size w w1) (h : HaNew w1 es a2 c2 w') : HaNew w es a2 c2 w' := At.under hb h
theorem HaNew.front {w0 w w' : World} {C : Ass} (hC : C.Good) (hS : At w0 C w) {es : List Ha} {a2 : Option Addr} {c2 : Nat} (h : HaNew w es a2 c2 w') : At w0 ((rowE THa 5 (.slice a2 es.length c2) es.length (haCells es)).star C) w' := At.add hC hS (ha_made (At.oneA h))
theorem HaNew.in {w w' : World} {es : List Ha} {a2 : Option Addr} {c2 : Nat} (h : HaNew w es a2 c2 w') (hf : es.length ≤ 3518437208883) : HaIn [] w' a2 es.length es := At.haIn h rfl hf
theorem haOk_iff (h : Ha) (most t : Int) : haOk h most t = true ↔ 1 ≤ most ∧ most ≤ 8 ∧ t < h.t := by simp [haOk, and_assoc]
/-- A row, a number beside it. -/
def HaOut (w : World) (es : List Ha) (n : Int) (e : Ending) (w' : World) : Prop := ∃ a2 c2, e = .returned (.tuple #[.slice a2 es.length c2, .int .i64 n]) ∧ HaNew w es a2 c2 w'
abbrev Ha.arr (a : Ha) : Array Value := #[.int .i64 a.h, .int .i64 a.u, .int .i64 a.c, .int .i64 a.s, .int .i64 a.t]
theorem habox (w : World) (c : Array Value) : Below w.heap.size w (w.alloc (.cells c THa)) := (Below.refl _ _).alloc (Nat.le_refl _) _
set_option maxRecDepth 100000 in
set_option maxHeartbeats 4000000 in
theorem raddhalf {w : World} {ao : Option Addr} {n cap : Nat} {es : List Ha} (hes : HaIn [] w ao n es) (hn : n ≤ 3518437208878) (f0 f1 f2 f3 f4 most t : Int) :
    Calls Try.prog 9 #[.slice ao n cap, .agg #[.int .i64 f0, .int .i64 f1, .int .i64 f2, .int .i64 f3, .int .i64 f4], .int .i64 most, .int .i64 t] w (HaOut w (haAL es ⟨f0, f1, f2, f3, f4⟩ most t) (haAE es ⟨f0, f1, f2, f3, f4⟩ most t)) := by
  have hb0 := habox w #[.int .i64 f0, .int .i64 f1, .int .i64 f2, .int .i64 f3, .int .i64 f4]
  by_cases hok : 1 ≤ most ∧ most ≤ 8 ∧ t < f4
  · have ho : haOk ⟨f0, f1, f2, f3, f4⟩ most t = true := (haOk_iff _ _ _).2 hok
    have hlim := haLeft_len es t
    have hlen := hes.len
    have HX := Lib.hid (rexpire (cap := cap) (hes.on hb0) hn t)
    obtain ⟨m1, m2, m3⟩ := hok
    by_cases hfull : most ≤ ((haLeft es t).length : Int)
    · have e1 : haAE es ⟨f0, f1, f2, f3, f4⟩ most t = 1801 := by unfold haAE; rw [if_pos ho, if_pos hfull]
      rw [show haAL es ⟨f0, f1, f2, f3, f4⟩ most t = [] by unfold haAL; rw [e1]; rfl, e1]
      have HB := Lib.hid hb0
      clear ho e1 hes hb0 hlim hlen
      generalize haLeft es t = ls at *
      go_enter Try.func9, Try.ntmps9
      go_wp2_with (go_at_call 15; (with_reducible refine HX.out.mono ?_); rintro e w1 ⟨a2, c2, rfl, hS⟩; have kb := ((Blk.new w #[.int .i64 f0, .int .i64 f1, .int .i64 f2, .int .i64 f3, .int .i64 f4] THa).step hS.bel).cell)
      go_ret2
      exact ⟨none, 0, rfl, HaNew.no (HB.out.trans (hS.bel.mono HB.out.size))⟩
    · have e1 : haAE es ⟨f0, f1, f2, f3, f4⟩ most t = 0 := by unfold haAE; rw [if_pos ho, if_neg hfull]
      rw [show haAL es ⟨f0, f1, f2, f3, f4⟩ most t = haLeft es t ++ [⟨f0, f1, f2, f3, f4⟩] by unfold haAL; rw [e1]; rfl, e1]
      have HB := Lib.hid hb0
      clear ho e1 hes hb0
      generalize haLeft es t = ls at *
      have hfew2 : ls.length + 1 ≤ 3518437208883 := by omega
      clear hlen hlim
      go_enter Try.func9, Try.ntmps9
      go_wp2_with (first
        | (go_at_call 15; (with_reducible refine HX.out.mono ?_); rintro e w1 ⟨a2, c2, rfl, hS⟩; have kb := ((Blk.new w #[.int .i64 f0, .int .i64 f1, .int .i64 f2, .int .i64 f3, .int .i64 f4] THa).step hS.bel).cell)
        | (at_builtin; refine ha_appLit emp_good rfl _ _ rfl a2 ls.length c2 ls [⟨f0, f1, f2, f3, f4⟩] 1 rfl rfl rfl rfl hS hfew2 ?_; intro a4 c4 w4 hS4; have H4 := Lib.hid hS4; clear hS4))
      go_ret2
      refine ⟨a4, c4, by rw [List.length_append]; rfl, HaNew.under HB.out ?_⟩
      unfold HaNew
      have h := H4.out
      rw [List.length_append] at h ⊢
      exact h
  · have ho : haOk ⟨f0, f1, f2, f3, f4⟩ most t = false := by
      rw [Bool.eq_false_iff]
      exact fun c => hok ((haOk_iff _ _ _).1 c)
    have e1 : haAE es ⟨f0, f1, f2, f3, f4⟩ most t = 1800 := by unfold haAE; rw [ho]; rfl
    rw [show haAL es ⟨f0, f1, f2, f3, f4⟩ most t = [] by unfold haAL; rw [e1]; rfl, e1]
    have HB := Lib.hid hb0
    clear ho e1 hes hb0
    have hcase : most < 1 ∨ (1 ≤ most ∧ 8 < most) ∨ (1 ≤ most ∧ most ≤ 8 ∧ f4 ≤ t) := by omega
    clear hok
    rcases hcase with h1 | ⟨h1, h2⟩ | ⟨h1, h2, h3⟩
    all_goals
      go_enter Try.func9, Try.ntmps9
      go_wp2
      go_ret2
      exact ⟨none, 0, rfl, HaNew.no HB.out⟩
theorem At.haEmpty {w0 w : World} {C : Ass} (hC : C.Good) (h : At w0 C w) : At w0 ((rowE THa 5 (.slice (some ⟨w.heap.size, 0, Option.none⟩) 0 0) ([] : List Ha).length (haCells [])).star C) (w.alloc (.cells #[] THa)) := by
  refine At.add hC h ⟨[w.heap.size], ⟨⟨rfl, .inr ⟨w.heap.size, 0, #[], rfl, Nat.zero_le _, heap_alloc_new w _, Nat.le_refl _, by decide, rfl, rfl⟩⟩, rfl⟩, (Tn.refl _ _).alloc _, fun k hk => .inr (by simp at hk; omega)⟩
/-- A row, an element, a number beside it. -/
def HaTri (w : World) (a : Ha) (es : List Ha) (n : Int) (e : Ending) (w' : World) : Prop := ∃ a2 c2, e = .returned (.tuple #[.agg #[.int .i64 a.h, .int .i64 a.u, .int .i64 a.c, .int .i64 a.s, .int .i64 a.t], .slice a2 es.length c2, .int .i64 n]) ∧ HaNew w es a2 c2 w'
end Go.Proofs.Ytikdnmbbiipbjaa
