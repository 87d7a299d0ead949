/- For the laws of windows: what they ask of the program; the laws' own calls. No condition. -/
import Derived.Test.YticncfaokapplaaWr
import Derived.Test.YticncfaokapplaaLnum
namespace Go.Proofs.Yticncfaokapplaa
open Go Go.RowKit

/-- What the laws ask of the program: each call answers as the chapter says. -/
structure WinsOk : Prop where
  may : ∀ (h b : Int) (w : World), Calls Try.prog 11 #[.agg #[.int .i64 h, .int .i64 b]] w fun e w' => e = .returned (.bool (wdMay h b)) ∧ Below w.heap.size w w'
  add : ∀ (h b s : Int) (w : World), Calls Try.prog 8 #[.agg #[.int .i64 h, .int .i64 b], .int .i64 s] w fun e w' => e = .returned (.tuple #[.agg #[.int .i64 (wdH h b s), .int .i64 (wdB h b s)], .int .i64 (wdE h b s)]) ∧ Below w.heap.size w w'
theorem WinsOk.mays (P : WinsOk) {h b : Int} {r : Bool} (hr : wdMay h b = r) (w : World) : Calls Try.prog 11 #[.agg #[.int .i64 h, .int .i64 b]] w fun e w' => e = .returned (.bool r) ∧ Below w.heap.size w w' := by
  subst hr
  exact P.may h b w
theorem WinsOk.adds (P : WinsOk) {h b s a c e : Int} (h1 : wdH h b s = a) (h2 : wdB h b s = c) (h3 : wdE h b s = e) (w : World) : Calls Try.prog 8 #[.agg #[.int .i64 h, .int .i64 b], .int .i64 s] w fun r w' => r = .returned (.tuple #[.agg #[.int .i64 a, .int .i64 c], .int .i64 e]) ∧ Below w.heap.size w w' := by
  subst h1 h2 h3
  exact P.add h b s w
theorem wpab {w W W' : World} (hb : Below w.heap.size w W) (h : Below W.heap.size W W') : Below w.heap.size w W' := hb.trans (h.mono hb.size)
set_option maxRecDepth 100000 in
set_option maxHeartbeats 8000000 in
theorem awake17 (P : WinsOk) (w : World) : Calls Try.prog 13 #[] w fun e w' => e = .returned (.bool true) ∧ Below w.heap.size w w' := by
  go_enter Try.func13, Try.ntmps13
  go_wp2_with (first
    | (go_at_call 8; first
       | ((with_reducible refine (P.adds (h := -1) (b := 0) (s := 5) (a := 5) (c := 1) (e := 0) (by decide) (by decide) (by decide) _).mono ?_); rintro r w1 ⟨rfl, hb⟩; have hB := wpab (wbox w (-1) 0) hb; have ka := Blk.new w1 #[.int .i64 5, .int .i64 1] TWd; have ea := ka.cell; clear hb)
       | ((with_reducible refine (P.adds (h := 5) (b := 1) (s := 3) (a := 5) (c := 5) (e := 0) (by decide) (by decide) (by decide) _).mono ?_); rintro r w2 ⟨rfl, hb⟩; replace hB := wpab (hB.alloc hB.size _) hb; replace ka := ka.step hb; replace ka := ka.alloc (.cells #[.int .i64 5, .int .i64 5] TWd); have kb := Blk.new w2 #[.int .i64 5, .int .i64 5] TWd; have ea := ka.cell; have eb := kb.cell; clear hb)
       | ((with_reducible refine (P.adds (h := 5) (b := 5) (s := 3) (a := 0) (c := 0) (e := 1701) (by decide) (by decide) (by decide) _).mono ?_); rintro r w3 ⟨rfl, hb⟩; replace hB := wpab (hB.alloc hB.size _) hb; replace ka := ka.step hb; replace kb := kb.step hb; replace ka := ka.alloc (.cells #[.int .i64 0, .int .i64 0] TWd); replace kb := kb.alloc (.cells #[.int .i64 0, .int .i64 0] TWd); have ea := ka.cell; have eb := kb.cell; clear hb)
       | ((with_reducible refine (P.adds (h := 5) (b := 5) (s := 40) (a := 40) (c := 1) (e := 0) (by decide) (by decide) (by decide) _).mono ?_); rintro r w4 ⟨rfl, hb⟩; replace hB := wpab (hB.alloc hB.size _) hb; replace ka := ka.step hb; replace kb := kb.step hb; replace ka := ka.alloc (.cells #[.int .i64 40, .int .i64 1] TWd); replace kb := kb.alloc (.cells #[.int .i64 40, .int .i64 1] TWd); have kc := Blk.new w4 #[.int .i64 40, .int .i64 1] TWd; have ea := ka.cell; have eb := kb.cell; have ec := kc.cell; clear hb)
       | ((with_reducible refine (P.adds (h := 40) (b := 1) (s := 8) (a := 0) (c := 0) (e := 1701) (by decide) (by decide) (by decide) _).mono ?_); rintro r w5 ⟨rfl, hb⟩; replace hB := wpab (hB.alloc hB.size _) hb; replace ka := ka.step hb; replace kb := kb.step hb; replace kc := kc.step hb; replace ka := ka.alloc (.cells #[.int .i64 0, .int .i64 0] TWd); replace kb := kb.alloc (.cells #[.int .i64 0, .int .i64 0] TWd); replace kc := kc.alloc (.cells #[.int .i64 0, .int .i64 0] TWd); have ea := ka.cell; have eb := kb.cell; have ec := kc.cell; clear hb)
       | ((with_reducible refine (P.adds (h := 40) (b := 1) (s := -1) (a := 0) (c := 0) (e := 1700) (by decide) (by decide) (by decide) _).mono ?_); rintro r w6 ⟨rfl, hb⟩; replace hB := wpab (hB.alloc hB.size _) hb; replace ka := ka.step hb; replace kb := kb.step hb; replace kc := kc.step hb; replace ka := ka.alloc (.cells #[.int .i64 0, .int .i64 0] TWd); replace kb := kb.alloc (.cells #[.int .i64 0, .int .i64 0] TWd); replace kc := kc.alloc (.cells #[.int .i64 0, .int .i64 0] TWd); have ea := ka.cell; have eb := kb.cell; have ec := kc.cell; replace hB := hB.alloc hB.size (.cells #[.int .i64 0, .int .i64 0] TWd); clear hb))
    | (go_at_call 11; first
       | ((with_reducible refine (P.mays (h := 5) (b := 5) (r := true) (by decide) _).mono ?_); rintro r w7 ⟨rfl, hb⟩; replace hB := wpab hB hb; clear hb)
       | ((with_reducible refine (P.mays (h := 1) (b := 5) (r := false) (by decide) _).mono ?_); rintro r w8 ⟨rfl, hb⟩; replace hB := wpab hB hb; clear hb))
    | (go_at_call 10; (with_reducible refine (lnum _ _).mono ?_); rintro e wn ⟨rfl, rfl⟩))
  go_ret
  exact ⟨rfl, hB⟩
end Go.Proofs.Yticncfaokapplaa
