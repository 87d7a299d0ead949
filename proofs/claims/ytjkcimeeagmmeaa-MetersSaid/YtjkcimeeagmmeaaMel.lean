/- For the laws of meters: what they ask of the program; chapter 19's 'awake' answers true. No condition. -/
import Derived.Test.YtjkcimeeagmmeaaMer2
import Derived.Test.YtjkcimeeagmmeaaLnum
namespace Go.Proofs.Ytjkcimeeagmmeaa
open Go Go.RowKit

/-- What the laws ask of the program: each call answers as the chapter says. -/
structure MetersOk : Prop where
  over : ∀ (s l b t i a : Int) (w : World), Calls Try.prog 7 #[.agg (meA s l b), .int .i64 t, .int .i64 i, .int .i64 a] w fun e w' => e = .returned (.tuple #[.int .i64 (meW s l b t i a), .bool (meI s l b t i a)]) ∧ Below w.heap.size w w'
  deliver : ∀ (s l b t y u q : Int) (w : World), Calls Try.prog 9 #[.agg (meA s l b), .int .i64 t, .int .i64 y, .int .i64 u, .int .i64 q] w fun e w' => e = .returned (.tuple #[.agg #[.int .i64 (meS s l b t y u q), .int .i64 (meL s l b t y u q), .int .i64 (meB s l b t y u q)], .bool (meG s l b t y u q), .int .i64 (meE s l b t y u q)]) ∧ Below w.heap.size w w'
theorem MetersOk.overs (P : MetersOk) {s l b t i a x : Int} {ok : Bool} (h1 : meW s l b t i a = x) (h2 : meI s l b t i a = ok) (w : World) : Calls Try.prog 7 #[.agg (meA s l b), .int .i64 t, .int .i64 i, .int .i64 a] w fun e w' => e = .returned (.tuple #[.int .i64 x, .bool ok]) ∧ Below w.heap.size w w' := by
  subst h1 h2
  exact P.over s l b t i a w
theorem MetersOk.delivers (P : MetersOk) {s l b t y u q x1 x2 x3 e : Int} {ok : Bool} (h1 : meS s l b t y u q = x1) (h2 : meL s l b t y u q = x2) (h3 : meB s l b t y u q = x3) (h4 : meG s l b t y u q = ok) (h5 : meE s l b t y u q = e) (w : World) : Calls Try.prog 9 #[.agg (meA s l b), .int .i64 t, .int .i64 y, .int .i64 u, .int .i64 q] w fun r w' => r = .returned (.tuple #[.agg #[.int .i64 x1, .int .i64 x2, .int .i64 x3], .bool ok, .int .i64 e]) ∧ Below w.heap.size w w' := by
  subst h1 h2 h3 h4 h5
  exact P.deliver s l b t y u q w
theorem mab {w W W' : World} (hb : Below w.heap.size w W) (h : Below W.heap.size W W') : Below w.heap.size w W' := hb.trans (h.mono hb.size)
theorem mal {w W : World} (hb : Below w.heap.size w W) (B : Obj) : Below w.heap.size w (W.alloc B) := hb.alloc hb.size B
set_option maxRecDepth 100000 in
set_option maxHeartbeats 8000000 in
theorem awake19 (P : MetersOk) (w : World) : Calls Try.prog 12 #[] w fun e w' => e = .returned (.bool true) ∧ Below w.heap.size w w' := by
  have km := Blk.new w (meA 10 20 5) TMe
  have em := km.cell
  have hB := mal (Below.refl w.heap.size w) (.cells (meA 10 20 5) TMe)
  go_enter Try.func12, Try.ntmps12
  go_wp2_with (first
    | (go_at_call 7; first
       | ((with_reducible refine (P.overs (s := 10) (l := 20) (b := 5) (t := 25) (i := 5) (a := 15) (x := 0) (ok := false) (by decide) (by decide) _).mono ?_); rintro r w1 ⟨rfl, hb⟩; replace hB := mab hB hb; replace km := km.step hb; replace em := km.cell; clear hb)
       | ((with_reducible refine (P.overs (s := 10) (l := 20) (b := 5) (t := 26) (i := 5) (a := 30) (x := 1) (ok := true) (by decide) (by decide) _).mono ?_); rintro r w2 ⟨rfl, hb⟩; replace hB := mab hB hb; replace km := km.step hb; replace em := km.cell; clear hb)
       | ((with_reducible refine (P.overs (s := 10) (l := 20) (b := 5) (t := 26) (i := 5) (a := 15) (x := 2) (ok := true) (by decide) (by decide) _).mono ?_); rintro r w3 ⟨rfl, hb⟩; replace hB := mab hB hb; replace km := km.step hb; replace em := km.cell; clear hb))
    | (go_at_call 9; first
       | ((with_reducible refine (P.delivers (s := 10) (l := 20) (b := 5) (t := 22) (y := 64) (u := 99) (q := 100) (x1 := 10) (x2 := 22) (x3 := 69) (ok := true) (e := 0) (by decide) (by decide) (by decide) (by decide) (by decide) _).mono ?_); rintro r w4 ⟨rfl, hb⟩; replace hB := mal (mab hB hb) (.cells (meA 10 22 69) TMe); replace km := (km.step hb).alloc (.cells (meA 10 22 69) TMe); have kx := Blk.new w4 (meA 10 22 69) TMe; replace em := km.cell; have ex := kx.cell; clear hb)
       | ((with_reducible refine (P.delivers (s := 10) (l := 20) (b := 5) (t := 22) (y := 1) (u := 100) (q := 100) (x1 := 0) (x2 := 0) (x3 := 0) (ok := false) (e := 0) (by decide) (by decide) (by decide) (by decide) (by decide) _).mono ?_); rintro r w5 ⟨rfl, hb⟩; replace hB := mal (mab hB hb) (.cells (meA 0 0 0) TMe); replace km := (km.step hb).alloc (.cells (meA 0 0 0) TMe); replace kx := (kx.step hb).alloc (.cells (meA 0 0 0) TMe); replace em := km.cell; replace ex := kx.cell; clear hb)
       | ((with_reducible refine (P.delivers (s := 10) (l := 20) (b := 5) (t := 19) (y := 1) (u := 0) (q := 100) (x1 := 0) (x2 := 0) (x3 := 0) (ok := false) (e := 1900) (by decide) (by decide) (by decide) (by decide) (by decide) _).mono ?_); rintro r w6 ⟨rfl, hb⟩; replace hB := mal (mab hB hb) (.cells (meA 0 0 0) TMe); replace km := (km.step hb).alloc (.cells (meA 0 0 0) TMe); replace kx := (kx.step hb).alloc (.cells (meA 0 0 0) TMe); replace em := km.cell; replace ex := kx.cell; clear hb))
    | (go_at_call 11; (with_reducible refine (lnum _ _).mono ?_); rintro e wn ⟨rfl, rfl⟩))
  go_ret
  exact ⟨rfl, hB⟩
end Go.Proofs.Ytjkcimeeagmmeaa
