/- Chapter 18's 'awake' answers true, where the program's calls answer as the chapter says. -/
import Derived.Test.YtikdnmbbiipbjaaHal
namespace Go.Proofs.Ytikdnmbbiipbjaa
open Go Go.RowKit

def haw0 : List Ha := [⟨1, 0, 0, 0, 5⟩, ⟨2, 0, 0, 0, 9⟩]
def haw1 : List Ha := [⟨2, 0, 0, 0, 9⟩, ⟨3, 0, 0, 0, 8⟩]
def haw2 : List Ha := [⟨3, 0, 0, 0, 8⟩]
def haw3 : List Ha := [⟨2, 0, 0, 0, 9⟩]
abbrev haB (a : Ha) : Array Value := #[.int .i64 a.h, .int .i64 a.u, .int .i64 a.c, .int .i64 a.s, .int .i64 a.t]
theorem haw0_lit (W : World) : HaIn [] (W.alloc (.cells #[.int .i64 1, .int .i64 0, .int .i64 0, .int .i64 0, .int .i64 5, .int .i64 2, .int .i64 0, .int .i64 0, .int .i64 0, .int .i64 9] THa)) (some ⟨W.heap.size, 0, none⟩) 2 haw0 := ha_lit W haw0 (by decide)
theorem haw1_lit (W : World) : HaIn [] (W.alloc (.cells #[.int .i64 2, .int .i64 0, .int .i64 0, .int .i64 0, .int .i64 9, .int .i64 3, .int .i64 0, .int .i64 0, .int .i64 0, .int .i64 8] THa)) (some ⟨W.heap.size, 0, none⟩) 2 haw1 := ha_lit W haw1 (by decide)
theorem haw2_lit (W : World) : HaIn [] (W.alloc (.cells #[.int .i64 3, .int .i64 0, .int .i64 0, .int .i64 0, .int .i64 8] THa)) (some ⟨W.heap.size, 0, none⟩) 1 haw2 := ha_lit W haw2 (by decide)
theorem haw3_lit (W : World) : HaIn [] (W.alloc (.cells #[.int .i64 2, .int .i64 0, .int .i64 0, .int .i64 0, .int .i64 9] THa)) (some ⟨W.heap.size, 0, none⟩) 1 haw3 := ha_lit W haw3 (by decide)
theorem haw1_at (W : World) (m : Nat) (hm : m = W.heap.size) : HaIn [] (W.alloc (.cells #[.int .i64 2, .int .i64 0, .int .i64 0, .int .i64 0, .int .i64 9, .int .i64 3, .int .i64 0, .int .i64 0, .int .i64 0, .int .i64 8] THa)) (some ⟨m, 0, none⟩) 2 haw1 := by
  subst hm
  exact haw1_lit W
theorem hab {w W W' : World} (hb : Below w.heap.size w W) (h : Below W.heap.size W W') : Below w.heap.size w W' := hb.trans (h.mono hb.size)
theorem hal {w W : World} (hb : Below w.heap.size w W) (B : Obj) : Below w.heap.size w (W.alloc B) := hb.alloc hb.size B
set_option maxRecDepth 100000 in
set_option maxHeartbeats 4000000 in
theorem awake18 (P : HalvesOk) (w : World) : Calls Try.prog 18 #[] w fun e w' => e = .returned (.bool true) ∧ Below w.heap.size w w' := by
  have hH := haw0_lit w
  have hB := hal (Below.refl w.heap.size w) (.cells #[.int .i64 1, .int .i64 0, .int .i64 0, .int .i64 0, .int .i64 5, .int .i64 2, .int .i64 0, .int .i64 0, .int .i64 0, .int .i64 9] THa)
  go_enter Try.func18, Try.ntmps18
  go_wp2_with (first
    | (go_at_call 8; first
       | ((with_reducible refine (P.adds hH (by decide) (most := 2) (t := 5) (es2 := haw1) (m := 2) (r := 0) (by decide) rfl (by decide)).mono ?_); rintro e w1 ⟨a1, c1, rfl, hA, hb⟩; replace hH := hH.on hb; replace hB := hab hB hb; clear hb)
       | ((with_reducible refine (P.adds hH (by decide) (most := 2) (t := 4) (es2 := []) (m := 0) (r := 1801) (by decide) rfl (by decide)).mono ?_); rintro e w2 ⟨a2, c2, rfl, -, hb⟩; replace hH := hH.on hb; replace hA := hA.on hb; replace hB := hab hB hb; clear hb)
       | ((with_reducible refine (P.adds hH (by decide) (most := 9) (t := 5) (es2 := []) (m := 0) (r := 1800) (by decide) rfl (by decide)).mono ?_); rintro e w3 ⟨a3, c3, rfl, -, hb⟩; replace hH := hH.on hb; replace hA := hA.on hb; replace hB := hab hB hb; clear hb))
    | (go_at_call 10; first
       | ((with_reducible refine (P.takes hA (by decide) (x := 2) (t := 5) (a := ⟨2, 0, 0, 0, 9⟩) (es2 := haw2) (m := 1) (r := 0) (by decide) (by decide) rfl (by decide)).mono ?_); rintro e w4 ⟨a4, c4, rfl, hC, hb⟩; replace hH := (hH.on hb).on (hal (Below.refl _ _) (.cells (haB ⟨2, 0, 0, 0, 9⟩) THa)); replace hA := (hA.on hb).on (hal (Below.refl _ _) (.cells (haB ⟨2, 0, 0, 0, 9⟩) THa)); replace hC := hC.on (hal (Below.refl _ _) (.cells (haB ⟨2, 0, 0, 0, 9⟩) THa)); replace hB := hal (hab hB hb) (.cells (haB ⟨2, 0, 0, 0, 9⟩) THa); have kx := Blk.new w4 (haB ⟨2, 0, 0, 0, 9⟩) THa; clear hb)
       | ((with_reducible refine (P.takes hH (by decide) (x := 1) (t := 5) (a := Ha.none) (es2 := []) (m := 0) (r := 1802) (by decide) (by decide) rfl (by decide)).mono ?_); rintro e w5 ⟨a5, c5, rfl, -, hb⟩; replace hH := (hH.on hb).on (hal (Below.refl _ _) (.cells (haB Ha.none) THa)); replace hA := (hA.on hb).on (hal (Below.refl _ _) (.cells (haB Ha.none) THa)); replace hC := (hC.on hb).on (hal (Below.refl _ _) (.cells (haB Ha.none) THa)); replace hB := hal (hab hB hb) (.cells (haB Ha.none) THa); replace kx := (kx.step hb).alloc (.cells (haB Ha.none) THa); clear hb))
    | (go_at_call 13; first
       | ((with_reducible refine (ha_yes (hA.on (hal (Below.refl _ _) _)) (haw1_at _ _ (by go_simp))).mono ?_); rintro e w6 ⟨rfl, hb0⟩; have hb := hab (hal (Below.refl _ _) _) hb0; replace hH := hH.on hb; replace hC := hC.on hb; replace hB := hab hB hb; replace kx := kx.step hb; have ex := kx.cell; clear hb hb0 hA)
       | ((with_reducible refine (ha_yes (hC.on (hal (Below.refl _ _) _)) (haw2_lit _)).mono ?_); rintro e w7 ⟨rfl, hb0⟩; have hb := hab (hal (Below.refl _ _) _) hb0; replace hH := hH.on hb; replace hB := hab hB hb; clear hb hb0 hC)
       | ((with_reducible refine (ha_yes (hE.on (hal (Below.refl _ _) _)) (haw3_lit _)).mono ?_); rintro e w9 ⟨rfl, hb0⟩; replace hB := hab hB (hab (hal (Below.refl _ _) _) hb0); clear hb0)
       | ((with_reducible refine (ha_yes hE hK).mono ?_); rintro e w9 ⟨rfl, hb0⟩; replace hB := hab hB hb0; clear hb0))
    | (go_at_call 12; first
       | ((with_reducible refine (P.expires hH (by decide) (t := 5) (es2 := haw3) (m := 1) (by decide) rfl).mono ?_); rintro e w8 ⟨a6, c6, rfl, hE, hb⟩; replace hB := hab hB hb; clear hb)
       | ((with_reducible refine (P.expires (hH.on (hal (Below.refl _ _) _)) (by decide) (t := 5) (es2 := haw3) (m := 1) (by decide) rfl).mono ?_); rintro e w8 ⟨a6, c6, rfl, hE, hb⟩; have hK := (haw3_lit w7).on hb; replace hB := hab hB (hab (hal (Below.refl _ _) _) hb); clear hb))
    | (go_at_call 14; (with_reducible refine (lnum _ _).mono ?_); rintro e wn ⟨rfl, rfl⟩))
  go_ret
  exact ⟨rfl, hB⟩
end Go.Proofs.Ytikdnmbbiipbjaa
