/- Chapter 16's 'awake' answers true, where the program's calls answer as the chapter says. -/
import Derived.Test.YtamhjnjabjfgeaaPal
import Derived.Test.YtamhjnjabjfgeaaLnum
namespace Go.Proofs.Ytamhjnjabjfgeaa
open Go Go.RowKit

def paw0 : List Pa := [⟨false, -1, 0⟩, ⟨false, -1, 0⟩, ⟨false, -1, 0⟩]
def paw1 : List Pa := [⟨false, -1, 0⟩, ⟨true, 4, 0⟩, ⟨false, -1, 0⟩]
def paw2 : List Pa := [⟨false, -1, 0⟩, ⟨false, 4, 9⟩, ⟨false, -1, 0⟩]
theorem paw_e {ao : Option Addr} {w : World} (h : PaIn [] w ao 3 paw0) : ∃ b off, ao = some ⟨b, off, none⟩ ∧ ∀ W, Below w.heap.size w W → W.cell? ⟨b, off + 2 * 3 + 1, none⟩ = some (.int .i64 (-1)) := by
  obtain ⟨b, off, a, rfl, ha, hc⟩ := h.elem (k := 2) (by decide)
  subst ha
  exact ⟨b, off, rfl, fun W hW => (hc W hW).2.1⟩
theorem pab {w W W' : World} (hb : Below w.heap.size w W) (h : Below W.heap.size W W') : Below w.heap.size w W' := hb.trans (h.mono hb.size)
set_option maxRecDepth 100000 in
set_option maxHeartbeats 4000000 in
theorem awake16 (P : PoolsOk) (w : World) : Calls Try.prog 21 #[] w fun e w' => e = .returned (.bool true) ∧ Below w.heap.size w w' := by
  go_enter Try.func21, Try.ntmps21
  go_wp2_with (first
    | (go_at_call 15; first
       | ((with_reducible refine (P.news (k := 3) (es2 := paw0) (m := 3) (r := 0) (by decide) rfl (by decide) _).mono ?_); rintro e w1 ⟨a1, c1, rfl, hA, hB⟩)
       | ((with_reducible refine (P.news (k := 17) (es2 := []) (m := 0) (r := 1600) (by decide) rfl (by decide) _).mono ?_); rintro e w2 ⟨a2, c2, rfl, -, hb⟩; replace hA := hA.on hb; replace hB := pab hB hb; clear hb))
    | (go_at_call 11; first
       | ((with_reducible refine (P.takes hA (by decide) (es2 := paw1) (m := 3) (r := 0) (by decide) rfl (by decide)).mono ?_); rintro e w3 ⟨a3, c3, rfl, hC, hb⟩; replace hA := hA.on hb; replace hB := pab hB hb; clear hb)
       | ((with_reducible refine (P.takes hC (by decide) (es2 := []) (m := 0) (r := 1600) (by decide) rfl (by decide)).mono ?_); rintro e w4 ⟨a4, c4, rfl, -, hb⟩; replace hA := hA.on hb; replace hC := hC.on hb; replace hD := hD.on hb; replace hB := pab hB hb; clear hb))
    | (go_at_call 13; first
       | ((with_reducible refine (P.frees hC (by decide) (es2 := paw2) (m := 3) (r := 0) (by decide) rfl (by decide)).mono ?_); rintro e w5 ⟨a5, c5, rfl, hD, hb⟩; replace hA := hA.on hb; replace hC := hC.on hb; replace hB := pab hB hb; clear hb)
       | ((with_reducible refine (P.frees hD (by decide) (es2 := []) (m := 0) (r := 1600) (by decide) rfl (by decide)).mono ?_); rintro e w6 ⟨a6, c6, rfl, -, hb⟩; replace hA := hA.on hb; replace hC := hC.on hb; replace hD := hD.on hb; replace hB := pab hB hb; clear hb; obtain ⟨g, off, rfl, hE⟩ := paw_e hA; have e2 := hE _ (Below.refl _ _)))
    | (go_at_call 9; first
       | ((with_reducible refine (P.leases hC (a := 0) (r := 0) (by decide) (by decide)).mono ?_); rintro e w7 ⟨rfl, hb⟩; replace hA := hA.on hb; replace hC := hC.on hb; replace hB := pab hB hb; clear hb)
       | ((with_reducible refine (P.leases hD (t := 8) (a := 0) (r := 0) (by decide) (by decide)).mono ?_); rintro e w8 ⟨rfl, hb⟩; replace hA := hA.on hb; replace hC := hC.on hb; replace hD := hD.on hb; replace hB := pab hB hb; clear hb)
       | ((with_reducible refine (P.leases hD (t := 9) (a := 1) (r := 0) (by decide) (by decide)).mono ?_); rintro e w9 ⟨rfl, hb⟩; replace hA := hA.on hb; replace hC := hC.on hb; replace hD := hD.on hb; replace hB := pab hB hb; clear hb))
    | (go_at_call 17; (with_reducible refine (lnum _ _).mono ?_); rintro e wn ⟨rfl, rfl⟩))
  go_ret
  exact ⟨rfl, hB⟩
end Go.Proofs.Ytamhjnjabjfgeaa
