/- What a call leaves where errors.errorType holds the handle of the type error; and the statements' own Num. No condition. -/
import Derived.Test.YtcakipojmkehgaaDoorLnum
import Derived.Test.YtcakipojmkehgaaDoorBfa
namespace Go.Proofs.YtcakipojmkehgaaDoor
open Go Go.RowKit

/-- What a call leaves: the handle's variable as it was, and of old memory nothing turned. -/
structure Gr (w w' : World) : Prop where
  below : Below w.heap.size w w'
  good : Gd w'
theorem Gr.refl {w : World} (h : Gd w) : Gr w w := ⟨Below.refl _ _, h⟩
theorem Gr.step {w w1 w2 : World} (h : Gr w w1) (hb : Below w1.heap.size w1 w2) : Gr w w2 :=
  ⟨h.below.trans (hb.mono h.below.size), h.good.below hb h.good.pos⟩
theorem Gr.alloc {w0 w : World} (h : Gr w0 w) (o : Obj) : Gr w0 (w.alloc o) := h.step ((Below.refl _ _).alloc (Nat.le_refl _) o)
theorem Gr.drew {w0 w : World} (h : Gr w0 w) : Gr w0 w.drew := h.step ⟨rfl, rfl, rfl, Nat.le_refl _, fun _ _ => rfl⟩
end Go.Proofs.YtcakipojmkehgaaDoor
