/- Calls' contracts on assertions where errors.errorType holds the handle of the type error. No condition. -/
import Derived.Test.YtcakipojmkehgaaDoorBme
import Derived.Test.YtcakipojmkehgaaDoorGr
namespace Go.Proofs.YtcakipojmkehgaaDoor
open Go Go.RowKit

def DoesG (P : Program) (A : Ass) (f : FuncId) (args : Array Value) (v : Ending) (A' : Ass) : Prop := ∀ w F, A w F → Gd w → Calls P f args w fun e w' => e = v ∧ Becomes F A' w w'
theorem DoesG.to {P : Program} {A A' A2 : Ass} {f : FuncId} {args : Array Value} {v v2 : Ending} (h : DoesG P A f args v A') (hv : v = v2) (hA : A' = A2) : DoesG P A f args v2 A2 := by subst hv; subst hA; exact h
theorem Does.g {P : Program} {A A' : Ass} {f : FuncId} {args : Array Value} {v : Ending} (h : Does P A f args v A') : DoesG P A f args v A' := fun w F hA _ => h w F hA
theorem At.gd {A : Ass} {w0 w : World} (hg : Gd w0) (h : At w0 A w) : Gd w := hg.below h.bel hg.pos
theorem At.opG {P : Program} {A A' X X' R : Ass} {f : FuncId} {args : Array Value} {v : Ending} (hd : DoesG P A f args v A') (hi : X.imp (A.star R)) (hj : (A'.star R).imp X') (hR : R.Good) {w0 w : World} (hg : Gd w0) (h : At w0 X w) : Calls P f args w fun e w' => e = v ∧ At w0 X' w' := by
  have hgw := h.gd hg
  obtain ⟨F, ⟨F1, F2, rfl, h1, h2, h3⟩, hB, hb⟩ := h.imp hi
  refine (hd w F1 h1 hgw).mono ?_
  rintro e w' ⟨he, hk⟩
  obtain ⟨F', g1, g2, g3⟩ := hk.frameL hR h2 h3
  refine ⟨he, At.imp ⟨F', g1, fun k hk => ?_, hb.trans (g2.below hB hb.size)⟩ hj⟩
  rcases g3 k hk with c | c
  · exact hB k c
  · exact Nat.le_trans hb.size c
theorem At.op0G {P : Program} {A A' C : Ass} {f : FuncId} {args : Array Value} {v : Ending} (hd : DoesG P A f args v A') (hC : C.Good) {w0 w : World} (hg : Gd w0) (h : At w0 (A.star C) w) : Calls P f args w fun e w' => e = v ∧ At w0 (A'.star C) w' :=
  At.opG hd (Ass.imp.refl _) (Ass.imp.refl _) hC hg h
theorem At.op1G {P : Program} {A A' B C : Ass} {f : FuncId} {args : Array Value} {v : Ending} (hd : DoesG P A f args v A') (hN : B.Good) (hC : C.Good) {w0 w : World} (hg : Gd w0) (h : At w0 (B.star (A.star C)) w) : Calls P f args w fun e w' => e = v ∧ At w0 (B.star (A'.star C)) w' :=
  At.opG hd (Ass.imp.swap _ _ _) (Ass.imp.swap _ _ _) (hN.star hC) hg h
theorem At.op2G {P : Program} {A A' B B2 C : Ass} {f : FuncId} {args : Array Value} {v : Ending} (hd : DoesG P A f args v A') (hN : B.Good) (hN2 : B2.Good) (hC : C.Good) {w0 w : World} (hg : Gd w0) (h : At w0 (B.star (B2.star (A.star C))) w) : Calls P f args w fun e w' => e = v ∧ At w0 (B.star (B2.star (A'.star C))) w' :=
  At.opG hd (Ass.imp.up2 _ _ _ _) (Ass.imp.dn2 _ _ _ _) (hN.star (hN2.star hC)) hg h
theorem At.op3G {P : Program} {A A' B B2 B3 C : Ass} {f : FuncId} {args : Array Value} {v : Ending} (hd : DoesG P A f args v A') (hN : B.Good) (hN2 : B2.Good) (hN3 : B3.Good) (hC : C.Good) {w0 w : World} (hg : Gd w0) (h : At w0 (B.star (B2.star (B3.star (A.star C)))) w) :
    Calls P f args w fun e w' => e = v ∧ At w0 (B.star (B2.star (B3.star (A'.star C)))) w' :=
  At.opG hd (Ass.imp.up3 _ _ _ _ _) (Ass.imp.dn3 _ _ _ _ _) (hN.star (hN2.star (hN3.star hC))) hg h
theorem Becomes.opG {P : Program} {A A' : Ass} {f : FuncId} {args : Array Value} {v : Ending} (hd : DoesG P A f args v A') {F : List Nat} {w w1 : World} (h : Becomes F A w w1) (hg : Gd w1) : Calls P f args w1 fun e w' => e = v ∧ Becomes F A' w w' := by
  obtain ⟨F', g1, g2, g3⟩ := h
  refine (hd w1 F' g1 hg).mono ?_
  rintro e w' ⟨he, F2, k1, k2, k3⟩
  refine ⟨he, F2, k1, g2.trans k2 g3, fun k hk => ?_⟩
  rcases k3 k hk with c | c
  · exact g3 k c
  · exact .inr (Nat.le_trans g2.size c)
end Go.Proofs.YtcakipojmkehgaaDoor
