/- From a statement's arguments to a walk's hypotheses: a row of strings that came in. No condition. -/
import Derived.Test.YtcakipojmkehgaaDoorFrame0
import Derived.Test.YtcakipojmkehgaaDoorBbk
import Derived.ProofKit
import Derived.SizedLaws
import Derived.OpenShut
import Derived.Carry
namespace Go.Proofs.YtcakipojmkehgaaDoor
open Go.ChangeShapes Go.WideShapes Go.ChangeAt Go.RowKit

theorem cellsS : Tryd.prog.cellsOf 9 = 1 := by kernel_rfl
theorem bytesS : Tryd.prog.bytesOf 9 = 16 := by kernel_rfl
theorem strs_read : Tryd.prog.readableRec 22 = true := by kernel_rfl
theorem strs_row : 22 < Tryd.prog.types.size := of_decide_eq_true (by kernel_rfl)

theorem sarg_of {H : Type} {enc : TypeId × Value → H} {W : World} {a0 : Option Addr} {len cap : Nat} {d : DataW H} {ps : List MemPlace} (h : DataW.Trod enc Tryd.prog W 0 (fun _ => true) true 22 (.slice a0 len cap) d ps)
    (hsz : ∀ elems spare, d = .slice elems spare → (elems.length + spare.length) * 16 ≤ 140737488351232) : ∃ ss : List ByteArray, ss.length = len ∧ SArg W a0 ss := by
  obtain ⟨fuel, hf⟩ := h
  rcases open_strings Tryd.underlying22 Tryd.underlying9 cellsS hf with ⟨hcs, hx⟩ | ⟨a, len', cap', ss, hcs, _, hl, hm, hz, hx, hcell, hws⟩
  · simp [Value.cells] at hcs
    obtain ⟨rfl, rfl, rfl⟩ := hcs
    exact ⟨[], rfl, ⟨(fun j hj => by cases hj), (fun j hj => by cases hj), by simp⟩⟩
  · simp [Value.cells] at hcs
    obtain ⟨rfl, rfl, rfl⟩ := hcs
    simp only [Prod.mk.injEq] at hx
    have h1 := hsz _ _ hx.1
    simp only [if_true] at hz
    simp [strs] at h1
    have hlen : (ss.take len).length = len := by rw [List.length_take]; omega
    have hget : ∀ j, j < len → (ss.take len).getD j ⟨#[]⟩ = ss.getD j ByteArray.empty := fun j hj => by
      have e1 : j < ss.length := by omega
      simp [List.getD, hj, e1]
    refine ⟨ss.take len, hlen, ⟨fun j hj => ?_, fun j hj => ?_, by rw [hlen]; omega⟩⟩
    · rw [hlen] at hj
      have hc := hcell j (by omega)
      obtain ⟨b, off, spot⟩ := a
      have hspot : spot = none := by simpa [Addr.add] using World.cell?_spot (hcell 0 (by omega))
      subst hspot
      rw [Addr.add_lit] at hc
      exact ⟨b, off, rfl, by rw [hget j hj]; exact hc⟩
    · rw [hlen] at hj
      rw [hget j hj, List.getD, List.getElem?_eq_getElem (show j < ss.length by omega)]
      exact hws _ (List.getElem_mem _)
end Go.Proofs.YtcakipojmkehgaaDoor
