/- From a statement's arguments to a walk's hypotheses: a row of strings that came in, none of them too long to be laid beside others. No condition. -/
import Derived.Test.YtcakipojmkehgaaDoorFrameS
import Derived.Test.YtcakipojmkehgaaDoorBfl
namespace Go.Proofs.YtcakipojmkehgaaDoor
open Go Go.ChangeShapes Go.WideShapes Go.ChangeAt Go.RowKit

theorem szarg_of {H : Type} {enc : TypeId × Value → H} {W : World} {a0 : Option Addr} {len cap : Nat} {d : DataW H} {ps : List MemPlace} (h : DataW.Trod enc Tryd.prog W 0 (fun _ => true) true 22 (.slice a0 len cap) d ps)
    (hsz : ∀ elems spare, d = .slice elems spare → (elems.length + spare.length) * Tryd.prog.bytesOf 9 ≤ reachBytes ∧ ∀ D ∈ elems, ∀ n ∈ D.weights Tryd.prog 9, n ≤ reachBytes) : ∃ ss : List ByteArray, ss.length = len ∧ SArg W a0 ss ∧ ∀ s ∈ ss, s.size ≤ 140737488351232 := by
  obtain ⟨fuel, hf⟩ := h
  rcases open_strings Tryd.underlying22 Tryd.underlying9 cellsS hf with ⟨hcs, hx⟩ | ⟨a, len', cap', ss, hcs, _, hl, hm, hz, hx, hcell, hws⟩
  · simp [Value.cells] at hcs
    obtain ⟨rfl, rfl, rfl⟩ := hcs
    exact ⟨[], rfl, ⟨(fun j hj => by cases hj), (fun j hj => by cases hj), by simp⟩, fun s hs => by cases hs⟩
  · simp [Value.cells] at hcs
    obtain ⟨rfl, rfl, rfl⟩ := hcs
    simp only [Prod.mk.injEq] at hx
    obtain ⟨h1, h2⟩ := hsz _ _ hx.1
    rw [bytesS] at h1
    simp only [if_true] at hz
    have hr := reachBytes_lt
    simp [strs] at h1
    have hlen : (ss.take len).length = len := by rw [List.length_take]; omega
    have hget : ∀ j, j < len → (ss.take len).getD j ⟨#[]⟩ = ss.getD j ByteArray.empty := fun j hj => by
      have e1 : j < ss.length := by omega
      simp [List.getD, hj, e1]
    refine ⟨ss.take len, hlen, ⟨fun j hj => ?_, fun j hj => ?_, by rw [hlen]; unfold reachBytes at h1; omega⟩, fun s hs => ?_⟩
    · rw [hlen] at hj
      have hc := hcell j (by omega)
      obtain ⟨b, off, spot⟩ := a
      have hspot : spot = none := by simpa [Addr.add] using World.cell?_spot (hcell 0 (by omega))
      subst hspot
      rw [Addr.add_lit] at hc
      exact ⟨b, off, rfl, by rw [hget j hj]; exact hc⟩
    · rw [hlen] at hj
      rw [hget j hj, List.getD, List.getElem?_eq_getElem (show j < ss.length by omega)]
      exact hws _ (List.getElem_mem _)
    · have h3 := h2 (.lit (.string s.data.toList)) (List.mem_map.2 ⟨s, hs, rfl⟩) s.data.toList.length (by simp [DataW.weights])
      rw [show s.data.toList.length = s.size from Array.length_toList] at h3
      unfold reachBytes at h3
      exact h3
end Go.Proofs.YtcakipojmkehgaaDoor
