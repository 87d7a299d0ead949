/- From a statement's arguments to a walk's hypotheses: a row of numbers that came in. No condition. -/
import Derived.Test.YtjkcimeeagmmeaaFrame0
import Derived.Test.YtjkcimeeagmmeaaIArg
namespace Go.Proofs.Ytjkcimeeagmmeaa
open Go.ChangeShapes Go.WideShapes Go.ChangeAt Go.RowKit

theorem cellsI : Try.prog.cellsOf 3 = 1 := by kernel_rfl
theorem bytesI : Try.prog.bytesOf 3 = 8 := by kernel_rfl
theorem ints_read : Try.prog.readableRec 34 = true := by kernel_rfl
theorem ints_row : 34 < Try.prog.types.size := of_decide_eq_true (by kernel_rfl)

theorem iarg_of {H : Type} {enc : TypeId × Value → H} {W : World} {a0 : Option Addr} {len cap : Nat} {d : DataW H} {ps : List MemPlace} (h : DataW.Trod enc Try.prog W 0 (fun _ => true) true 34 (.slice a0 len cap) d ps)
    (hsz : ∀ elems spare, d = .slice elems spare → (elems.length + spare.length) * 8 ≤ 140737488351232) : ∃ zs : List Int, zs.length = len ∧ IArg W a0 zs := by
  obtain ⟨fuel, hf⟩ := h
  rcases open_ints Try.underlying34 Try.underlying3 cellsI hf with ⟨hcs, hx⟩ | ⟨a, len', cap', zs, hcs, _, hl, hm, hz, hx, hcell, hws⟩
  · simp [Value.cells] at hcs
    obtain ⟨rfl, rfl, rfl⟩ := hcs
    exact ⟨[], rfl, ⟨(fun j hj => by cases hj), by simp, (fun z hz => by cases hz)⟩⟩
  · simp [Value.cells] at hcs
    obtain ⟨rfl, rfl, rfl⟩ := hcs
    simp only [Prod.mk.injEq] at hx
    have h1 := hsz _ _ hx.1
    simp only [if_true] at hz
    simp [lits] at h1
    have hlen : (zs.take len).length = len := by rw [List.length_take]; omega
    have hget : ∀ j, j < len → (zs.take len).getD j 0 = zs.getD j 0 := fun j hj => by
      have e1 : j < zs.length := by omega
      simp [List.getD, hj, e1]
    refine ⟨zs.take len, hlen, ⟨fun j hj => ?_, by rw [hlen]; omega, fun z hz' => ?_⟩⟩
    · rw [hlen] at hj
      have hc := hcell j (by omega)
      obtain ⟨b, off, spot⟩ := a
      have hspot : spot = none := by simpa [Addr.add] using World.cell?_spot (hcell 0 (by omega))
      subst hspot
      rw [Addr.add_lit] at hc
      exact ⟨b, off, rfl, by rw [hget j hj]; exact hc⟩
    · exact bounds_i64 (hws z (List.mem_of_mem_take hz'))
end Go.Proofs.Ytjkcimeeagmmeaa
