/- The reference's PacketMay and PutPacket answer as the plain words say. No condition. -/
import Derived.Test.YtheeblhlhdeghaaDoorRpmay
import Derived.Test.YtheeblhlhdeghaaDoorHeld
namespace Go.Proofs.YtheeblhlhdeghaaDoor
open Go Go.RowKit

theorem isE (d : ByteArray) : d.toList = [] ↔ d = ⟨#[]⟩ := by
  obtain ⟨⟨a⟩⟩ := d
  rw [ByteArray.toList_mk]
  constructor
  · intro h; subst h; rfl
  · intro h; exact congrArg (fun b : ByteArray => b.data.toList) h
theorem may_of_rng {p : Pk} (h : p.rng = false) : p.may = false := by unfold Pk.may; rw [h]; rfl

set_option maxHeartbeats 2000000 in
theorem rpmay (p : Pk) (w : World) : Calls Tryd.prog 13 #[p.val] w fun e w' => e = .returned (.bool p.may) ∧ Below w.heap.size w w' := by
  obtain ⟨k, u, n, h, t, c, s, q, d⟩ := p
  show Calls Tryd.prog 13 #[.agg #[.int .i64 k, .int .i64 u, .int .i64 n, .int .i64 h, .int .i64 t, .int .i64 c, .int .i64 s, .int .i64 q, .string d]] w _
  by_cases r1 : 64 < d.size
  · rw [may_of_rng (by unfold Pk.rng; simp; omega)]; exact rpmay_bad0 k u n h t c s q d w r1
  replace r1 : d.size ≤ 64 := by omega
  by_cases r2 : q < 0
  · rw [may_of_rng (by unfold Pk.rng; simp; omega)]; exact rpmay_bad1 k u n h t c s q d w r1 r2
  replace r2 : 0 ≤ q := by omega
  by_cases r3 : 1048575 < q
  · rw [may_of_rng (by unfold Pk.rng; simp; omega)]; exact rpmay_bad2 k u n h t c s q d w r1 r2 r3
  replace r3 : q ≤ 1048575 := by omega
  by_cases r4 : okNum u = false
  · rw [may_of_rng (by unfold Pk.rng; simp [r4])]; exact rpmay_bad3 k u n h t c s q d w r1 r2 r3 r4
  replace r4 : okNum u = true := by simpa using r4
  by_cases r5 : okNum n = false
  · rw [may_of_rng (by unfold Pk.rng; simp [r5])]; exact rpmay_bad4 k u n h t c s q d w r1 r2 r3 r4 r5
  replace r5 : okNum n = true := by simpa using r5
  by_cases r6 : okNum h = false
  · rw [may_of_rng (by unfold Pk.rng; simp [r6])]; exact rpmay_bad5 k u n h t c s q d w r1 r2 r3 r4 r5 r6
  replace r6 : okNum h = true := by simpa using r6
  by_cases r7 : okNum t = false
  · rw [may_of_rng (by unfold Pk.rng; simp [r7])]; exact rpmay_bad6 k u n h t c s q d w r1 r2 r3 r4 r5 r6 r7
  replace r7 : okNum t = true := by simpa using r7
  by_cases r8 : okNum c = false
  · rw [may_of_rng (by unfold Pk.rng; simp [r8])]; exact rpmay_bad7 k u n h t c s q d w r1 r2 r3 r4 r5 r6 r7 r8
  replace r8 : okNum c = true := by simpa using r8
  by_cases r9 : okNum s = false
  · rw [may_of_rng (by unfold Pk.rng; simp [r9])]; exact rpmay_bad8 k u n h t c s q d w r1 r2 r3 r4 r5 r6 r7 r8 r9
  replace r9 : okNum s = true := by simpa using r9
  have hr : (Pk.mk k u n h t c s q d).rng = true := (Pk.rng_iff _).2 ⟨r1, r2, r3, r4, r5, r6, r7, r8, r9⟩
  have hm : (Pk.mk k u n h t c s q d).may = decide ((Pk.mk k u n h t c s q d).part = some (Pk.mk k u n h t c s q d)) := by unfold Pk.may; rw [hr]; rfl
  rw [hm]
  by_cases h0 : k = 0
  · subst h0
    refine rpmay_k0 u n h t c s q d _ w r1 r2 r3 r4 r5 r6 r7 r8 r9 ⟨?_, ?_⟩ <;> intro e <;> rw [isE] at e <;> simp [Pk.part] <;> grind
  by_cases h1 : k = 1
  · subst h1
    refine rpmay_k1 u n h t c s q d _ w r1 r2 r3 r4 r5 r6 r7 r8 r9 ⟨?_, ?_⟩ <;> intro e <;> rw [isE] at e <;> simp [Pk.part] <;> grind
  by_cases h2 : k = 2
  · subst h2
    refine rpmay_k2 u n h t c s q d _ w r1 r2 r3 r4 r5 r6 r7 r8 r9 ⟨?_, ?_⟩ <;> intro e <;> rw [isE] at e <;> simp [Pk.part] <;> grind
  by_cases h3 : k = 3
  · subst h3
    refine rpmay_k3 u n h t c s q d _ w r1 r2 r3 r4 r5 r6 r7 r8 r9 ⟨?_, ?_⟩ <;> intro e <;> simp [Pk.part] <;> grind
  by_cases h4 : k = 4
  · subst h4
    refine rpmay_k4 u n h t c s q d _ w r1 r2 r3 r4 r5 r6 r7 r8 r9 ⟨?_, ?_⟩ <;> intro e <;> rw [isE] at e <;> simp [Pk.part] <;> grind
  have : decide ((Pk.mk k u n h t c s q d).part = some (Pk.mk k u n h t c s q d)) = false := by simp [Pk.part, h0, h1, h2, h3, h4]
  rw [this]
  exact rpmay_else k u n h t c s q d w r1 r2 r3 r4 r5 r6 r7 r8 r9 h0 h1 h2 h3 h4
end Go.Proofs.YtheeblhlhdeghaaDoor
