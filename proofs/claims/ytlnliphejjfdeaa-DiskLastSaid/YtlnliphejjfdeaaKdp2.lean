/- Package disk's keep: what it leaves. No condition but that the disk is one. -/
import Derived.Test.YtlnliphejjfdeaaKdp1
import Derived.Great.Walk
import Derived.Deep.WholeRow
namespace Go.Proofs.Ytlnliphejjfdeaa
open Go Go.RowKit

theorem extract64 {s : ByteArray} (h : s.size = 64) (y : ByteArray) : s.extract 0 64 ++ y.extract 64 64 = s := by
  rw [ByteArray.extract_eq_empty_iff.2 (Nat.min_le_left _ _), ByteArray.append_empty, ← h]
  exact ByteArray.extract_zero_size
theorem extract0 {y : ByteArray} (h : y.size = 64) (s : ByteArray) : s.extract 0 0 ++ y.extract 0 64 = y := by
  rw [ByteArray.extract_eq_empty_iff.2 (Nat.min_le_left _ _), ByteArray.empty_append, ← h]
  exact ByteArray.extract_zero_size
theorem set_same {k : List ByteArray} {i : Nat} (h : i < k.length) : k.set i (k.getD i ⟨#[]⟩) = k := by
  rw [show k.getD i ⟨#[]⟩ = k[i] by simp [List.getD, h]]
  exact List.set_getElem_self h
section
variable {w : World} {p : Nat} {k s : List ByteArray} {ws : List Wt} {dn : Bool} {n gk gs : Nat} {v : Value}
set_option maxHeartbeats 2000000 in
theorem kkeep (h : DqIn w p k s ws dn n gk gs v) (x : Wt) (hx : x.1 < n ∧ x.2.size = 64) (m : Nat) (hm : m ≤ 64) (K : List ByteArray) (hK : k.set x.1 (x.2.extract 0 m ++ (k.getD x.1 ⟨#[]⟩).extract m 64) = K) :
    Calls Try.prog 27 #[.pointer (some ⟨p, 0, none⟩), .agg (wV x).toArray, .int .i64 (m : Int)] w fun e w' => e = .returned (.tuple #[]) ∧ DqIn w' p K s ws dn n gk gs v ∧ Tn [gk] w w' := by
  obtain ⟨hx1, hx2⟩ := hx
  have hgk : gk < w.heap.size := block_lt h.bk
  have hpw : p < w.heap.size := block_lt h.bp
  go_enter Try.func27, Try.ntmps27
  go_wp2
  have hA := h.alloc (.cells (wV x).toArray TW)
  have hnew := heap_alloc_new w (.cells (wV x).toArray TW)
  refine region_tail 11 (by kernel_rfl) (by kernel_rfl) fun W hW => ?_
  have HW : DqIn W p k s ws dn n gk gs v := by subst hW; exact hA.drew
  have hnW : W.heap[w.heap.size]? = some (.cells (wV x).toArray TW (0, 0)) := by subst hW; exact hnew
  have HT : Tn [gk] w W := by subst hW; exact ((Tn.refl _ _).alloc _).drew
  clear hW hA hnew
  have c0 := HW.c0
  have hm1 : (m : Int) ≤ 64 := by omega
  have hm0 : (0 : Int) ≤ (m : Int) := by omega
  have e0 : W.cell? ⟨w.heap.size, 0, none⟩ = some (.int .i64 (x.1 : Int)) := by rw [cell_of_row W _ 0 _ _ _ hnW]; rfl
  simp only [List.take_succ_cons, List.take_zero, List.drop_succ_cons, List.drop_zero]
  repeat still_step
  refine wpStill_nil ?_
  have hkx : x.1 < k.length := by rw [HW.kn]; exact hx1
  have hfl := flatS_len HW.ks
  rw [HW.kn] at hfl
  have hlay := flatS_lay HW.ks hkx x.2 hm
  rw [hK] at hlay
  have Hn := Lib.hid (HW.setK (k' := K) (by rw [← hK, List.length_set]; exact HW.kn) (by rw [← hK]; exact set_sz HW.ks (torn_sz hx2 (getD_sz HW.ks hkx) hm)))
  have HT2 := Lib.hid (HT.setRow (g := gk) (.inl (by simp)) (flatS K).toArray)
  have hsrc : ∀ (j : Nat) (u : Value), ((bV x.2).take m)[j]? = some u → W.cell? ((⟨w.heap.size, 1, none⟩ : Addr).add j) = some u := by
    intro j u hu
    rw [Addr.add_mid, cell_of_row W _ _ _ _ _ hnW, List.getElem?_toArray, Nat.add_comm 1 j]
    rw [List.getElem?_take] at hu
    split at hu
    · simpa [wV] using hu
    · cases hu
  have htl : ((bV x.2).take m).length = m := by rw [List.length_take, bV_len, hx2]; omega
  have hone : ∀ u ∈ (bV x.2).take m, u.oneCell' = true := fun u hu => bV_one x.2 u (List.mem_of_mem_take hu)
  have hbk := HW.bk
  clear HW HT c0 e0 hnW h hK
  refine wpList_copy_own rfl (.tmp 13) (.tmp 16) 62 62 rfl 5 Try.underlying62 (by kernel_rfl) gk (x.1 * 64) 64 64 ⟨w.heap.size, 1, none⟩ m 64 rfl rfl (flatS k).toArray TC hbk ((bV x.2).take m) (by rw [htl]; exact (Nat.min_eq_left hm).symm) hsrc (by rw [htl]; simp only [List.size_toArray]; omega) hone ?_
  rw [htl, show (flatS k).toArray.toList = flatS k from rfl, hlay]
  go_wp2
  refine Great.bodyPost_end0 rfl rfl ?_
  exact ⟨rfl, Hn.out, HT2.out⟩
theorem kkeep64 (h : DqIn w p k s ws dn n gk gs v) (x : Wt) (hx : x.1 < n ∧ x.2.size = 64) (K : List ByteArray) (hK : k.set x.1 x.2 = K) :
    Calls Try.prog 27 #[.pointer (some ⟨p, 0, none⟩), .agg (wV x).toArray, .int .i64 64] w fun e w' => e = .returned (.tuple #[]) ∧ DqIn w' p K s ws dn n gk gs v ∧ Tn [gk] w w' :=
  kkeep h x hx 64 (Nat.le_refl _) K (by rw [extract64 hx.2]; exact hK)
theorem kkeep0 (h : DqIn w p k s ws dn n gk gs v) (x : Wt) (hx : x.1 < n ∧ x.2.size = 64) :
    Calls Try.prog 27 #[.pointer (some ⟨p, 0, none⟩), .agg (wV x).toArray, .int .i64 0] w fun e w' => e = .returned (.tuple #[]) ∧ DqIn w' p k s ws dn n gk gs v ∧ Tn [gk] w w' :=
  kkeep h x hx 0 (Nat.zero_le _) k (by rw [extract0 (getD_sz h.ks (by rw [h.kn]; exact hx.1))]; exact set_same (by rw [h.kn]; exact hx.1))
end
end Go.Proofs.Ytlnliphejjfdeaa
