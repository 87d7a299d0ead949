/- packet.May answers as the plain words say. No condition. -/
import Derived.Test.YtheeblhlhdeghaaDoorPpm
import Derived.Test.YtheeblhlhdeghaaDoorBlk
import Derived.Outline
namespace Go.Proofs.YtheeblhlhdeghaaDoor
open Go Go.RowKit

theorem idx7 (x : Nat → Int) (j : Nat) (hj : j < 7) (w : World) : (Instr.index 46 (.agg #[.int .i64 (x 0), .int .i64 (x 1), .int .i64 (x 2), .int .i64 (x 3), .int .i64 (x 4), .int .i64 (x 5), .int .i64 (x 6)]) (.int .i64 (j : Int))).run Tryd.prog w = .ok (.int .i64 (x j)) w := by
  match j, hj with
  | 0, _ => show (_ : Result _) = _; kernel_rfl
  | 1, _ => show (_ : Result _) = _; kernel_rfl
  | 2, _ => show (_ : Result _) = _; kernel_rfl
  | 3, _ => show (_ : Result _) = _; kernel_rfl
  | 4, _ => show (_ : Result _) = _; kernel_rfl
  | 5, _ => show (_ : Result _) = _; kernel_rfl
  | 6, _ => show (_ : Result _) = _; kernel_rfl
def row7 (a b c d e f g : Int) : Nat → Int
  | 0 => a | 1 => b | 2 => c | 3 => d | 4 => e | 5 => f | _ => g
theorem idxR (a b c d e f g : Int) (j : Nat) (hj : j < 7) (w : World) : (Instr.index 46 (.agg #[.int .i64 a, .int .i64 b, .int .i64 c, .int .i64 d, .int .i64 e, .int .i64 f, .int .i64 g]) (.int .i64 (j : Int))).run Tryd.prog w = .ok (.int .i64 (row7 a b c d e f g j)) w := idx7 (row7 a b c d e f g) j hj w
/-- What the program asks of a packet. -/
def okP (k u n h t c s q : Int) (d : ByteArray) : Bool := !((pU k : Int) == 0) && (List.range 7).all (fun j => decide (0 ≤ row7 u h s q t n c j) && decide (row7 u h s q t n c j ≤ pM (pU k) j)) && decide ((d.size : Int) ≤ pM (pU k) 7)

theorem hx {r M : Nat → Int} (l : Nat) (j : Nat) (hj : j < l) (h : r j < 0 ∨ M j < r j) : (List.range l).all (fun j => decide (0 ≤ r j) && decide (r j ≤ M j)) = false := by
  rw [List.all_eq_false]
  exact ⟨j, List.mem_range.2 hj, by simp; omega⟩
theorem hy {r M : Nat → Int} (l : Nat) (h : ∀ j, j < l → 0 ≤ r j ∧ r j ≤ M j) : (List.range l).all (fun j => decide (0 ≤ r j) && decide (r j ≤ M j)) = true := by
  rw [List.all_eq_true]
  intro j hj
  have := h j (List.mem_range.1 hj)
  simp; omega
set_option maxHeartbeats 2000000 in
theorem ppmayR (k u n h t c s q : Int) (d : ByteArray) (w : World) : Calls Tryd.prog 12 #[.agg #[.int .i64 k, .int .i64 u, .int .i64 n, .int .i64 h, .int .i64 t, .int .i64 c, .int .i64 s, .int .i64 q, .string d]] w fun e w' => e = .returned (.bool (okP k u n h t c s q d)) ∧ Below w.heap.size w w' := by
  have HN := Lib.hid (fun w => pnamed k w)
  have HR := Lib.hid (fun w => prow k u n h t c s q d w)
  have HM := Lib.hid (fun (j : Int) w j0 j1 => pmost (pU k) j w j0 j1)
  have HI := Lib.hid (fun j hj w => idxR u h s q t n c j hj w)
  have HP : Hid (okP k u n h t c s q d = (!((pU k : Int) == 0) && (List.range 7).all (fun j => decide (0 ≤ row7 u h s q t n c j) && decide (row7 u h s q t n c j ≤ pM (pU k) j)) && decide ((d.size : Int) ≤ pM (pU k) 7))) := Lib.hid rfl
  generalize okP k u n h t c s q d = B at *
  generalize hu : pU k = U at *
  clear hu
  by_cases h0 : ((U : Int) == 0) = true
  · go_enter Tryd.func12, Tryd.ntmps12
    go_wp2_with (go_at_call 15; (with_reducible refine (HN.out _).mono ?_); rintro e w1 ⟨rfl, rfl⟩)
    go_ret
    exact ⟨ret_bo (by rw [HP.out, h0]; rfl), by repeat (first | exact Below.refl _ _ | refine Below.setCell ?_ (by simp) _ | refine Below.alloc ?_ (by simp) _)⟩
  have h1 : ((U : Int) == 0) = false := by simpa using h0
  clear h0
  go_enter Tryd.func12, Tryd.ntmps12
  go_wp2_with (first
    | (go_at_call 15; (with_reducible refine (HN.out _).mono ?_); rintro e w1 ⟨rfl, rfl⟩)
    | (go_at_call 17; (with_reducible refine (HR.out _).mono ?_); rintro e w1 ⟨rfl, hb⟩; have kp := (Blk.new _ _ _).step hb; have e1 := kp.cell; have g1 := kp.froz; have l1 := kp.lt; have hb' := ((Below.refl w.heap.size w).alloc (Nat.le_refl _) (.cells #[.int .i64 k, .int .i64 u, .int .i64 n, .int .i64 h, .int .i64 t, .int .i64 c, .int .i64 s, .int .i64 q, .string d] 23)).trans (hb.mono (by simp)); clear hb))
  go_loop [13] (fun i => ∃ j : Nat, j ≤ 7 ∧ (∀ m, m < j → 0 ≤ row7 u h s q t n c m ∧ row7 u h s q t n c m ≤ pM U m) ∧ i = .int .i64 j) (fun i => 7 - (intOf i).toNat)
  case atStart => exact ⟨0, by omega, fun m hm => absurd hm (by omega), rfl⟩
  case round =>
    obtain ⟨j, hj, hall, rfl⟩ := hrel
    have HA := Lib.hid hall
    clear hall
    by_cases hlt : j < 7
    · have hi := HI.out j hlt
      have HMj := Lib.hid (fun w => HM.out (j : Int) w (by omega) (by omega))
      go_wp2_with (go_at_call 25; (with_reducible refine (HMj.out _).mono ?_); rintro e w1 ⟨rfl, rfl⟩)
      all_goals first
        | (go_ret; refine ⟨ret_bo ?_, hb'⟩; rw [HP.out, hx _ j hlt (by first | exact Or.inl (by assumption) | exact Or.inr (by assumption) | assumption), Bool.and_false, Bool.false_and])
        | (go_round
           case rel => exact ⟨j + 1, by omega, fun m hm => (by
             by_cases e : m = j
             · subst e; first | assumption | exact ⟨by assumption, by assumption⟩ | omega
             · exact HA.out m (by omega)), by go_num⟩
           case measure => simp [intOf]; omega)
    · have e7 : j = 7 := by omega
      subst e7
      have HMj := Lib.hid (fun w => HM.out 7 w (by omega) (by omega))
      go_wp2_with fail
      go_quiet ((go_at_call 25; exact Calls.quiet_of_same ((HMj.out _).mono fun _ _ ⟨a, b⟩ => ⟨a, b.symm⟩)))
      go_wp2
      go_ret
      refine ⟨ret_bo ?_, hb'.trans (Below.mono ⟨rfl, rfl, rfl, Nat.le_refl _, fun _ _ => rfl⟩ hb'.size)⟩
      rw [HP.out, hy _ (fun m hm => HA.out m hm), h1]
      rfl
end Go.Proofs.YtheeblhlhdeghaaDoor
