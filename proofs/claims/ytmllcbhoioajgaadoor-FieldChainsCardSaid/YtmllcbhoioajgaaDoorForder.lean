/- The walk of FieldOrder, with the plain fact that numbers stand as their bytes do. Condition: errors.errorType holds the handle of the type error. -/
import Derived.Test.YtmllcbhoioajgaaDoorFields
import Derived.Test.YtmllcbhoioajgaaDoorFplain3
namespace Go.Proofs.YtmllcbhoioajgaaDoor
open Go.RowKit

/-- Byte by byte, as numbers. -/
def lexI : List Int → List Int → Bool
  | _, [] => false
  | [], _ :: _ => true
  | a :: x, b :: y => decide (a < b) || (decide (a = b) && lexI x y)
def okL (l : List Int) : Prop := ∀ n ∈ l, 0 ≤ n ∧ n ≤ 255
theorem less_lex (l : List Int) : ∀ m : List Int, okL l → okL m → Op.bytesLess (bytesOf l) (bytesOf m) = lexI l m := by
  induction l with
  | nil => intro m _ _; cases m <;> rfl
  | cons a x ih =>
    intro m h1 h2
    cases m with
    | nil => rfl
    | cons b y =>
      have ha := h1 a (by simp)
      have hb := h2 b (by simp)
      have ht := ih y (fun n hn => h1 n (by simp [hn])) (fun n hn => h2 n (by simp [hn]))
      have e1 : decide (UInt8.ofNat a.toNat < UInt8.ofNat b.toNat) = decide (a < b) := by
        rw [Bool.eq_iff_iff, decide_eq_true_iff, decide_eq_true_iff, UInt8.lt_iff_toNat_lt]
        simp only [UInt8.toNat_ofNat']
        omega
      have e2 : (UInt8.ofNat a.toNat == UInt8.ofNat b.toNat) = decide (a = b) := by
        rw [Bool.eq_iff_iff, decide_eq_true_iff, beq_iff_eq, ← UInt8.toNat_inj]
        simp only [UInt8.toNat_ofNat']
        omega
      show (decide (UInt8.ofNat a.toNat < UInt8.ofNat b.toNat) || (UInt8.ofNat a.toNat == UInt8.ofNat b.toNat && Op.bytesLess (bytesOf x) (bytesOf y))) = _
      rw [e1, e2, ht]
      rfl
theorem numL_okL (x : Int) (h0 : 0 ≤ x) (h1 : x ≤ 1073741823) : okL (numL x) := by
  intro n hn
  unfold numL at hn
  repeat' split at hn
  all_goals simp at hn; omega
theorem numL_lex (p q : Int) (p0 : 0 ≤ p) (p1 : p ≤ 1073741823) (q0 : 0 ≤ q) (q1 : q ≤ 1073741823) : lexI (numL p) (numL q) = decide (p < q) := by
  rw [Bool.eq_iff_iff, decide_eq_true_iff]
  unfold numL
  repeat' split
  all_goals simp [lexI]
  all_goals omega
theorem numB_less (p q : Int) (p0 : 0 ≤ p) (p1 : p ≤ 1073741823) (q0 : 0 ≤ q) (q1 : q ≤ 1073741823) : Op.bytesLess (numS p).toList (numS q).toList = decide (p < q) := by
  rw [numS_ok p0 p1, numS_ok q0 q1, numB_toList, numB_toList, less_lex _ _ (numL_okL p p0 p1) (numL_okL q q0 q1), numL_lex p q p0 p1 q0 q1]
theorem lexI_self (l : List Int) : lexI l l = false := by
  induction l with
  | nil => rfl
  | cons a x ih => simp [lexI, ih]
theorem numB_eq (p q : Int) (p0 : 0 ≤ p) (p1 : p ≤ 1073741823) (q0 : 0 ≤ q) (q1 : q ≤ 1073741823) : ((numS p).toList == (numS q).toList) = (p == q) := by
  rw [Bool.eq_iff_iff, beq_iff_eq, beq_iff_eq]
  constructor
  · intro h
    have h1 := numB_less p q p0 p1 q0 q1
    have h2 := numB_less q p q0 q1 p0 p1
    have h3 := numB_less p p p0 p1 p0 p1
    rw [h] at h1
    rw [← h] at h2
    rw [h3] at h2
    have h4 := numB_less q q q0 q1 q0 q1
    rw [h4] at h1
    have e1 : ¬ q < q := by omega
    have e2 : ¬ p < p := by omega
    simp only [e1, e2, decide_false] at h1 h2
    have := of_decide_eq_false h1.symm
    have := of_decide_eq_false h2.symm
    omega
  · rintro rfl; rfl
theorem numS_pos (p : Int) (p0 : 0 ≤ p) (p1 : p ≤ 1073741823) : 1 ≤ (numS p).size := by
  rw [numS_ok p0 p1, numB_size]; exact (numL_len p).1

theorem ret_b {a b : Bool} (h : a = b) : Ending.returned (.bool a) = .returned (.bool b) := by rw [h]

set_option maxRecDepth 100000 in
set_option maxHeartbeats 4000000 in
theorem order_walk (x y : Int) (w : World) (hg : Gd w) :
    Calls Tryd.prog 4 #[.int .i64 x, .int .i64 y] w fun e w' => e = .returned (.bool true) ∧ Gr w w' := by
  have hr := Gr.refl hg
  obtain ⟨p, hp⟩ : ∃ p, x % 1073741824 = p := ⟨_, rfl⟩
  obtain ⟨q, hq⟩ : ∃ q, y % 1073741824 = q := ⟨_, rfl⟩
  have p0 : 0 ≤ p := by omega
  have p1 : p ≤ 1073741823 := by omega
  have q0 : 0 ≤ q := by omega
  have q1 : q ≤ 1073741823 := by omega
  have hbx : bits .and .i64 x 1073741823 = p := (i64_mask x 30 (by omega)).trans hp
  have hby : bits .and .i64 y 1073741823 = q := (i64_mask y 30 (by omega)).trans hq
  have hl := numB_less p q p0 p1 q0 q1
  have he := numB_eq p q p0 p1 q0 q1
  have s0 := numS_pos p p0 p1
  have s1 := numS_size p
  have e1 := numE_ok p0 p1
  have e2 := numE_ok q0 q1
  clear hp hq
  go_enter Tryd.func4, Tryd.ntmps4
  go_wp2_with (first
    | (go_at_call 8; (with_reducible refine (fnum _ _ (by omega) (by omega)).mono ?_); rintro e w1 ⟨rfl, hb⟩; replace hr := hr.step hb; clear hb)
    | (go_at_call 17; (with_reducible refine (awake _ hr.good).mono ?_); rintro e w1 ⟨rfl, hb⟩; replace hr := hr.step hb.below; clear hb)
    | (go_at_call 10; refine (lnum _ _).mono ?_; rintro e w1 ⟨rfl, rfl⟩))
  go_ret
  exact ⟨ret_b (by rw [decide_eq_true_iff]; omega), hr⟩
end Go.Proofs.YtmllcbhoioajgaaDoor
