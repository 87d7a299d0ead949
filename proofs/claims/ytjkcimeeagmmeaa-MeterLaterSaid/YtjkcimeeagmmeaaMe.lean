/- Meters in plain words: which may be, when a session is over and why, what is delivered. No program is named. -/
import Derived.WalkKit
namespace Go.Proofs.Ytjkcimeeagmmeaa
open Go

def meNum (x : Int) : Bool := decide (0 ≤ x) && decide (x ≤ 1073741823)
def meMay (s l b : Int) : Bool := meNum s && meNum l && meNum b && decide (s ≤ l)
/-- May it be asked whether all is over? -/
def meOv (s l b t i a : Int) : Bool := meMay s l b && meNum t && meNum i && meNum a
/-- Why it is over. -/
def meW (s l b t i a : Int) : Int := if meOv s l b t i a then (if a < t - s then 2 else if i < t - l then 1 else 0) else 0
def meI (s l b t i a : Int) : Bool := meOv s l b t i a && (decide (a < t - s) || decide (i < t - l))
/-- May it be counted? -/
def meOk (s l b t y u q : Int) : Bool := meMay s l b && meNum t && meNum y && meNum u && meNum q && decide (l ≤ t) && decide (y ≤ 64)
def meE (s l b t y u q : Int) : Int := if meOk s l b t y u q then 0 else 1900
/-- Is it delivered? -/
def meG (s l b t y u q : Int) : Bool := meOk s l b t y u q && decide (u < q) && decide (y ≤ 1073741823 - b)
def meS (s l b t y u q : Int) : Int := if meG s l b t y u q then s else 0
def meL (s l b t y u q : Int) : Int := if meG s l b t y u q then t else 0
def meB (s l b t y u q : Int) : Int := if meG s l b t y u q then b + y else 0
theorem meNum_iff {x : Int} : meNum x = true ↔ 0 ≤ x ∧ x ≤ 1073741823 := by simp [meNum]
theorem meNum_no {x : Int} : meNum x = false ↔ x < 0 ∨ 1073741823 < x := by
  rw [Bool.eq_false_iff, ne_eq, meNum_iff]; omega
theorem meMay_iff {s l b : Int} : meMay s l b = true ↔ (0 ≤ s ∧ s ≤ 1073741823) ∧ (0 ≤ l ∧ l ≤ 1073741823) ∧ (0 ≤ b ∧ b ≤ 1073741823) ∧ s ≤ l := by
  simp only [meMay, Bool.and_eq_true, meNum_iff, decide_eq_true_eq]
  constructor
  · rintro ⟨⟨⟨a, b⟩, c⟩, d⟩; exact ⟨a, b, c, d⟩
  · rintro ⟨a, b, c, d⟩; exact ⟨⟨⟨a, b⟩, c⟩, d⟩
theorem meOv_iff {s l b t i a : Int} : meOv s l b t i a = true ↔ meMay s l b = true ∧ (0 ≤ t ∧ t ≤ 1073741823) ∧ (0 ≤ i ∧ i ≤ 1073741823) ∧ (0 ≤ a ∧ a ≤ 1073741823) := by
  simp only [meOv, Bool.and_eq_true, meNum_iff]
  constructor
  · rintro ⟨⟨⟨a, b⟩, c⟩, d⟩; exact ⟨a, b, c, d⟩
  · rintro ⟨a, b, c, d⟩; exact ⟨⟨⟨a, b⟩, c⟩, d⟩
theorem meOk_iff {s l b t y u q : Int} : meOk s l b t y u q = true ↔ meMay s l b = true ∧ (0 ≤ t ∧ t ≤ 1073741823) ∧ (0 ≤ y ∧ y ≤ 1073741823) ∧ (0 ≤ u ∧ u ≤ 1073741823) ∧ (0 ≤ q ∧ q ≤ 1073741823) ∧ l ≤ t ∧ y ≤ 64 := by
  simp only [meOk, Bool.and_eq_true, meNum_iff, decide_eq_true_eq]
  constructor
  · rintro ⟨⟨⟨⟨⟨⟨a, b⟩, c⟩, d⟩, e⟩, f⟩, g⟩; exact ⟨a, b, c, d, e, f, g⟩
  · rintro ⟨a, b, c, d, e, f, g⟩; exact ⟨⟨⟨⟨⟨⟨a, b⟩, c⟩, d⟩, e⟩, f⟩, g⟩
theorem me_ov_no {s l b t i a : Int} (h : meOv s l b t i a = false) : meW s l b t i a = 0 ∧ meI s l b t i a = false := by
  unfold meW meI; rw [h]; exact ⟨rfl, rfl⟩
theorem me_ov_yes {s l b t i a : Int} (h : meOv s l b t i a = true) : meW s l b t i a = (if a < t - s then 2 else if i < t - l then 1 else 0) ∧ meI s l b t i a = (decide (a < t - s) || decide (i < t - l)) := by
  unfold meW meI; rw [h]; exact ⟨rfl, by rw [Bool.true_and]⟩
theorem me_no {s l b t y u q : Int} (h : meOk s l b t y u q = false) : meE s l b t y u q = 1900 ∧ meG s l b t y u q = false ∧ meS s l b t y u q = 0 ∧ meL s l b t y u q = 0 ∧ meB s l b t y u q = 0 := by
  have hg : meG s l b t y u q = false := by unfold meG; rw [h]; rfl
  unfold meE meS meL meB
  rw [hg, h]; exact ⟨rfl, rfl, rfl, rfl, rfl⟩
theorem me_full {s l b t y u q : Int} (h : meOk s l b t y u q = true) (hf : q ≤ u ∨ 1073741823 - b < y) : meE s l b t y u q = 0 ∧ meG s l b t y u q = false ∧ meS s l b t y u q = 0 ∧ meL s l b t y u q = 0 ∧ meB s l b t y u q = 0 := by
  have hg : meG s l b t y u q = false := by
    unfold meG
    rw [h, Bool.true_and]
    rcases hf with c | c
    · rw [decide_eq_false (by omega), Bool.false_and]
    · rw [decide_eq_false (show ¬ y ≤ 1073741823 - b by omega), Bool.and_false]
  unfold meE meS meL meB
  rw [hg, h]; exact ⟨rfl, rfl, rfl, rfl, rfl⟩
theorem me_yes {s l b t y u q : Int} (h : meOk s l b t y u q = true) (h1 : u < q) (h2 : y ≤ 1073741823 - b) : meE s l b t y u q = 0 ∧ meG s l b t y u q = true ∧ meS s l b t y u q = s ∧ meL s l b t y u q = t ∧ meB s l b t y u q = b + y := by
  have hg : meG s l b t y u q = true := by
    unfold meG
    rw [h, decide_eq_true h1, decide_eq_true h2]; rfl
  unfold meE meS meL meB
  rw [hg, h]; exact ⟨rfl, rfl, rfl, rfl, rfl⟩
end Go.Proofs.Ytjkcimeeagmmeaa
