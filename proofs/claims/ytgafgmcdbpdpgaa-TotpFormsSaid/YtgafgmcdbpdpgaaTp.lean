/- Plain mathematics of codes by time: steps, a code's term, which of three steps a code is taken for. No program is named. -/
import Derived.Test.YtgafgmcdbpdpgaaCplain2
namespace Go.Proofs.Ytgafgmcdbpdpgaa
open Go

def codeW : ByteArray := ⟨#[99, 111, 100, 101]⟩
/-- What the code of a step is of. -/
def cdS (k : Int) : ByteArray := codeW ++ numS k
def cdK (sec k : Int) : ByteArray := tmK cM (some sec) (cdS k)
theorem cdS_size (k : Int) : (cdS k).size ≤ 9 := by
  have := numS_size k
  unfold cdS
  rw [ByteArray.size_append, show codeW.size = 4 from rfl]; omega
def okS (k : Int) : Bool := decide (1 ≤ k) && decide (k ≤ 1048575)
theorem okS_iff (k : Int) : okS k = true ↔ 1 ≤ k ∧ k ≤ 1048575 := by simp [okS]
theorem okS_num {k : Int} (h : okS k = true) : okNum k = true := by rw [okS_iff] at h; rw [okNum_iff]; omega
/-- The step of a tick. -/
def stX (t : Int) : Int := if 0 ≤ t ∧ t ≤ 1048575 then t / 30 + 1 else 0
theorem stX_in {t : Int} (h0 : 0 ≤ t) (h1 : t ≤ 1048575) : stX t = t / 30 + 1 := by rw [stX, if_pos ⟨h0, h1⟩]
theorem stX_out {t : Int} (h : t < 0 ∨ 1048575 < t) : stX t = 0 := by rw [stX, if_neg (by omega)]
theorem stX_bd (t : Int) : 0 ≤ stX t ∧ stX t ≤ 34953 := by
  unfold stX
  split <;> omega
/-- What Code answers, and leaves. -/
def tpE (most : Int) (ts : List ByteArray) (sec k : Int) : Int := if okS k && decide (ckE most ts (okK (some sec)) (cdK sec k) = 0) then 0 else 1200
def tpX (most : Int) (ts : List ByteArray) (sec k : Int) : Int := if okS k then ckX most ts (okK (some sec)) (cdK sec k) else 0
def tpT (most : Int) (ts : List ByteArray) (sec k : Int) : List ByteArray := if okS k then ckT most ts (okK (some sec)) (cdK sec k) else ts
theorem tp_bad {most : Int} {ts : List ByteArray} {sec k : Int} (h : okS k = false) : tpE most ts sec k = 1200 ∧ tpX most ts sec k = 0 ∧ tpT most ts sec k = ts := by
  unfold tpE tpX tpT; rw [h]; exact ⟨rfl, rfl, rfl⟩
theorem tp_ok {most : Int} {ts : List ByteArray} {sec k : Int} (h : okS k = true) (h0 : ckE most ts (okK (some sec)) (cdK sec k) = 0) : tpE most ts sec k = 0 ∧ tpX most ts sec k = ckX most ts (okK (some sec)) (cdK sec k) ∧ tpT most ts sec k = ckT most ts (okK (some sec)) (cdK sec k) := by
  unfold tpE tpX tpT; rw [h, h0]; exact ⟨rfl, rfl, rfl⟩
theorem ckX_ne {most : Int} {ts : List ByteArray} {ok : Bool} {t : ByteArray} (h : ckE most ts ok t ≠ 0) : ckX most ts ok t = 0 ∧ ckE most ts ok t = 300 := by
  unfold ckE at h ⊢
  unfold ckX
  split at h
  · exact absurd rfl h
  · rename_i c; rw [if_neg c, if_neg c]; exact ⟨rfl, rfl⟩
theorem tp_no {most : Int} {ts : List ByteArray} {sec k : Int} (h : okS k = true) (h0 : ckE most ts (okK (some sec)) (cdK sec k) ≠ 0) : tpE most ts sec k = 1200 ∧ tpX most ts sec k = 0 ∧ tpT most ts sec k = ckT most ts (okK (some sec)) (cdK sec k) := by
  refine ⟨?_, ?_, ?_⟩
  · unfold tpE; rw [h, decide_eq_false h0]; rfl
  · unfold tpX; rw [if_pos h]; exact (ckX_ne h0).1
  · unfold tpT; rw [if_pos h]

/-- Is a code a step's, and the step above the last one taken? -/
def hitB (ts : List ByteArray) (sec last code k : Int) : Bool := decide (last < k) && ckI ts (okK (some sec)) (cdK sec k) code
/-- The first of so many numbers, from k on, that fits; 0: none. -/
def accF (f : Int → Bool) : Nat → Int → Int
  | 0, _ => 0
  | n + 1, k => if f k then k else accF f n (k + 1)
theorem accF_yes {f : Int → Bool} {n : Nat} {k : Int} (h : f k = true) : accF f (n + 1) k = k := by rw [accF, if_pos h]
theorem accF_no {f : Int → Bool} {n : Nat} {k : Int} (h : f k = false) : accF f (n + 1) k = accF f n (k + 1) := by rw [accF, if_neg (by rw [h]; exact Bool.false_ne_true)]
/-- The first step that is asked, and how many. -/
def accA (s : Int) : Int := if s - 1 < 1 then 1 else s - 1
def accN (s : Int) : Nat := (s + 2 - accA s).toNat
def accX (ts : List ByteArray) (sec last tick code : Int) : Int := if stX tick = 0 then 0 else accF (hitB ts sec last code) (accN (stX tick)) (accA (stX tick))
def accB (ts : List ByteArray) (sec last tick code : Int) : Bool := decide (0 < accX ts sec last tick code)
theorem accA_bd {s : Int} (h : 1 ≤ s) : 1 ≤ accA s ∧ accA s ≤ s ∧ accA s + (accN s : Int) = s + 2 := by
  unfold accN accA
  split <;> omega
theorem accF_bd (f : Int → Bool) : ∀ (n : Nat) (k : Int), 1 ≤ k → accF f n k = 0 ∨ (k ≤ accF f n k ∧ accF f n k < k + n ∧ f (accF f n k) = true) := by
  intro n
  induction n with
  | zero => intro k _; exact .inl rfl
  | succ n ih =>
    intro k hk
    by_cases h : f k = true
    · rw [accF_yes h]; exact .inr ⟨by omega, by omega, h⟩
    · rw [accF_no (by simpa using h)]
      rcases ih (k + 1) (by omega) with c | ⟨c1, c2, c3⟩
      · exact .inl c
      · exact .inr ⟨by omega, by omega, c3⟩
theorem accF_at {f : Int → Bool} {i : Int} {b : Bool} (hi : 1 ≤ i) : ∀ (n : Nat) (k : Int), (∀ j, k ≤ j → j < k + n → f j = (b && decide (j = i))) → accF f n k = if b = true ∧ k ≤ i ∧ i < k + n then i else 0 := by
  intro n
  induction n with
  | zero => intro k _; rw [if_neg (by omega)]; rfl
  | succ n ih =>
    intro k hf
    have h0 := hf k (by omega) (by omega)
    by_cases hk : b = true ∧ k = i
    · obtain ⟨rfl, rfl⟩ := hk
      rw [accF_yes (by rw [h0]; simp), if_pos ⟨rfl, by omega, by omega⟩]
    · have hb : f k = false := by
        rw [h0, Bool.eq_false_iff]
        intro e
        simp at e
        exact hk e
      rw [accF_no hb, ih (k + 1) (fun j a c => hf j (by omega) (by omega))]
      by_cases hc : b = true ∧ k + 1 ≤ i ∧ i < k + 1 + (n : Int)
      · rw [if_pos hc, if_pos ⟨hc.1, by omega, by omega⟩]
      · rw [if_neg hc, if_neg]
        rintro ⟨c1, c2, c3⟩
        refine hc ⟨c1, ?_, by omega⟩
        have : k ≠ i := fun e => hk ⟨c1, e⟩
        omega
/-- A code that is the step i's and no other's. -/
theorem acc_at {ts : List ByteArray} {sec code i : Int} (last tick : Int) (hi : 1 ≤ i) (h : ∀ k, 1 ≤ k → k ≤ 34954 → ckI ts (okK (some sec)) (cdK sec k) code = decide (k = i)) :
    accX ts sec last tick code = if stX tick ≠ 0 ∧ last < i ∧ stX tick - 1 ≤ i ∧ i ≤ stX tick + 1 then i else 0 := by
  obtain ⟨b0, b1⟩ := stX_bd tick
  unfold accX
  by_cases h0 : stX tick = 0
  · rw [if_pos h0, if_neg (fun c => c.1 h0)]
  · rw [if_neg h0]
    obtain ⟨a1, a2, a3⟩ := accA_bd (s := stX tick) (by omega)
    have ha : accA (stX tick) = if stX tick - 1 < 1 then 1 else stX tick - 1 := rfl
    have hf := accF_at (f := hitB ts sec last code) (b := decide (last < i)) hi (accN (stX tick)) (accA (stX tick)) (fun j j0 j1 => by
      unfold hitB
      rw [h j (by omega) (by omega)]
      by_cases e : j = i
      · rw [e]
      · rw [decide_eq_false e, Bool.and_false, Bool.and_false])
    rw [hf]
    generalize accA (stX tick) = A at *
    generalize stX tick = s at *
    by_cases hc : last < i ∧ s - 1 ≤ i ∧ i ≤ s + 1
    · have hl : decide (last < i) = true ∧ A ≤ i ∧ i < A + (accN s : Int) := ⟨decide_eq_true hc.1, by split at ha <;> omega, by omega⟩
      rw [if_pos hl, if_pos ⟨h0, hc⟩]
    · have hl : ¬ (decide (last < i) = true ∧ A ≤ i ∧ i < A + (accN s : Int)) := by
        rintro ⟨c1, c2, c3⟩
        have c4 := of_decide_eq_true c1
        refine hc ⟨c4, ?_, by omega⟩
        split at ha <;> omega
      rw [if_neg hl, if_neg (fun c => hc c.2)]
theorem accB_eq {ts : List ByteArray} {sec last tick code x : Int} (h : accX ts sec last tick code = x) : accB ts sec last tick code = decide (0 < x) := by rw [accB, h]

theorem codeW_inj {a b : ByteArray} (h : codeW ++ a = codeW ++ b) : a = b := ba_cancel h
theorem numS_inj {x y : Int} (x0 : 0 ≤ x) (x1 : x ≤ 1073741823) (y0 : 0 ≤ y) (y1 : y ≤ 1073741823) (h : numS x = numS y) : x = y :=
  (numS_pf (s := ⟨#[]⟩) (t := ⟨#[]⟩) x0 x1 y0 y1 (by rw [h])).1
theorem cdK_inj {x y i j : Int} (x0 : 0 ≤ x) (x1 : x ≤ 1073741823) (y0 : 0 ≤ y) (y1 : y ≤ 1073741823) (i0 : 0 ≤ i) (i1 : i ≤ 1073741823) (j0 : 0 ≤ j) (j1 : j ≤ 1073741823) (h : cdK x i = cdK y j) : x = y ∧ i = j := by
  obtain ⟨h1, h2⟩ := tm_inj1 (s := cdS i) (t := cdS j) x0 x1 y0 y1 h
  exact ⟨h1, numS_inj i0 i1 j0 j1 (codeW_inj h2)⟩
theorem cdK_ok (sec k : Int) : okT (cdK sec k) = true := tm_ok rfl _ (by have := cdS_size k; omega)
/-- A term's name is its own alone. -/
theorem ckI_idx {ts : List ByteArray} {t u : ByteArray} (h : u ∈ ts) : ckI ts true t (idx ts u : Nat) = decide (t = u) := by
  unfold ckI fnd
  by_cases ht : t ∈ ts
  · rw [(isB_iff _ _).2 ht, if_pos rfl]
    by_cases e : t = u
    · rw [e]; simp
    · rw [decide_eq_false e, Bool.true_and, Bool.true_and]
      exact decide_eq_false (fun c => e (idx_inj ht h (by omega)))
  · rw [(isB_not _ _).2 ht]
    have : t ≠ u := fun e => ht (e ▸ h)
    rw [decide_eq_false this]; rfl
theorem acc_idx {ts : List ByteArray} {sec i : Int} (last tick : Int) (s0 : 0 ≤ sec) (s1 : sec ≤ 1073741823) (i0 : 1 ≤ i) (i1 : i ≤ 1048575) (h : cdK sec i ∈ ts) :
    accX ts sec last tick (idx ts (cdK sec i) : Nat) = if stX tick ≠ 0 ∧ last < i ∧ stX tick - 1 ≤ i ∧ i ≤ stX tick + 1 then i else 0 := by
  refine acc_at last tick i0 (fun k k0 k1 => ?_)
  rw [show okK (some sec) = true from (okNum_iff _).2 ⟨s0, s1⟩, ckI_idx h]
  by_cases e : k = i
  · rw [e]; simp
  · rw [decide_eq_false e]
    exact decide_eq_false (fun c => e (cdK_inj s0 s1 s0 s1 (by omega) (by omega) (by omega) (by omega) c).2)
/-- Naming a code's term where there is room. -/
theorem tp_room {most : Int} {ts : List ByteArray} {sec k : Int} (s0 : 0 ≤ sec) (s1 : sec ≤ 1073741823) (k0 : 1 ≤ k) (k1 : k ≤ 1048575) (hr : (ts.length : Int) < most) :
    tpE most ts sec k = 0 ∧ tpX most ts sec k = (idx (tpT most ts sec k) (cdK sec k) : Nat) ∧ cdK sec k ∈ tpT most ts sec k ∧ (tpT most ts sec k).length ≤ ts.length + 1 ∧ ∀ u ∈ ts, u ∈ tpT most ts sec k ∧ idx (tpT most ts sec k) u = idx ts u := by
  have hk : okS k = true := (okS_iff _).2 ⟨k0, k1⟩
  have hs : okK (some sec) = true := (okNum_iff _).2 ⟨s0, s1⟩
  by_cases hm : cdK sec k ∈ ts
  · obtain ⟨e1, e2, e3⟩ := ck_old (most := most) (cdK_ok sec k) hm
    obtain ⟨g1, g2, g3⟩ := tp_ok (most := most) (ts := ts) (sec := sec) hk (by rw [hs]; exact e2)
    rw [hs] at g2 g3
    rw [g1, g2, g3, e1, e3]
    exact ⟨rfl, rfl, hm, by omega, fun u hu => ⟨hu, rfl⟩⟩
  · obtain ⟨e1, e2, e3⟩ := ck_new (most := most) (cdK_ok sec k) hm hr
    obtain ⟨g1, g2, g3⟩ := tp_ok (most := most) (ts := ts) (sec := sec) hk (by rw [hs]; exact e2)
    rw [hs] at g2 g3
    rw [g1, g2, g3, e1, e3, idx_snoc_new hm]
    exact ⟨rfl, rfl, by simp, by simp, fun u hu => ⟨by simp [hu], idx_snoc_other hu⟩⟩
end Go.Proofs.Ytgafgmcdbpdpgaa
