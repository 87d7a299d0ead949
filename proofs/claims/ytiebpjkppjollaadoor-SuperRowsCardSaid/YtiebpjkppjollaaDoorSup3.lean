/- Plain mathematics of superblocks, further: what was put is found; what is torn is not. No program is named. -/
import Derived.Test.YtiebpjkppjollaaDoorSup2
namespace Go.Proofs.YtiebpjkppjollaaDoor
open Go

theorem su_room {most : Int} {ts : List ByteArray} {b : Int} (hm : suMay b = true) (hl : (ts.length : Int) < most) : suE most ts b = 0 := by
  unfold suE suOk
  rw [hm]
  have e : nmE most ts (suTm b) = 0 := by
    unfold nmE
    rw [suTm_ok b]
    simp only [if_true]
    split
    · rfl
    · first | rfl | rw [if_pos hl]
  rw [e]
  rfl
theorem su_full {most : Int} {ts : List ByteArray} {b : Int} (hn : suTm b ∉ ts) (hl : ¬ (ts.length : Int) < most) : suE most ts b = 1000 ∧ suS most ts b = ⟨#[]⟩ ∧ suT most ts b = ts := by
  have hb : isB ts (suTm b) = false := (isB_not _ _).2 hn
  have e : nmE most ts (suTm b) = 201 := by unfold nmE; rw [suTm_ok b, hb, if_neg hl]; rfl
  have k : suOk most ts b = false := by unfold suOk; rw [e]; simp
  refine ⟨by unfold suE; rw [k]; rfl, by unfold suS; rw [k]; rfl, ?_⟩
  unfold suT
  split
  · unfold nmT; rw [suTm_ok b, hb, if_neg hl]; rfl
  · rfl
theorem su_bad {most : Int} {ts : List ByteArray} {b : Int} (hm : suMay b = false) : suE most ts b = 1000 ∧ suS most ts b = ⟨#[]⟩ ∧ suT most ts b = ts := by
  have k : suOk most ts b = false := by unfold suOk; rw [hm]; rfl
  exact ⟨by unfold suE; rw [k]; rfl, by unfold suS; rw [k]; rfl, by unfold suT; rw [hm]; rfl⟩
/-- What stands is found. -/
theorem su_get {ts : List ByteArray} {b : Int} (hm : suMay b = true) (hi : suTm b ∈ ts) (hl : ts.length ≤ 1000000) : sgX ts (suSec b (idx ts (suTm b) : Nat)) = b ∧ sgE ts (suSec b (idx ts (suTm b) : Nat)) = 0 := by
  have hlt := idx_lt hi
  exact sg_yes ((suFind_iff ts _ b _).2 ⟨hm, (okNum_iff _).2 ⟨by omega, by omega⟩, rfl, ckI_of hi⟩)
/-- What Put made is found, in that book and in each later one. -/
theorem su_stands {most : Int} {ts : List ByteArray} {b : Int} (h : suE most ts b = 0) {T : List ByteArray} (hk : ∀ t ∈ suT most ts b, t ∈ T ∧ idx T t = idx (suT most ts b) t) (hl : T.length ≤ 1000000) : sgX T (suS most ts b) = b ∧ sgE T (suS most ts b) = 0 := by
  obtain ⟨h1, h2, h3⟩ := su_in h
  obtain ⟨k1, k2⟩ := hk _ h2
  rw [h3, ← k2]
  exact su_get h1 k1 hl
theorem su_size {most : Int} {ts : List ByteArray} {b : Int} (h : suE most ts b = 0) : (suS most ts b).size = 64 := by
  rw [(su_in h).2.2]; exact suSec_size _ _
/-- The second byte. -/
def by1 (s : ByteArray) : Option UInt8 := s.data.toList[1]?
theorem by1_app {a c : ByteArray} (h : 2 ≤ a.size) : by1 (a ++ c) = by1 a := by
  unfold by1
  have e : (a ++ c).data.toList = a.data.toList ++ c.data.toList := by rw [ByteArray.data_append, Array.toList_append]
  rw [e]
  exact List.getElem?_append_left (by rw [Array.length_toList]; exact h)
theorem by1_num : ∀ n : Fin 1024, 1 ≤ n.val → 2 ≤ (numS (n.val : Int)).size ∧ by1 (numS (n.val : Int)) ≠ some 0 := by decide +kernel
theorem by1_sec {b own : Int} (hm : suMay b = true) : by1 (suSec b own) ≠ some 0 := by
  obtain ⟨h1, h2⟩ := (suMay_iff b).1 hm
  obtain ⟨n, rfl⟩ : ∃ n : Nat, b = n := ⟨b.toNat, by omega⟩
  obtain ⟨k1, k2⟩ := by1_num ⟨n, by omega⟩ (by show 1 ≤ n; omega)
  unfold suSec padS
  rw [by1_app (by rw [ByteArray.size_append]; exact Nat.le_trans k1 (Nat.le_add_right _ _)), by1_app k1]
  exact k2
theorem su_torn {ts : List ByteArray} {s : ByteArray} (h : by1 s = some 0) : sgX ts s = 0 ∧ sgE ts s = 1000 := by
  cases hf : suFind ts s with
  | none => exact sg_no hf
  | some x =>
    obtain ⟨a, _, c, _⟩ := (suFind_iff ts s x.1 x.2).1 hf
    exact absurd (c ▸ h) (by1_sec a)
theorem by1_zer (U : ByteArray) (k : Nat) (hk : k ≤ 1) (hU : k ≤ U.size) : by1 (U.extract 0 k ++ zerN (64 - k)) = some 0 := by
  unfold by1
  have e : (U.extract 0 k ++ zerN (64 - k)).data.toList = (U.extract 0 k).data.toList ++ (zerN (64 - k)).data.toList := by rw [ByteArray.data_append, Array.toList_append]
  have hl : (U.extract 0 k).data.toList.length = k := by
    rw [Array.length_toList]
    show (U.extract 0 k).size = k
    rw [ByteArray.size_extract]; omega
  rw [e, List.getElem?_append_right (by rw [hl]; exact hk), hl]
  unfold zerN
  show (List.replicate (64 - k) (0 : UInt8))[1 - k]? = some 0
  rw [List.getElem?_replicate, if_pos (by omega)]
/-- A text that is too short is none. -/
theorem su_short {ts : List ByteArray} {s : ByteArray} (h : s.size ≠ 64) : sgX ts s = 0 ∧ sgE ts s = 1000 := by
  cases hf : suFind ts s with
  | none => exact sg_no hf
  | some x =>
    obtain ⟨_, _, c, _⟩ := (suFind_iff ts s x.1 x.2).1 hf
    exact absurd (c ▸ suSec_size x.1 x.2) h
/-- What stands in a book. -/
structure Stand (ts : List ByteArray) (b : Int) (s : ByteArray) : Prop where
  may : suMay b = true
  mem : suTm b ∈ ts
  eq : s = suSec b (idx ts (suTm b) : Nat)
theorem Stand.made {most : Int} {ts : List ByteArray} {b : Int} (h : suE most ts b = 0) : Stand (suT most ts b) b (suS most ts b) := by
  obtain ⟨h1, h2, h3⟩ := su_in h
  exact ⟨h1, h2, h3⟩
theorem Stand.keep {ts : List ByteArray} {b : Int} {s : ByteArray} (h : Stand ts b s) (most : Int) (c : Int) : Stand (suT most ts c) b s := by
  obtain ⟨k1, k2⟩ := suT_keep (most := most) c h.mem
  exact ⟨h.may, k1, by rw [k2]; exact h.eq⟩
theorem Stand.get {ts : List ByteArray} {b : Int} {s : ByteArray} (h : Stand ts b s) (hl : ts.length ≤ 1000000) : sgX ts s = b ∧ sgE ts s = 0 := by
  rw [h.eq]; exact su_get h.may h.mem hl
theorem Stand.size {ts : List ByteArray} {b : Int} {s : ByteArray} (h : Stand ts b s) : s.size = 64 := by rw [h.eq]; exact suSec_size _ _
theorem Stand.ne {ts : List ByteArray} {b c : Int} {s t : ByteArray} (h : Stand ts b s) (g : Stand ts c t) (hl : ts.length ≤ 1000000) (hn : b ≠ c) : s ≠ t := by
  intro e
  have h1 := (h.get hl).1
  rw [e, (g.get hl).1] at h1
  exact hn h1.symm
end Go.Proofs.YtiebpjkppjollaaDoor
