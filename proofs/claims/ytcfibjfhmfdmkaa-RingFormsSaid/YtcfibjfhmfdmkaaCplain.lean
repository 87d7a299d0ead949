/- Plain mathematics of crafted terms: what Atom, Hash, Mac, Seal, the asking calls and Open answer over a book of terms. No program is named. -/
import Derived.Test.YtcfibjfhmfdmkaaBplain
import Derived.Test.YtcfibjfhmfdmkaaFplain
import Derived.Lib.Strings
namespace Go.Proofs.Ytcfibjfhmfdmkaa
open Go

/-- The keys of a kind: none, or one. -/
def okK : Option Int → Bool
  | none => true
  | some k => okNum k
/-- What stands ahead of a term's text. -/
def hdK (c : ByteArray) : Option Int → ByteArray
  | none => c
  | some k => c ++ numS k
def tmK (c : ByteArray) (ko : Option Int) (s : ByteArray) : ByteArray := hdK c ko ++ s
/-- What naming a crafted term answers, and leaves. -/
def ckX (most : Int) (ts : List ByteArray) (ok : Bool) (t : ByteArray) : Int := if ok && decide (nmE most ts t = 0) then nmX most ts t else 0
def ckE (most : Int) (ts : List ByteArray) (ok : Bool) (t : ByteArray) : Int := if ok && decide (nmE most ts t = 0) then 0 else 300
def ckT (most : Int) (ts : List ByteArray) (ok : Bool) (t : ByteArray) : List ByteArray := if ok then nmT most ts t else ts
/-- Is the tag the term's name? -/
def ckI (ts : List ByteArray) (ok : Bool) (t : ByteArray) (tag : Int) : Bool := ok && isB ts t && decide (fnd ts t = tag)
def cA : ByteArray := ⟨#[65]⟩
def cH : ByteArray := ⟨#[72]⟩
def cM : ByteArray := ⟨#[77]⟩
def cS : ByteArray := ⟨#[83]⟩
def pfx (t h : ByteArray) : Bool := Lib.hasPrefix t.data.toList h.data.toList
/-- Is the tag the name of a seal of that key? -/
def opB (ts : List ByteArray) (key tag : Int) : Bool := okNum key && decide (tmE ts tag = 0) && pfx (tmS ts tag) (cS ++ numS key)
def opS (ts : List ByteArray) (key tag : Int) : ByteArray := if opB ts key tag then (tmS ts tag).extract (cS ++ numS key).size (tmS ts tag).size else ⟨#[]⟩
def opE (ts : List ByteArray) (key tag : Int) : Int := if opB ts key tag then 0 else 301

theorem tmK_size (c : ByteArray) (ko : Option Int) (s : ByteArray) : (tmK c ko s).size = (hdK c ko).size + s.size := ByteArray.size_append
theorem numS_size5 (x : Int) : (numS x).size ≤ 5 := by
  unfold numS
  split
  · have := (numL_len x).2
    rw [Lib.size_eq, numB_data]; simpa [bytesOf] using this
  · simp [ByteArray.size]
theorem hdK_size {c : ByteArray} (hc : c.size = 1) (ko : Option Int) : 1 ≤ (hdK c ko).size ∧ (hdK c ko).size ≤ 6 := by
  cases ko with
  | none => show 1 ≤ c.size ∧ c.size ≤ 6; omega
  | some k => have := numS_size5 k; show 1 ≤ (c ++ numS k).size ∧ (c ++ numS k).size ≤ 6; rw [ByteArray.size_append]; omega
/-- A term that is too long is none, and no book holds it. -/
theorem big_no {ts : List ByteArray} {t : ByteArray} (ok : ∀ t ∈ ts, okT t = true) (h : 512 < t.size) : okT t = false ∧ isB ts t = false := by
  have h1 : okT t = false := by
    cases c : okT t
    · rfl
    · have := ((okT_iff t).1 c).2; omega
  refine ⟨h1, ?_⟩
  rw [isB_not]
  intro c
  rw [ok t c] at h1; cases h1
theorem big_nm (most : Int) (ts : List ByteArray) {t : ByteArray} (h : okT t = false) : nmE most ts t = 200 ∧ nmT most ts t = ts := by
  unfold nmE nmT; rw [h]; exact ⟨rfl, rfl⟩
theorem ckX_bad {most : Int} {ts : List ByteArray} {ok : Bool} {t : ByteArray} (h : ok = false ∨ nmE most ts t ≠ 0) : ckX most ts ok t = 0 ∧ ckE most ts ok t = 300 := by
  have : (ok && decide (nmE most ts t = 0)) = false := by
    rcases h with h | h
    · rw [h]; rfl
    · simp [h]
  unfold ckX ckE; rw [this]; exact ⟨rfl, rfl⟩
theorem ckX_ok {most : Int} {ts : List ByteArray} {t : ByteArray} (h : nmE most ts t = 0) : ckX most ts true t = nmX most ts t ∧ ckE most ts true t = 0 := by
  have : (true && decide (nmE most ts t = 0)) = true := by simp [h]
  unfold ckX ckE; rw [this]; exact ⟨rfl, rfl⟩
theorem nmE_X {most : Int} {ts : List ByteArray} {t : ByteArray} (h : nmE most ts t ≠ 0) : nmX most ts t = 0 := by
  unfold nmX; unfold nmE at h
  split at h
  · split at h
    · exact absurd rfl h
    · split at h
      · exact absurd rfl h
      · rename_i a b c; rw [if_pos a, if_neg b, if_neg c]
  · rename_i a; rw [if_neg a]

/-- The prefix test, as the reference makes it. -/
theorem pfx_ref (t h : ByteArray) : pfx t h = (decide (h.size ≤ t.size) && ((t.extract 0 h.size).toList == h.toList)) := by
  have e : ∀ a : ByteArray, a.toList = a.data.toList := fun ⟨⟨l⟩⟩ => ByteArray.toList_mk _
  rw [e, e, Lib.extract_eq]
  unfold pfx Lib.hasPrefix
  rw [Lib.size_eq, Lib.size_eq]
  simp only [Nat.sub_zero, List.drop_zero]
  rw [Bool.eq_iff_iff, Bool.and_eq_true, decide_eq_true_eq, beq_iff_eq, List.isPrefixOf_iff_prefix]
  constructor
  · rintro ⟨r, hr⟩
    rw [← hr]; simp
  · rintro ⟨_, hr⟩
    exact List.prefix_iff_eq_take.2 hr.symm
theorem trim_ext {t h : ByteArray} (hp : pfx t h = true) : (⟨(Lib.trimPrefix t.data.toList h.data.toList).toArray⟩ : ByteArray) = t.extract h.size t.size := by
  have hp' : Lib.hasPrefix t.data.toList h.data.toList = true := hp
  rw [Lib.extract_eq, Lib.trimPrefix, if_pos hp', Lib.size_eq, Lib.size_eq]
  congr 2
  rw [List.take_of_length_le]
  rw [List.length_drop]; exact Nat.le_refl _
end Go.Proofs.Ytcfibjfhmfdmkaa
