/- Plain mathematics of crafted terms: of unlike parts they are unlike, and a seal opens with its own key alone. No program is named. -/
import Derived.Test.YtcfibjfhmfdmkaaCplain
import Derived.Test.YtcfibjfhmfdmkaaBplain2
import Derived.Test.YtcfibjfhmfdmkaaFback
namespace Go.Proofs.Ytcfibjfhmfdmkaa
open Go

theorem ba_cancel {a s t : ByteArray} (h : a ++ s = a ++ t) : s = t := by
  have h1 := congrArg (fun b : ByteArray => b.data.toList) h
  simp only [data_app] at h1
  exact ByteArray.ext (Array.toList_inj.1 (List.append_cancel_left h1))
theorem numS_pf {x y : Int} {s t : ByteArray} (x0 : 0 ≤ x) (x1 : x ≤ 1073741823) (y0 : 0 ≤ y) (y1 : y ≤ 1073741823) (h : numS x ++ s = numS y ++ t) : x = y ∧ s = t := by
  have g1 := (get_at ⟨#[]⟩ s x x0 x1).2.1
  have g2 := (get_at ⟨#[]⟩ t y y0 y1).2.1
  rw [nil_ba] at g1 g2
  rw [h, g2] at g1
  subst g1
  exact ⟨rfl, ba_cancel h⟩
theorem tm_inj1 {c : ByteArray} {x y : Int} {s t : ByteArray} (x0 : 0 ≤ x) (x1 : x ≤ 1073741823) (y0 : 0 ≤ y) (y1 : y ≤ 1073741823) (h : tmK c (some x) s = tmK c (some y) t) : x = y ∧ s = t := by
  have h1 : c ++ (numS x ++ s) = c ++ (numS y ++ t) := by rw [← ba_assoc, ← ba_assoc]; exact h
  exact numS_pf x0 x1 y0 y1 (ba_cancel h1)
theorem tm_inj0 {c s t : ByteArray} (h : tmK c none s = tmK c none t) : s = t := ba_cancel h
/-- A term's first byte. -/
def fb (t : ByteArray) : Option UInt8 := t.data.toList.head?
theorem fb_tm (b : UInt8) (ko : Option Int) (s : ByteArray) : fb (tmK ⟨#[b]⟩ ko s) = some b := by
  unfold fb tmK
  rw [data_app]
  cases ko with
  | none => rfl
  | some k => unfold hdK; simp only [data_app]; rfl
theorem tm_kind {b d : UInt8} (h : b ≠ d) (ko ko' : Option Int) (s t : ByteArray) : tmK ⟨#[b]⟩ ko s ≠ tmK ⟨#[d]⟩ ko' t := by
  intro e
  have h1 := congrArg fb e
  rw [fb_tm, fb_tm] at h1
  exact h (Option.some.inj h1)
theorem pfx_app (a r : ByteArray) : pfx (a ++ r) a = true := by
  unfold pfx Lib.hasPrefix
  rw [data_app, List.isPrefixOf_iff_prefix]
  exact List.prefix_append _ _
theorem pfx_seal {x y : Int} {s : ByteArray} (x0 : 0 ≤ x) (x1 : x ≤ 1073741823) (y0 : 0 ≤ y) (y1 : y ≤ 1073741823) : pfx (tmK cS (some x) s) (cS ++ numS y) = decide (x = y) := by
  by_cases h : x = y
  · subst h
    rw [show tmK cS (some x) s = (cS ++ numS x) ++ s from rfl, pfx_app]; simp
  · rw [decide_eq_false h, Bool.eq_false_iff]
    intro e
    unfold pfx Lib.hasPrefix at e
    rw [List.isPrefixOf_iff_prefix] at e
    obtain ⟨r, hr⟩ := e
    refine h (tm_inj1 (c := cS) (s := s) (t := ⟨r.toArray⟩) x0 x1 y0 y1 ?_).1
    apply ByteArray.ext
    apply Array.toList_inj.1
    rw [← hr, show tmK cS (some y) ⟨r.toArray⟩ = (cS ++ numS y) ++ ⟨r.toArray⟩ from rfl, data_app (cS ++ numS y)]
theorem ext_app (a s : ByteArray) : (a ++ s).extract a.size (a ++ s).size = s := by
  rw [Lib.extract_eq]
  apply ByteArray.ext
  apply Array.toList_inj.1
  rw [data_app, ByteArray.size_append, show a.size + s.size - a.size = s.size by omega, Lib.size_eq, Lib.size_eq]
  simp
  exact List.take_of_length_le (by rw [← Lib.size_eq]; exact Nat.le_refl _)
theorem op_seal {ts : List ByteArray} {x y tag : Int} {s : ByteArray} (x0 : 0 ≤ x) (x1 : x ≤ 1073741823) (y0 : 0 ≤ y) (y1 : y ≤ 1073741823) (h1 : tmS ts tag = tmK cS (some x) s) (h2 : tmE ts tag = 0) :
    opB ts y tag = decide (x = y) ∧ opS ts y tag = (if x = y then s else ⟨#[]⟩) ∧ opE ts y tag = (if x = y then 0 else 301) := by
  have hb : opB ts y tag = decide (x = y) := by
    unfold opB
    rw [h1, h2, pfx_seal x0 x1 y0 y1, (okNum_iff y).2 ⟨y0, y1⟩]; simp
  refine ⟨hb, ?_, ?_⟩
  · unfold opS
    rw [hb]
    by_cases e : x = y
    · subst e
      rw [if_pos (by simp), if_pos rfl, h1, show tmK cS (some x) s = (cS ++ numS x) ++ s from rfl, ext_app]
    · rw [if_neg (by simp [e]), if_neg e]
  · unfold opE
    rw [hb]
    by_cases e : x = y
    · rw [if_pos (by simp [e]), if_pos e]
    · rw [if_neg (by simp [e]), if_neg e]

theorem tm_ok {c : ByteArray} (hc : c.size = 1) (ko : Option Int) {s : ByteArray} (h : s.size ≤ 506) : okT (tmK c ko s) = true := by
  obtain ⟨h1, h2⟩ := hdK_size hc ko
  rw [okT_iff, tmK_size]; omega
theorem ck_new {most : Int} {ts : List ByteArray} {t : ByteArray} (hk : okT t = true) (hn : t ∉ ts) (hl : (ts.length : Int) < most) : ckX most ts true t = ts.length ∧ ckE most ts true t = 0 ∧ ckT most ts true t = ts ++ [t] := by
  have hi := (isB_not _ _).2 hn
  have he : nmE most ts t = 0 := by unfold nmE; rw [if_pos hk, hi, if_neg (by decide), if_pos hl]
  obtain ⟨a, b⟩ := ckX_ok (most := most) (ts := ts) he
  refine ⟨a.trans ?_, b, ?_⟩
  · unfold nmX; rw [if_pos hk, hi, if_neg (by decide), if_pos hl]
  · show nmT most ts t = _
    unfold nmT; rw [if_pos hk, hi, if_neg (by decide), if_pos hl]
theorem ck_old {most : Int} {ts : List ByteArray} {t : ByteArray} (hk : okT t = true) (hn : t ∈ ts) : ckX most ts true t = idx ts t ∧ ckE most ts true t = 0 ∧ ckT most ts true t = ts := by
  have hi := (isB_iff _ _).2 hn
  have he : nmE most ts t = 0 := by unfold nmE; rw [if_pos hk, if_pos hi]
  obtain ⟨a, b⟩ := ckX_ok (most := most) (ts := ts) he
  refine ⟨a.trans ?_, b, ?_⟩
  · unfold nmX; rw [if_pos hk, if_pos hi]
  · show nmT most ts t = _
    unfold nmT; rw [if_pos hk, if_pos hi]
/-- What asking answers of a term that stands at i. -/
theorem ckI_at {ts : List ByteArray} {t : ByteArray} {i : Nat} (hn : ts.Nodup) (h : ts[i]? = some t) (tag : Int) : ckI ts true t tag = decide ((i : Int) = tag) := by
  have h1 := idx_at hn h
  have h2 : isB ts t = true := (isB_iff _ _).2 (List.mem_of_getElem? h)
  unfold ckI fnd
  rw [h2, if_pos rfl, h1]; rfl
theorem ckI_no {ts : List ByteArray} {t : ByteArray} (h : t ∉ ts) (ok : Bool) (tag : Int) : ckI ts ok t tag = false := by
  unfold ckI
  rw [(isB_not _ _).2 h]; simp
theorem nmX_bd (most : Int) (ts : List ByteArray) (t : ByteArray) : 0 ≤ nmX most ts t ∧ nmX most ts t ≤ ts.length := by
  unfold nmX
  split
  · split
    · rename_i h
      have := idx_lt ((isB_iff ts t).1 h)
      omega
    · split <;> omega
  · omega
end Go.Proofs.Ytcfibjfhmfdmkaa
