/- Plain mathematics of a superblock's sector: what is written, and that just it is read; the greater of two. No program is named. -/
import Derived.Test.YtiebpjkppjollaaDoorBpm
namespace Go.Proofs.YtiebpjkppjollaaDoor
open Go

def markS : ByteArray := ⟨#[115, 117, 112, 101, 114]⟩
def suMay (b : Int) : Bool := decide (1 ≤ b) && decide (b ≤ 1023)
theorem suMay_iff (b : Int) : suMay b = true ↔ 1 ≤ b ∧ b ≤ 1023 := by simp [suMay]
theorem suMay_num {b : Int} (h : suMay b = true) : okNum b = true := by
  obtain ⟨h1, h2⟩ := (suMay_iff b).1 h
  exact (okNum_iff _).2 ⟨by omega, by omega⟩
/-- The term of its hash. -/
def suTm (b : Int) : ByteArray := tmK cH none (markS ++ numS b)
def suSec (b own : Int) : ByteArray := padS (numS b ++ numS own)
theorem suLine_small (b own : Int) : (numS b ++ numS own).size ≤ 10 := by
  rw [ByteArray.size_append]
  have := numS_size5 b
  have := numS_size5 own
  omega
theorem suSec_size (b own : Int) : (suSec b own).size = 64 := padS_size (Nat.le_trans (suLine_small b own) (by decide))
theorem suTm_ok (b : Int) : okT (suTm b) = true := tm_ok (by rfl) none (by
  rw [ByteArray.size_append, show markS.size = 5 from rfl]
  have := numS_size5 b
  omega)
theorem suTm_inj {b c : Int} (hb : suMay b = true) (hc : suMay c = true) (h : suTm b = suTm c) : b = c := by
  have h1 : numS b ++ ⟨#[]⟩ = numS c ++ (⟨#[]⟩ : ByteArray) := by rw [ba_nil, ba_nil]; exact ba_cancel (tm_inj0 h)
  obtain ⟨x0, x1⟩ := (okNum_iff _).1 (suMay_num hb)
  obtain ⟨y0, y1⟩ := (okNum_iff _).1 (suMay_num hc)
  exact (numS_pf x0 x1 y0 y1 h1).1
/-- The boot and the number that stand in s, if it is such a sector. -/
def suMk (s : ByteArray) : List Fld × Int → Option (Int × Int)
  | ([.n a, .n own], e) => if decide (s.size = 64) && suMay a && decide (s.extract e.toNat 64 = zerN (64 - e.toNat)) then some (a, own) else none
  | _ => none
def suRd (s : ByteArray) : Option (Int × Int) := (rdL s 0 [false, false]).bind (suMk s)
theorem suRd_back (b own : Int) (hb : suMay b = true) (ho : okNum own = true) : suRd (suSec b own) = some (b, own) := by
  have hl := suLine_small b own
  have hfl : ∀ f ∈ [Fld.n b, Fld.n own], f.ok = true := by
    intro f hf
    simp at hf
    rcases hf with rfl | rfl
    · exact suMay_num hb
    · exact ho
  have hat := rdL_at [Fld.n b, Fld.n own] hfl ⟨#[]⟩ (zerN (64 - (numS b ++ numS own).size))
  have he : encL [Fld.n b, Fld.n own] = numS b ++ numS own := by
    simp only [encL]
    rw [ba_nil]
    rfl
  rw [he, nil_ba] at hat
  unfold suRd
  rw [show suSec b own = (numS b ++ numS own) ++ zerN (64 - (numS b ++ numS own).size) from rfl]
  rw [show ((⟨#[]⟩ : ByteArray).size : Int) = 0 from rfl, show [Fld.n b, Fld.n own].map Fld.isT = [false, false] from rfl] at hat
  rw [hat]
  show suMk _ ([.n b, .n own], _) = _
  simp only [suMk]
  have hz := ext_pad (numS b ++ numS own) (by omega)
  have hs := suSec_size b own
  unfold suSec at hs
  have e0 : (((⟨#[]⟩ : ByteArray).size + (numS b ++ numS own).size : Nat) : Int).toNat = (numS b ++ numS own).size := by rw [Int.toNat_natCast, show (⟨#[]⟩ : ByteArray).size = 0 from rfl, Nat.zero_add]
  rw [show (numS b ++ numS own) ++ zerN (64 - (numS b ++ numS own).size) = padS (numS b ++ numS own) from rfl]
  simp only [e0, hs, hz, hb, decide_true, Bool.and_true, if_true]
theorem suRd_form {s : ByteArray} {b own : Int} (h : suRd s = some (b, own)) : suMay b = true ∧ okNum own = true ∧ s = suSec b own := by
  unfold suRd at h
  cases hr : rdL s 0 [false, false] with
  | none => rw [hr] at h; cases h
  | some x =>
  rw [hr] at h
  obtain ⟨fs, c⟩ := x
  obtain ⟨ht, hok, e, rfl, _, he, hx⟩ := rdL_back s _ 0 fs c (Nat.zero_le _) hr
  match fs, ht with
  | [.n a, .n o], _ =>
    have h' : suMk s ([.n a, .n o], (e : Int)) = some (b, own) := h
    simp only [suMk] at h'
    split at h'
    · rename_i hc
      simp only [Bool.and_eq_true, decide_eq_true_eq, Int.toNat_natCast] at hc
      obtain ⟨⟨c1, c2⟩, c4⟩ := hc
      simp only [Option.some.injEq, Prod.mk.injEq] at h'
      obtain ⟨rfl, rfl⟩ := h'
      refine ⟨c2, hok (.n o) (by simp), ?_⟩
      have hb : numS a ++ numS o = s.extract 0 e := by
        rw [hx]
        simp only [encL]
        rw [ba_nil]
        rfl
      have hsz : (s.extract 0 e).size = e := by rw [ByteArray.size_extract]; omega
      unfold suSec padS
      rw [hb, hsz, ← c4, ext_cat s (Nat.zero_le _) (by omega), ← c1, ext_all]
    · cases h'
/-- What Get finds: the boot, its number. -/
def suFind (ts : List ByteArray) (s : ByteArray) : Option (Int × Int) := (suRd s).bind fun x => if ckI ts true (suTm x.1) x.2 then some x else none
theorem suFind_iff (ts : List ByteArray) (s : ByteArray) (b own : Int) : suFind ts s = some (b, own) ↔ suMay b = true ∧ okNum own = true ∧ s = suSec b own ∧ ckI ts true (suTm b) own = true := by
  unfold suFind
  constructor
  · intro h
    cases hr : suRd s with
    | none => rw [hr] at h; cases h
    | some x =>
      rw [hr] at h
      have h' : (if ckI ts true (suTm x.1) x.2 then some x else none) = some (b, own) := h
      split at h'
      · rename_i hc
        cases h'
        obtain ⟨a, c, d⟩ := suRd_form hr
        exact ⟨a, c, d, hc⟩
      · cases h'
  · rintro ⟨a, c, rfl, d⟩
    rw [suRd_back b own a c]
    show (if ckI ts true (suTm b) own then some (b, own) else none) = _
    rw [if_pos d]
/-- Put: whether it fails, the book's terms behind, the sector. -/
def suOk (most : Int) (ts : List ByteArray) (b : Int) : Bool := suMay b && decide (nmE most ts (suTm b) = 0)
def suE (most : Int) (ts : List ByteArray) (b : Int) : Int := if suOk most ts b then 0 else 1000
def suT (most : Int) (ts : List ByteArray) (b : Int) : List ByteArray := if suMay b then nmT most ts (suTm b) else ts
def suS (most : Int) (ts : List ByteArray) (b : Int) : ByteArray := if suOk most ts b then suSec b (nmX most ts (suTm b)) else ⟨#[]⟩
/-- Get: the boot, whether it fails. -/
def sgX (ts : List ByteArray) (s : ByteArray) : Int := ((suFind ts s).getD (0, 0)).1
def sgE (ts : List ByteArray) (s : ByteArray) : Int := if (suFind ts s).isSome then 0 else 1000
theorem sg_no {ts : List ByteArray} {s : ByteArray} (h : suFind ts s = none) : sgX ts s = 0 ∧ sgE ts s = 1000 := by unfold sgX sgE; rw [h]; exact ⟨rfl, rfl⟩
theorem sg_yes {ts : List ByteArray} {s : ByteArray} {x : Int × Int} (h : suFind ts s = some x) : sgX ts s = x.1 ∧ sgE ts s = 0 := by unfold sgX sgE; rw [h]; exact ⟨rfl, rfl⟩
/-- Pick: the boot, the place that is next, whether it fails. -/
def pkX (ts : List ByteArray) (s t : ByteArray) : Int := if sgE ts s ≠ 0 ∧ sgE ts t ≠ 0 then 0 else if sgE ts t ≠ 0 ∨ (sgE ts s = 0 ∧ sgX ts t ≤ sgX ts s) then sgX ts s else sgX ts t
def pkP (ts : List ByteArray) (s t : ByteArray) : Int := if sgE ts s ≠ 0 ∧ sgE ts t ≠ 0 then 0 else if sgE ts t ≠ 0 ∨ (sgE ts s = 0 ∧ sgX ts t ≤ sgX ts s) then 1 else 0
def pkE (ts : List ByteArray) (s t : ByteArray) : Int := if sgE ts s ≠ 0 ∧ sgE ts t ≠ 0 then 1001 else 0
/-- What Put made stands in the book. -/
theorem su_in {most : Int} {ts : List ByteArray} {b : Int} (h : suE most ts b = 0) : suMay b = true ∧ suTm b ∈ suT most ts b ∧ suS most ts b = suSec b (idx (suT most ts b) (suTm b) : Nat) := by
  unfold suE at h
  split at h
  · rename_i hk
    have hk' := hk
    unfold suOk at hk'
    simp only [Bool.and_eq_true, decide_eq_true_eq] at hk'
    obtain ⟨hm, he⟩ := hk'
    unfold suT suS
    rw [hk, hm]
    simp only [if_true]
    unfold nmE at he
    unfold nmT nmX
    rw [suTm_ok b] at he ⊢
    simp only [if_true] at he ⊢
    cases hb : isB ts (suTm b) with
    | true => simp only [if_true]; exact ⟨trivial, (isB_iff _ _).1 hb, trivial⟩
    | false =>
      rw [hb] at he
      simp only [Bool.false_eq_true, if_false] at he ⊢
      by_cases hl : (ts.length : Int) < most
      · rw [if_pos hl, if_pos hl]
        exact ⟨trivial, by simp, by rw [idx_snoc_new ((isB_not _ _).1 hb)]⟩
      · rw [if_neg hl] at he; cases he
  · cases h
theorem su_no {most : Int} {ts : List ByteArray} {b : Int} (h : suE most ts b ≠ 0) : suE most ts b = 1000 ∧ suS most ts b = ⟨#[]⟩ := by
  unfold suE at h ⊢
  unfold suS
  split at h
  · exact absurd rfl h
  · rename_i hk
    rw [if_neg hk, if_neg hk]
    exact ⟨rfl, rfl⟩
theorem suT_keep {most : Int} {ts : List ByteArray} (b : Int) {t : ByteArray} (h : t ∈ ts) : t ∈ suT most ts b ∧ idx (suT most ts b) t = idx ts t := by
  unfold suT
  split
  · unfold nmT
    split
    · split
      · exact ⟨h, rfl⟩
      · split
        · exact ⟨by simp [h], idx_snoc_other h⟩
        · exact ⟨h, rfl⟩
    · exact ⟨h, rfl⟩
  · exact ⟨h, rfl⟩
theorem suT_mem {most : Int} {ts : List ByteArray} {b : Int} {t : ByteArray} (h : t ∈ suT most ts b) : t ∈ ts ∨ t = suTm b := by
  unfold suT at h
  split at h
  · unfold nmT at h
    split at h
    · split at h
      · exact .inl h
      · split at h
        · simpa using h
        · exact .inl h
    · exact .inl h
  · exact .inl h
theorem suT_len {most : Int} {ts : List ByteArray} (b : Int) : (suT most ts b).length ≤ ts.length + 1 := by
  unfold suT
  split
  · unfold nmT
    split
    · split
      · omega
      · split
        · simp
        · omega
    · omega
  · omega
end Go.Proofs.YtiebpjkppjollaaDoor
