/- Plain mathematics of forged tickets: six forms, none of which opens. No program is named. -/
import Derived.Test.YtcakipojmkehgaaDoorTkz
namespace Go.Proofs.YtcakipojmkehgaaDoor
open Go

/-- The body that is sealed. -/
def fgB : Bd := ⟨1, 0, 0, 0, 2⟩
theorem fgB_may : fgB.may = true := by kernel_rfl
theorem fgB_size : fgB.enc.size = 7 := by kernel_rfl
/-- The six. -/
def fgL (NK NN bd tx : ByteArray) : List ByteArray := [⟨#[72]⟩ ++ bd, ⟨#[65]⟩ ++ bd, ⟨#[77]⟩ ++ NK ++ bd, ⟨#[83]⟩ ++ NN ++ bd, ⟨#[83]⟩ ++ NK ++ bd ++ ⟨#[0]⟩ ++ tx, ⟨#[83]⟩ ++ NK ++ bd.extract 1 7]
theorem pfx_kind {t : ByteArray} {K : Int} (h : fb t ≠ some 83) : pfx t (cS ++ numS K) = false := by
  rw [Bool.eq_false_iff]
  intro e
  unfold pfx Lib.hasPrefix at e
  rw [List.isPrefixOf_iff_prefix] at e
  obtain ⟨r, hr⟩ := e
  refine h ?_
  unfold fb
  rw [← hr, data_app]
  rfl
theorem fg_none {ts : List ByteArray} {e K x kk : Int} {f tx : ByteArray} (hk : ((idx ts (epK e) : Nat) : Int) = K) (k0 : 0 ≤ K) (k1 : K ≤ 1073741823) (q0 : 0 ≤ kk) (q1 : kk ≤ 1073741823) (hne : kk ≠ K) (hf : f ∈ fgL (numS K) (numS kk) fgB.enc tx) (h1 : tmS ts x = f) (h2 : tmE ts x = 0) : tkO ts e x = none := by
  have close1 : fb f ≠ some 83 → tkO ts e x = none := fun h => by
    unfold tkO
    rw [hk]
    rw [if_neg (fun c => by
      have h3 := c.2
      unfold opE opB at h3
      rw [h1, pfx_kind h, Bool.and_false] at h3
      exact absurd h3 (by decide))]
  simp only [fgL, List.mem_cons, List.not_mem_nil, or_false] at hf
  rcases hf with hf | hf | hf | hf | hf | hf
  · exact close1 (by rw [hf, show (⟨#[72]⟩ : ByteArray) ++ fgB.enc = tmK ⟨#[72]⟩ none fgB.enc from rfl, fb_tm]; decide)
  · exact close1 (by rw [hf, show (⟨#[65]⟩ : ByteArray) ++ fgB.enc = tmK ⟨#[65]⟩ none fgB.enc from rfl, fb_tm]; decide)
  · exact close1 (by rw [hf, show (⟨#[77]⟩ : ByteArray) ++ numS K ++ fgB.enc = tmK ⟨#[77]⟩ (some K) fgB.enc from rfl, fb_tm]; decide)
  · obtain ⟨a1, a2, a3⟩ := op_seal (ts := ts) (x := kk) (y := K) (tag := x) (s := fgB.enc) q0 q1 k0 k1 (by rw [h1, hf]; rfl) h2
    rw [if_neg hne] at a3
    unfold tkO
    rw [hk, if_neg (fun c => by rw [a3] at c; exact absurd c.2 (by decide))]
  · obtain ⟨a1, a2, a3⟩ := op_seal (ts := ts) (x := K) (y := K) (tag := x) (s := fgB.enc ++ (⟨#[0]⟩ ++ tx)) k0 k1 k0 k1 (by rw [h1, hf, ba_assoc, ba_assoc]; rfl) h2
    rw [if_pos rfl] at a2
    unfold tkO
    rw [hk, a2, tkG_more fgB_may (by rw [ByteArray.size_append]; show 0 < 1 + tx.size; omega)]
    split <;> rfl
  · obtain ⟨a1, a2, a3⟩ := op_seal (ts := ts) (x := K) (y := K) (tag := x) (s := fgB.enc.extract 1 7) k0 k1 k0 k1 (by rw [h1, hf]; rfl) h2
    rw [if_pos rfl] at a2
    unfold tkO
    rw [hk, a2, show tkG (fgB.enc.extract 1 7) = none by kernel_rfl]
    split <;> rfl
/-- What the book is while they are tried. -/
structure Fg (ts : List ByteArray) (e K tag : Int) (n : Nat) : Prop where
  tk : TkAt ts e tag fgB
  key : ((idx ts (epK e) : Nat) : Int) = K
  le : ts.length ≤ n
theorem Fg.name {ts : List ByteArray} {e K tag : Int} {n : Nat} (h : Fg ts e K tag n) (f : ByteArray) : Fg (nmT 99 ts f) e K tag (n + 1) := by
  have hl := h.le
  have hx : ∃ l, nmT 99 ts f = ts ++ l ∧ l.length ≤ 1 := by
    unfold nmT
    split
    · split
      · exact ⟨[], by simp, by simp⟩
      · split
        · exact ⟨[f], rfl, by simp⟩
        · exact ⟨[], by simp, by simp⟩
    · exact ⟨[], by simp, by simp⟩
  obtain ⟨l, h1, h2⟩ := hx
  exact ⟨by rw [h1]; exact h.tk.ext, by rw [h1, idx_ext h.tk.key]; exact h.key, by rw [h1, List.length_append]; omega⟩
theorem Fg.mono {ts : List ByteArray} {e K tag : Int} {n m : Nat} (h : Fg ts e K tag n) (hm : n ≤ m) : Fg ts e K tag m := ⟨h.tk, h.key, Nat.le_trans h.le hm⟩
theorem nm_at {most : Int} {ts : List ByteArray} {f : ByteArray} (h : nmE most ts f = 0) : tmS (nmT most ts f) (nmX most ts f) = f ∧ tmE (nmT most ts f) (nmX most ts f) = 0 := by
  unfold nmE at h
  unfold nmT nmX
  split at h
  · rename_i hk
    rw [if_pos hk, if_pos hk]
    split at h
    · rename_i hi
      rw [if_pos hi, if_pos hi]
      exact tmS_idx ((isB_iff _ _).1 hi)
    · rename_i hi
      rw [if_neg hi, if_neg hi]
      split at h
      · rename_i hl
        rw [if_pos hl, if_pos hl]
        have hn : f ∉ ts := fun c => hi ((isB_iff _ _).2 c)
        have := tmS_idx (ts := ts ++ [f]) (t := f) (by simp)
        rw [idx_snoc_new hn] at this
        exact this
      · cases h
  · cases h
/-- No forged one opens. -/
theorem Fg.no {ts : List ByteArray} {e K tag kk : Int} {n : Nat} {f tx : ByteArray} (h : Fg ts e K tag n) (hn : n ≤ 100) (e0 : 0 ≤ e) (e1 : e ≤ 7) (k0 : 0 ≤ kk) (k1 : kk ≤ 1073741823) (hne : kk ≠ K) (hf : f ∈ fgL (numS K) (numS kk) fgB.enc tx) : nmE 99 ts f = 0 → tgE (nmT 99 ts f) e 0 (nmX 99 ts f) = 1501 := by
  intro h0
  obtain ⟨a1, a2⟩ := nm_at h0
  have h2 := h.name f
  have hi := idx_lt h2.tk.key
  have hl := h2.le
  have hk := h2.key
  have hO := fg_none hk (by omega) (by omega) k0 k1 hne hf a1 a2
  have hF : tgF (nmT 99 ts f) e 0 (nmX 99 ts f) = none := by
    unfold tgF
    rw [show tkM e 0 = 0 by unfold tkM; omega]
    show (if (tkO (nmT 99 ts f) e (nmX 99 ts f)).isSome then _ else _) = none
    rw [hO]; rfl
  unfold tgE
  rw [(tgB_iff e 0).2 ⟨e0, by omega, by omega, by omega⟩, hF]; rfl
end Go.Proofs.YtcakipojmkehgaaDoor
