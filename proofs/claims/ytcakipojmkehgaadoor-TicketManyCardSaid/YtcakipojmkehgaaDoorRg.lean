/- Plain mathematics of the keys of epochs: an epoch's term, what naming it answers, which epochs are live. No program is named. -/
import Derived.Test.YtcakipojmkehgaaDoorBpm
namespace Go.Proofs.YtcakipojmkehgaaDoor
open Go

def epW : ByteArray := ⟨#[101, 112, 111, 99, 104]⟩
/-- What an epoch's key is of. -/
def epS (k : Int) : ByteArray := epW ++ numS k
def epK (k : Int) : ByteArray := tmK cA none (epS k)
theorem epS_size (k : Int) : (epS k).size ≤ 10 := by
  have := numS_size5 k
  unfold epS
  rw [ByteArray.size_append, show epW.size = 5 from rfl]; omega
theorem epK_ok (k : Int) : okT (epK k) = true := tm_ok rfl _ (by have := epS_size k; omega)
theorem rg_num_inj {x y : Int} (x0 : 0 ≤ x) (x1 : x ≤ 1073741823) (y0 : 0 ≤ y) (y1 : y ≤ 1073741823) (h : numS x = numS y) : x = y :=
  (numS_pf (s := ⟨#[]⟩) (t := ⟨#[]⟩) x0 x1 y0 y1 (by rw [h])).1
theorem epK_inj {i j : Int} (i0 : 0 ≤ i) (i1 : i ≤ 1073741823) (j0 : 0 ≤ j) (j1 : j ≤ 1073741823) (h : epK i = epK j) : i = j :=
  rg_num_inj i0 i1 j0 j1 (ba_cancel (tm_inj0 h))
/-- What Key answers, and leaves. -/
def rgE (most : Int) (ts : List ByteArray) (k : Int) : Int := if okNum k && decide (ckE most ts true (epK k) = 0) then 0 else 1400
def rgX (most : Int) (ts : List ByteArray) (k : Int) : Int := if okNum k then ckX most ts true (epK k) else 0
def rgT (most : Int) (ts : List ByteArray) (k : Int) : List ByteArray := if okNum k then ckT most ts true (epK k) else ts
theorem rg_bad {most : Int} {ts : List ByteArray} {k : Int} (h : okNum k = false) : rgE most ts k = 1400 ∧ rgX most ts k = 0 ∧ rgT most ts k = ts := by
  unfold rgE rgX rgT; rw [h]; exact ⟨rfl, rfl, rfl⟩
theorem rg_ok {most : Int} {ts : List ByteArray} {k : Int} (h : okNum k = true) (h0 : ckE most ts true (epK k) = 0) : rgE most ts k = 0 ∧ rgX most ts k = ckX most ts true (epK k) ∧ rgT most ts k = ckT most ts true (epK k) := by
  unfold rgE rgX rgT; rw [h, h0]; exact ⟨rfl, rfl, rfl⟩
theorem rg_ckX_ne {most : Int} {ts : List ByteArray} {ok : Bool} {t : ByteArray} (h : ckE most ts ok t ≠ 0) : ckX most ts ok t = 0 ∧ ckE most ts ok t = 300 := by
  unfold ckE at h ⊢
  unfold ckX
  split at h
  · exact absurd rfl h
  · rename_i c; rw [if_neg c, if_neg c]; exact ⟨rfl, rfl⟩
theorem rg_no {most : Int} {ts : List ByteArray} {k : Int} (h : okNum k = true) (h0 : ckE most ts true (epK k) ≠ 0) : rgE most ts k = 1400 ∧ rgX most ts k = 0 ∧ rgT most ts k = ckT most ts true (epK k) := by
  refine ⟨?_, ?_, ?_⟩
  · unfold rgE; rw [h, decide_eq_false h0]; rfl
  · unfold rgX; rw [if_pos h]; exact (rg_ckX_ne h0).1
  · unfold rgT; rw [if_pos h]
/-- Naming an epoch's key where there is room, and where it is named. -/
theorem rg_new {most : Int} {ts : List ByteArray} {k : Int} (k0 : 0 ≤ k) (k1 : k ≤ 1073741823) (hn : epK k ∉ ts) (hr : (ts.length : Int) < most) : rgE most ts k = 0 ∧ rgX most ts k = ts.length ∧ rgT most ts k = ts ++ [epK k] := by
  obtain ⟨e1, e2, e3⟩ := ck_new (most := most) (epK_ok k) hn hr
  obtain ⟨g1, g2, g3⟩ := rg_ok (most := most) (ts := ts) ((okNum_iff k).2 ⟨k0, k1⟩) e2
  exact ⟨g1, g2.trans e1, g3.trans e3⟩
theorem rg_old {most : Int} {ts : List ByteArray} {k : Int} (k0 : 0 ≤ k) (k1 : k ≤ 1073741823) (hn : epK k ∈ ts) : rgE most ts k = 0 ∧ rgX most ts k = idx ts (epK k) ∧ rgT most ts k = ts := by
  obtain ⟨e1, e2, e3⟩ := ck_old (most := most) (epK_ok k) hn
  obtain ⟨g1, g2, g3⟩ := rg_ok (most := most) (ts := ts) ((okNum_iff k).2 ⟨k0, k1⟩) e2
  exact ⟨g1, g2.trans e1, g3.trans e3⟩
/-- Is an epoch live? -/
def rgL (e n k : Int) : Bool := okNum e && okNum n && okNum k && decide (e ≤ n) && decide (n - e ≤ k)
end Go.Proofs.YtcakipojmkehgaaDoor
