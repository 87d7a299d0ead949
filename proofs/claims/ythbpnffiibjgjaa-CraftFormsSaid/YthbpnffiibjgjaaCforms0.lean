/- What CraftForms' calls answer: keys and texts that are none, and a full book. No condition. -/
import Derived.Test.YthbpnffiibjgjaaClaw
import Derived.Test.YthbpnffiibjgjaaCplain2
import Derived.Test.YthbpnffiibjgjaaFplain3
namespace Go.Proofs.Ythbpnffiibjgjaa
open Go Go.RowKit Go.Maps

theorem ck_full {a t : ByteArray} {ok : Bool} (h : ok = false ∨ t ≠ a) : ckX 1 [a] ok t = 0 ∧ ckE 1 [a] ok t = 300 ∧ ckT 1 [a] ok t = [a] := by
  rcases h with h | h
  · subst h
    obtain ⟨k1, k2⟩ := ckX_bad (most := 1) (ts := [a]) (ok := false) (t := t) (.inl rfl)
    exact ⟨k1, k2, rfl⟩
  · have hi : isB [a] t = false := (isB_not _ _).2 (by simpa using h)
    have he : nmE 1 [a] t ≠ 0 := by
      unfold nmE; rw [hi]
      by_cases hk : okT t = true
      · rw [if_pos hk, if_neg (by decide), if_neg (by simp)]; decide
      · rw [if_neg hk]; decide
    obtain ⟨k1, k2⟩ := ckX_bad (most := 1) (ts := [a]) (ok := ok) (t := t) (.inr he)
    refine ⟨k1, k2, ?_⟩
    unfold ckT
    split
    · unfold nmT; rw [hi]
      split
      · rw [if_neg (by decide), if_neg (by simp)]
      · rfl
    · rfl
def only : ByteArray := ⟨#[65, 111, 110, 108, 121]⟩
def zeros : ByteArray := ⟨(bytesOf (List.replicate 512 0)).toArray⟩
theorem zeros_size : zeros.size = 512 := by unfold zeros; rw [Lib.size_eq]; simp only [bytesOf, List.length_map, List.length_replicate]
theorem only_eq : tmK cA none ⟨#[111, 110, 108, 121]⟩ = only := by kernel_rfl
theorem only_ne {b : UInt8} (h : b ≠ 65) (ko : Option Int) (s : ByteArray) : tmK ⟨#[b]⟩ ko s ≠ only := by
  rw [← only_eq]; exact tm_kind h _ _ _ _
theorem madeStr' (n : Nat) : (madeCells #[.int .u8 0] n).toList = (List.replicate n 0).map (Value.int .u8) := by
  rw [toList_madeCells_one, List.map_replicate]

abbrev F1 (p : Nat) : Ass := bookA p 1 [only]
theorem bad300 {p : Nat} {f : FuncId} {args : Array Value} {ok : Bool} {t : ByteArray} (h : Does Try.prog (bookA p 1 [only]) f args (.returned (.tuple #[.int .i64 (ckX 1 [only] ok t), .int .i64 (ckE 1 [only] ok t)])) (bookA p 1 (ckT 1 [only] ok t))) (hb : ok = false ∨ t ≠ only) :
    Does Try.prog (bookA p 1 [only]) f args (.returned (.tuple #[.int .i64 0, .int .i64 300])) (bookA p 1 [only]) := by
  obtain ⟨e1, e2, e3⟩ := ck_full hb
  rwa [e1, e2, e3] at h
theorem u0 (p : Nat) : Does Try.prog (bookA p 1 []) 18 #[.pointer (some ⟨p, 0, none⟩), .string ⟨#[111, 110, 108, 121]⟩] (.returned (.tuple #[.int .i64 0, .int .i64 0])) (bookA p 1 [only]) :=
  (datom p 1 [] ⟨#[111, 110, 108, 121]⟩ (by decide)).to (by kernel_rfl) (congrArg (bookA p 1) (by kernel_rfl))
theorem u1 (p : Nat) : Does Try.prog (bookA p 1 [only]) 18 #[.pointer (some ⟨p, 0, none⟩), .string ⟨#[111, 110, 108, 121]⟩] (.returned (.tuple #[.int .i64 0, .int .i64 0])) (bookA p 1 [only]) :=
  (datom p 1 [only] ⟨#[111, 110, 108, 121]⟩ (by decide)).to (by kernel_rfl) (congrArg (bookA p 1) (by kernel_rfl))
theorem u2 (p : Nat) : Does Try.prog (bookA p 1 [only]) 12 #[.pointer (some ⟨p, 0, none⟩), .int .i64 0, .int .i64 0] (.returned (.tuple #[.string ⟨#[]⟩, .int .i64 301])) (bookA p 1 [only]) :=
  (dopen p 1 [only] 0 0 (by decide) (by decide)).to (by kernel_rfl) rfl
theorem op_bad {ts : List ByteArray} {key tag : Int} (h : okNum key = false ∨ tmE ts tag ≠ 0) : opS ts key tag = ⟨#[]⟩ ∧ opE ts key tag = 301 := by
  have hb : opB ts key tag = false := by
    unfold opB
    rcases h with h | h
    · rw [h]; rfl
    · rw [decide_eq_false h]; simp
  unfold opS opE; rw [hb]; exact ⟨rfl, rfl⟩
theorem okNum_no {k : Int} (h : k < 0 ∨ 1073741823 < k) : okNum k = false := by
  rw [Bool.eq_false_iff, Ne, okNum_iff]; omega
theorem u3 (p : Nat) (d : Int) (h1 : 1 ≤ d) (h2 : d ≤ 1024) : Does Try.prog (bookA p 1 [only]) 12 #[.pointer (some ⟨p, 0, none⟩), .int .i64 (-d), .int .i64 0] (.returned (.tuple #[.string ⟨#[]⟩, .int .i64 301])) (bookA p 1 [only]) := by
  obtain ⟨e1, e2⟩ := op_bad (ts := [only]) (key := -d) (tag := 0) (.inl (okNum_no (by omega)))
  exact (dopen p 1 [only] (-d) 0 (by omega) (by omega)).to (by rw [e1, e2]) rfl
theorem u4 (p : Nat) (d : Int) (h1 : 1 ≤ d) (_h2 : d ≤ 1024) : Does Try.prog (bookA p 1 [only]) 12 #[.pointer (some ⟨p, 0, none⟩), .int .i64 0, .int .i64 d] (.returned (.tuple #[.string ⟨#[]⟩, .int .i64 301])) (bookA p 1 [only]) := by
  obtain ⟨e1, e2⟩ := op_bad (ts := [only]) (key := 0) (tag := d) (.inr (by unfold tmE; rw [if_neg (by simp; omega)]; decide))
  exact (dopen p 1 [only] 0 d (by omega) (by omega)).to (by rw [e1, e2]) rfl
theorem u5 (p : Nat) (d : Int) (h1 : 1 ≤ d) (h2 : d ≤ 1024) : Does Try.prog (bookA p 1 [only]) 11 #[.pointer (some ⟨p, 0, none⟩), .int .i64 (-d), .string ⟨#[120]⟩, .int .i64 0] (.returned (.bool false)) (bookA p 1 [only]) :=
  (dismac p 1 [only] (-d) ⟨#[120]⟩ 0 (by decide) (by omega) (by omega)).to (by rw [show okK (some (-d)) = false from okNum_no (by omega)]; rfl) rfl
theorem u6 (p : Nat) : Does Try.prog (bookA p 1 [only]) 27 #[.pointer (some ⟨p, 0, none⟩)] (.returned (.int .i64 1)) (bookA p 1 [only]) := dlen p 1 [only]
theorem u7 (w : World) : Calls Try.prog 11 #[.pointer none, .int .i64 0, .string ⟨#[120]⟩, .int .i64 0] w fun e w' => e = .returned (.bool false) ∧ Below w.heap.size w w' :=
  cismac_nil 0 ⟨#[120]⟩ 0 w (by decide) (by decide) (by decide)
theorem long_ne : tmK cA none zeros ≠ only := by
  intro c
  have := congrArg ByteArray.size c
  rw [tmK_size, zeros_size] at this
  have h1 : (hdK cA none).size = 1 := rfl
  have h2 : only.size = 5 := rfl
  omega
theorem v0 (p : Nat) : Does Try.prog (bookA p 1 [only]) 18 #[.pointer (some ⟨p, 0, none⟩), .string ⟨#[109, 111, 114, 101]⟩] (.returned (.tuple #[.int .i64 0, .int .i64 300])) (bookA p 1 [only]) :=
  bad300 (datom p 1 [only] ⟨#[109, 111, 114, 101]⟩ (by decide)) (.inr (by decide))
theorem v1 (p : Nat) : Does Try.prog (bookA p 1 [only]) 20 #[.pointer (some ⟨p, 0, none⟩), .string ⟨#[111, 110, 108, 121]⟩] (.returned (.tuple #[.int .i64 0, .int .i64 300])) (bookA p 1 [only]) :=
  bad300 (dhash p 1 [only] ⟨#[111, 110, 108, 121]⟩ (by decide)) (.inr (only_ne (by decide) _ _))
theorem v2 (p : Nat) (d : Int) (h1 : 1 ≤ d) (h2 : d ≤ 1024) : Does Try.prog (bookA p 1 [only]) 22 #[.pointer (some ⟨p, 0, none⟩), .int .i64 (-d), .string ⟨#[120]⟩] (.returned (.tuple #[.int .i64 0, .int .i64 300])) (bookA p 1 [only]) :=
  bad300 (dmac p 1 [only] (-d) ⟨#[120]⟩ (by decide) (by omega) (by omega)) (.inl (okNum_no (by omega)))
theorem v3 (p : Nat) (d : Int) (h1 : 1 ≤ d) (h2 : d ≤ 1024) : Does Try.prog (bookA p 1 [only]) 24 #[.pointer (some ⟨p, 0, none⟩), .int .i64 (1073741823 + d), .string ⟨#[120]⟩] (.returned (.tuple #[.int .i64 0, .int .i64 300])) (bookA p 1 [only]) :=
  bad300 (dseal p 1 [only] (1073741823 + d) ⟨#[120]⟩ (by decide) (by omega) (by omega)) (.inl (okNum_no (by omega)))
theorem v4 (p : Nat) : Does Try.prog (bookA p 1 [only]) 18 #[.pointer (some ⟨p, 0, none⟩), .string zeros] (.returned (.tuple #[.int .i64 0, .int .i64 300])) (bookA p 1 [only]) :=
  bad300 (datom p 1 [only] zeros (by rw [zeros_size]; omega)) (.inr long_ne)
theorem v5 (p : Nat) : Does Try.prog (bookA p 1 [only]) 22 #[.pointer (some ⟨p, 0, none⟩), .int .i64 1, .string zeros] (.returned (.tuple #[.int .i64 0, .int .i64 300])) (bookA p 1 [only]) :=
  bad300 (dmac p 1 [only] 1 zeros (by rw [zeros_size]; omega) (by omega) (by omega)) (.inr (only_ne (by decide) _ _))
theorem v6 (p : Nat) : Does Try.prog (bookA p 1 [only]) 20 #[.pointer (some ⟨p, 0, none⟩), .string zeros] (.returned (.tuple #[.int .i64 0, .int .i64 300])) (bookA p 1 [only]) :=
  bad300 (dhash p 1 [only] zeros (by rw [zeros_size]; omega)) (.inr (only_ne (by decide) _ _))
theorem v7 (p : Nat) : Does Try.prog (bookA p 1 [only]) 24 #[.pointer (some ⟨p, 0, none⟩), .int .i64 0, .string ⟨#[102, 117, 108, 108]⟩] (.returned (.tuple #[.int .i64 0, .int .i64 300])) (bookA p 1 [only]) :=
  bad300 (dseal p 1 [only] 0 ⟨#[102, 117, 108, 108]⟩ (by decide) (by omega) (by omega)) (.inr (only_ne (by decide) _ _))
theorem v8 (p : Nat) : Does Try.prog (bookA p 1 [only]) 22 #[.pointer (some ⟨p, 0, none⟩), .int .i64 0, .string ⟨#[102, 117, 108, 108]⟩] (.returned (.tuple #[.int .i64 0, .int .i64 300])) (bookA p 1 [only]) :=
  bad300 (dmac p 1 [only] 0 ⟨#[102, 117, 108, 108]⟩ (by decide) (by omega) (by omega)) (.inr (only_ne (by decide) _ _))
end Go.Proofs.Ythbpnffiibjgjaa
