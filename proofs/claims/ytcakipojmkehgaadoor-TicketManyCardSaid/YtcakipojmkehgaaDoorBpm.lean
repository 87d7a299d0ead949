/- Put together: Bplain, Cplain, Bplain2, Fback, Ftxt, Fmt, Codec, Cplain2. Conditions: each theorem's own. -/
import Derived.Maps.OwnSet
import Derived.Test.YtcakipojmkehgaaDoorBfp
import Derived.Lib.Strings
import Derived.Test.YtcakipojmkehgaaDoorBfr
namespace Go.Proofs.YtcakipojmkehgaaDoor
open Go Go.Maps

def tlit (t : ByteArray) : Lit := .string t.data.toList
theorem tlit_inj {a b : ByteArray} (h : tlit a = tlit b) : a = b := by
  injection h with h
  exact ByteArray.ext (Array.toList_inj.1 h)
theorem tlit_key (t : ByteArray) : WideAt.IsKeyLit (tlit t) := trivial
/-- May it be a term? -/
def okT (t : ByteArray) : Bool := decide (1 ≤ t.size) && decide (t.size ≤ 512)
theorem okT_iff (t : ByteArray) : okT t = true ↔ 1 ≤ t.size ∧ t.size ≤ 512 := by simp [okT]
/-- Is it there? -/
def isB (ts : List ByteArray) (t : ByteArray) : Bool := ts.any fun a => decide (a = t)
theorem isB_iff (ts : List ByteArray) (t : ByteArray) : isB ts t = true ↔ t ∈ ts := by simp [isB]
theorem isB_not (ts : List ByteArray) (t : ByteArray) : isB ts t = false ↔ t ∉ ts := by rw [← isB_iff]; simp
/-- The first place of a term. -/
def idx : List ByteArray → ByteArray → Nat
  | [], _ => 0
  | a :: l, t => if a = t then 0 else idx l t + 1
/-- What Find answers. -/
def fnd (ts : List ByteArray) (t : ByteArray) : Int := if isB ts t then ((idx ts t : Nat) : Int) else 0
/-- What Name answers, and what it leaves. -/
def nmX (most : Int) (ts : List ByteArray) (t : ByteArray) : Int := if okT t then if isB ts t then ((idx ts t : Nat) : Int) else if (ts.length : Int) < most then ((ts.length : Nat) : Int) else 0 else 0
def nmE (most : Int) (ts : List ByteArray) (t : ByteArray) : Int := if okT t then if isB ts t then 0 else if (ts.length : Int) < most then 0 else 201 else 200
def nmT (most : Int) (ts : List ByteArray) (t : ByteArray) : List ByteArray := if okT t then if isB ts t then ts else if (ts.length : Int) < most then ts ++ [t] else ts else ts
/-- What Term answers. -/
def tmS (ts : List ByteArray) (n : Int) : ByteArray := if 0 ≤ n ∧ n < ts.length then ts.getD n.toNat ⟨#[]⟩ else ⟨#[]⟩
def tmE (ts : List ByteArray) (n : Int) : Int := if 0 ≤ n ∧ n < ts.length then 0 else 202

theorem idx_snoc_new {ts : List ByteArray} {t : ByteArray} (h : t ∉ ts) : idx (ts ++ [t]) t = ts.length := by
  induction ts with
  | nil => simp [idx]
  | cons a l ih =>
    have h1 : a ≠ t := fun e => h (by simp [e])
    have h2 : t ∉ l := fun e => h (by simp [e])
    simp [idx, h1, ih h2]
theorem idx_snoc_other {ts : List ByteArray} {t u : ByteArray} (h : u ∈ ts) : idx (ts ++ [t]) u = idx ts u := by
  induction ts with
  | nil => cases h
  | cons a l ih =>
    by_cases h1 : a = u
    · simp [idx, h1]
    · have h2 : u ∈ l := by
        rcases List.mem_cons.1 h with e | e
        · exact absurd e.symm h1
        · exact e
      simp [idx, h1, ih h2]
theorem idx_get {ts : List ByteArray} {t : ByteArray} (h : t ∈ ts) : ts[idx ts t]? = some t := by
  induction ts with
  | nil => cases h
  | cons a l ih =>
    by_cases h1 : a = t
    · simp [idx, h1]
    · have h2 : t ∈ l := by
        rcases List.mem_cons.1 h with e | e
        · exact absurd e.symm h1
        · exact e
      simp [idx, h1, ih h2]
theorem idx_lt {ts : List ByteArray} {t : ByteArray} (h : t ∈ ts) : idx ts t < ts.length := (List.getElem?_eq_some_iff.1 (idx_get h)).1
theorem idx_at {ts : List ByteArray} {t : ByteArray} {i : Nat} (hn : ts.Nodup) (h : ts[i]? = some t) : idx ts t = i := by
  induction ts generalizing i with
  | nil => cases h
  | cons a l ih =>
    obtain ⟨h1, h2⟩ := List.nodup_cons.1 hn
    cases i with
    | zero => simp at h; simp [idx, h]
    | succ i =>
      have h3 : l[i]? = some t := by simpa using h
      have h4 : a ≠ t := fun e => h1 (e ▸ List.mem_of_getElem? h3)
      simp [idx, h4, ih h2 h3]
theorem idx_inj {ts : List ByteArray} {t u : ByteArray} (h : t ∈ ts) (k : u ∈ ts) (e : idx ts t = idx ts u) : t = u := by
  have h1 := idx_get h
  rw [e, idx_get k] at h1
  exact (Option.some.inj h1).symm
theorem isB_snoc (ts : List ByteArray) (t u : ByteArray) : isB (ts ++ [t]) u = (isB ts u || decide (t = u)) := by simp [isB]

/-- The index's datum tells the row. -/
def Ix (D : DataW Unit) (ts : List ByteArray) : Prop :=
  IsMap D ∧ (∀ t, Maps.has D (tlit t) = isB ts t) ∧ ∀ t, D.atKey (tlit t) (.lit (.int .i64 0)) = .lit (.int .i64 (fnd ts t))
theorem Ix_nil : Ix (.map []) [] := ⟨⟨[], rfl⟩, fun _ => rfl, fun _ => rfl⟩
theorem Ix_put {D : DataW Unit} {ts : List ByteArray} {t : ByteArray} (h : Ix D ts) (ht : t ∉ ts) : Ix (D.put (tlit t) (.lit (.int .i64 ((ts.length : Nat) : Int)))) (ts ++ [t]) := by
  obtain ⟨h1, h2, h3⟩ := h
  refine ⟨h1.put _ _, fun u => ?_, fun u => ?_⟩
  · by_cases e : u = t
    · subst e
      rw [has_put_same h1 (tlit_key u), isB_snoc]
      simp
    · rw [has_put_other (fun c => e (tlit_inj c)), h2, isB_snoc]
      have e' : ¬ t = u := fun c => e c.symm
      simp [e']
  · by_cases e : u = t
    · subst e
      rw [atKey_put_same h1 (tlit_key u)]
      simp [fnd, isB_snoc, idx_snoc_new ht]
    · rw [atKey_put_other (fun c => e (tlit_inj c)), h3]
      have e' : ¬ t = u := fun c => e c.symm
      by_cases hu : u ∈ ts
      · simp [fnd, isB_snoc, (isB_iff _ _).2 hu, idx_snoc_other hu]
      · simp [fnd, isB_snoc, (isB_not _ _).2 hu, e']
end Go.Proofs.YtcakipojmkehgaaDoor

namespace Go.Proofs.YtcakipojmkehgaaDoor
open Go

/-- The keys of a kind: none, or one. -/
def okK : Option Int → Bool
  | none => true
  | some k => okNum k
/-- What stands ahead of a term's text. -/
def hdK (c : ByteArray) : Option Int → ByteArray
  | none => c
  | some k => c ++ numS k
def tmK (c : ByteArray) (ko : Option Int) (s : ByteArray) : ByteArray := hdK c ko ++ s
/-- What naming a crafted term answers, and leaves. -/
def ckX (most : Int) (ts : List ByteArray) (ok : Bool) (t : ByteArray) : Int := if ok && decide (nmE most ts t = 0) then nmX most ts t else 0
def ckE (most : Int) (ts : List ByteArray) (ok : Bool) (t : ByteArray) : Int := if ok && decide (nmE most ts t = 0) then 0 else 300
def ckT (most : Int) (ts : List ByteArray) (ok : Bool) (t : ByteArray) : List ByteArray := if ok then nmT most ts t else ts
/-- Is the tag the term's name? -/
def ckI (ts : List ByteArray) (ok : Bool) (t : ByteArray) (tag : Int) : Bool := ok && isB ts t && decide (fnd ts t = tag)
def cA : ByteArray := ⟨#[65]⟩
def cH : ByteArray := ⟨#[72]⟩
def cM : ByteArray := ⟨#[77]⟩
def cS : ByteArray := ⟨#[83]⟩
def pfx (t h : ByteArray) : Bool := Lib.hasPrefix t.data.toList h.data.toList
/-- Is the tag the name of a seal of that key? -/
def opB (ts : List ByteArray) (key tag : Int) : Bool := okNum key && decide (tmE ts tag = 0) && pfx (tmS ts tag) (cS ++ numS key)
def opS (ts : List ByteArray) (key tag : Int) : ByteArray := if opB ts key tag then (tmS ts tag).extract (cS ++ numS key).size (tmS ts tag).size else ⟨#[]⟩
def opE (ts : List ByteArray) (key tag : Int) : Int := if opB ts key tag then 0 else 301

theorem tmK_size (c : ByteArray) (ko : Option Int) (s : ByteArray) : (tmK c ko s).size = (hdK c ko).size + s.size := ByteArray.size_append
theorem numS_size5 (x : Int) : (numS x).size ≤ 5 := by
  unfold numS
  split
  · have := (numL_len x).2
    rw [Lib.size_eq, numB_data]; simpa [bytesOf] using this
  · simp [ByteArray.size]
theorem hdK_size {c : ByteArray} (hc : c.size = 1) (ko : Option Int) : 1 ≤ (hdK c ko).size ∧ (hdK c ko).size ≤ 6 := by
  cases ko with
  | none => show 1 ≤ c.size ∧ c.size ≤ 6; omega
  | some k => have := numS_size5 k; show 1 ≤ (c ++ numS k).size ∧ (c ++ numS k).size ≤ 6; rw [ByteArray.size_append]; omega
/-- A term that is too long is none, and no book holds it. -/
theorem big_no {ts : List ByteArray} {t : ByteArray} (ok : ∀ t ∈ ts, okT t = true) (h : 512 < t.size) : okT t = false ∧ isB ts t = false := by
  have h1 : okT t = false := by
    cases c : okT t
    · rfl
    · have := ((okT_iff t).1 c).2; omega
  refine ⟨h1, ?_⟩
  rw [isB_not]
  intro c
  rw [ok t c] at h1; cases h1
theorem big_nm (most : Int) (ts : List ByteArray) {t : ByteArray} (h : okT t = false) : nmE most ts t = 200 ∧ nmT most ts t = ts := by
  unfold nmE nmT; rw [h]; exact ⟨rfl, rfl⟩
theorem ckX_bad {most : Int} {ts : List ByteArray} {ok : Bool} {t : ByteArray} (h : ok = false ∨ nmE most ts t ≠ 0) : ckX most ts ok t = 0 ∧ ckE most ts ok t = 300 := by
  have : (ok && decide (nmE most ts t = 0)) = false := by
    rcases h with h | h
    · rw [h]; rfl
    · simp [h]
  unfold ckX ckE; rw [this]; exact ⟨rfl, rfl⟩
theorem ckX_ok {most : Int} {ts : List ByteArray} {t : ByteArray} (h : nmE most ts t = 0) : ckX most ts true t = nmX most ts t ∧ ckE most ts true t = 0 := by
  have : (true && decide (nmE most ts t = 0)) = true := by simp [h]
  unfold ckX ckE; rw [this]; exact ⟨rfl, rfl⟩
theorem nmE_X {most : Int} {ts : List ByteArray} {t : ByteArray} (h : nmE most ts t ≠ 0) : nmX most ts t = 0 := by
  unfold nmX; unfold nmE at h
  split at h
  · split at h
    · exact absurd rfl h
    · split at h
      · exact absurd rfl h
      · rename_i a b c; rw [if_pos a, if_neg b, if_neg c]
  · rename_i a; rw [if_neg a]

/-- The prefix test, as the reference makes it. -/
theorem pfx_ref (t h : ByteArray) : pfx t h = (decide (h.size ≤ t.size) && ((t.extract 0 h.size).toList == h.toList)) := by
  have e : ∀ a : ByteArray, a.toList = a.data.toList := fun ⟨⟨l⟩⟩ => ByteArray.toList_mk _
  rw [e, e, Lib.extract_eq]
  unfold pfx Lib.hasPrefix
  rw [Lib.size_eq, Lib.size_eq]
  simp only [Nat.sub_zero, List.drop_zero]
  rw [Bool.eq_iff_iff, Bool.and_eq_true, decide_eq_true_eq, beq_iff_eq, List.isPrefixOf_iff_prefix]
  constructor
  · rintro ⟨r, hr⟩
    rw [← hr]; simp
  · rintro ⟨_, hr⟩
    exact List.prefix_iff_eq_take.2 hr.symm
theorem trim_ext {t h : ByteArray} (hp : pfx t h = true) : (⟨(Lib.trimPrefix t.data.toList h.data.toList).toArray⟩ : ByteArray) = t.extract h.size t.size := by
  have hp' : Lib.hasPrefix t.data.toList h.data.toList = true := hp
  rw [Lib.extract_eq, Lib.trimPrefix, if_pos hp', Lib.size_eq, Lib.size_eq]
  congr 2
  rw [List.take_of_length_le]
  rw [List.length_drop]; exact Nat.le_refl _
end Go.Proofs.YtcakipojmkehgaaDoor

namespace Go.Proofs.YtcakipojmkehgaaDoor

/-- The book holds, each once, just those that may be terms of those that were named. -/
structure Fs (ts : List ByteArray) (S : ByteArray → Prop) (n : Nat) : Prop where
  le : ts.length ≤ n
  nd : ts.Nodup
  mem : ∀ t, t ∈ ts ↔ okT t = true ∧ S t
theorem Fs_nil {S : ByteArray → Prop} (h : ∀ t, ¬ S t) : Fs [] S 0 := ⟨Nat.le_refl _, List.nodup_nil, fun t => by simp [h t]⟩
theorem Fs_step {most : Int} {ts : List ByteArray} {S S' : ByteArray → Prop} {n : Nat} {s : ByteArray} (h : Fs ts S n) (hn : (n : Int) < most) (hS : ∀ t, S' t ↔ S t ∨ t = s) : Fs (nmT most ts s) S' (n + 1) := by
  have hl := h.le
  by_cases hk : okT s = true
  · by_cases hi : isB ts s = true
    · rw [show nmT most ts s = ts by unfold nmT; rw [if_pos hk, if_pos hi]]
      refine ⟨by omega, h.nd, fun t => ?_⟩
      rw [h.mem, hS]
      constructor
      · rintro ⟨a, b⟩; exact ⟨a, .inl b⟩
      · rintro ⟨a, b | rfl⟩
        · exact ⟨a, b⟩
        · exact ⟨a, ((h.mem _).1 ((isB_iff _ _).1 hi)).2⟩
    · have hl2 : (ts.length : Int) < most := by omega
      have hi' : s ∉ ts := fun c => hi ((isB_iff _ _).2 c)
      rw [show nmT most ts s = ts ++ [s] by unfold nmT; rw [if_pos hk, if_neg hi, if_pos hl2]]
      refine ⟨by simp; omega, ?_, fun t => ?_⟩
      · rw [List.nodup_append]; exact ⟨h.nd, by simp, fun a ha b hb' => by simp at hb'; subst hb'; exact fun e => hi' (e ▸ ha)⟩
      · rw [List.mem_append, h.mem, hS]
        constructor
        · rintro (⟨a, b⟩ | b)
          · exact ⟨a, .inl b⟩
          · simp at b; subst b; exact ⟨hk, .inr rfl⟩
        · rintro ⟨a, b | rfl⟩
          · exact .inl ⟨a, b⟩
          · exact .inr (by simp)
  · rw [show nmT most ts s = ts by unfold nmT; rw [if_neg hk]]
    refine ⟨by omega, h.nd, fun t => ?_⟩
    rw [h.mem, hS]
    constructor
    · rintro ⟨a, b⟩; exact ⟨a, .inl b⟩
    · rintro ⟨a, b | rfl⟩
      · exact ⟨a, b⟩
      · exact absurd a hk
theorem nd_le {a b : List ByteArray} (h : a.Nodup) (hs : ∀ t ∈ a, t ∈ b) : a.length ≤ b.length := List.Nodup.length_le_of_subset h hs
theorem Fs_len {a b : List ByteArray} {S : ByteArray → Prop} {T : ByteArray → Prop} {n m : Nat} (h : Fs a S n) (k : Fs b T m) (e : ∀ t, S t ↔ T t) : a.length = b.length :=
  Nat.le_antisymm (nd_le h.nd fun t ht => (k.mem t).2 (by rw [← e]; exact (h.mem t).1 ht)) (nd_le k.nd fun t ht => (h.mem t).2 (by rw [e]; exact (k.mem t).1 ht))
/-- What Name answers where there is room: one of three. -/
theorem nm_cases (most : Int) (ts : List ByteArray) (s : ByteArray) (h : (ts.length : Int) < most) :
    (1 ≤ s.size ∧ s.size ≤ 512 ∧ okT s = true ∧ nmE most ts s = 0 ∧ 0 ≤ nmX most ts s) ∨ (s.size = 0 ∧ okT s = false ∧ nmE most ts s = 200 ∧ nmX most ts s = 0) ∨ (512 < s.size ∧ okT s = false ∧ nmE most ts s = 200 ∧ nmX most ts s = 0) := by
  by_cases hk : okT s = true
  · obtain ⟨a, b⟩ := (okT_iff _).1 hk
    refine .inl ⟨a, b, hk, ?_, ?_⟩
    · unfold nmE; rw [if_pos hk, if_pos h]; split <;> rfl
    · unfold nmX; rw [if_pos hk, if_pos h]; split <;> omega
  · have hf : okT s = false := by simpa using hk
    have hs : s.size = 0 ∨ 512 < s.size := by
      have h1 : ¬ (1 ≤ s.size ∧ s.size ≤ 512) := fun c => hk ((okT_iff _).2 c)
      omega
    have e1 : nmE most ts s = 200 := by unfold nmE; rw [if_neg hk]
    have e2 : nmX most ts s = 0 := by unfold nmX; rw [if_neg hk]
    rcases hs with a | a
    · exact .inr (.inl ⟨a, hf, e1, e2⟩)
    · exact .inr (.inr ⟨a, hf, e1, e2⟩)
theorem tmS_fnd {ts : List ByteArray} {s : ByteArray} (h : s ∈ ts) : tmS ts (fnd ts s) = s ∧ tmE ts (fnd ts s) = 0 := by
  have h1 := idx_lt h
  have h2 := idx_get h
  have e : fnd ts s = ((idx ts s : Nat) : Int) := by unfold fnd; rw [if_pos ((isB_iff _ _).2 h)]
  rw [e, tmS, tmE, if_pos (by omega), if_pos (by omega)]
  exact ⟨by simp [List.getD, h2], rfl⟩
end Go.Proofs.YtcakipojmkehgaaDoor

namespace Go.Proofs.YtcakipojmkehgaaDoor

theorem numL_shape (z : Int) (h0 : 0 ≤ z) (h1 : z ≤ 1073741823) : ∃ (n : Nat) (bs : List Int), numL z = (n : Int) :: bs ∧ bs.length = n ∧ n ≤ 4 ∧ valL (bytesOf bs) = z ∧ (0 < n → ((bytesOf bs).headD 0).toNat ≠ 0) := by
  unfold numL
  by_cases a : z = 0
  · rw [if_pos a]; exact ⟨0, [], rfl, rfl, by omega, by simp [bytesOf, valL, a], fun h => absurd h (by omega)⟩
  rw [if_neg a]
  by_cases b : z < 256
  · rw [if_pos b]; refine ⟨1, [z], rfl, rfl, by omega, ?_, fun _ => ?_⟩ <;> simp [bytesOf, valL] <;> omega
  rw [if_neg b]
  by_cases c : z < 65536
  · rw [if_pos c]; refine ⟨2, [z / 256, z % 256], rfl, rfl, by omega, ?_, fun _ => ?_⟩ <;> simp [bytesOf, valL] <;> omega
  rw [if_neg c]
  by_cases d : z < 16777216
  · rw [if_pos d]; refine ⟨3, [z / 65536, z / 256 % 256, z % 256], rfl, rfl, by omega, ?_, fun _ => ?_⟩ <;> simp [bytesOf, valL] <;> omega
  rw [if_neg d]
  refine ⟨4, [z / 16777216, z / 65536 % 256, z / 256 % 256, z % 256], rfl, rfl, by omega, ?_, fun _ => ?_⟩ <;> simp [bytesOf, valL] <;> omega

theorem data_app (a b : ByteArray) : (a ++ b).data.toList = a.data.toList ++ b.data.toList := by rw [ByteArray.data_append, Array.toList_append]
theorem sz (a : ByteArray) : a.data.toList.length = a.size := (Lib.size_eq a).symm
theorem gb_at (s : ByteArray) (P L : List UInt8) (h : s.data.toList = P ++ L) (j : Nat) : gb s (P.length + j) = (L.getD j 0).toNat := by
  unfold gb; rw [h, List.getD_eq_getElem?_getD, List.getElem?_append_right (by omega), List.getD_eq_getElem?_getD]
  congr 3; omega
theorem piece_at (s : ByteArray) (P L : List UInt8) (h : s.data.toList = P ++ L) (j n : Nat) : piece s (P.length + j) (P.length + j + n) = (L.drop j).take n := by
  unfold piece; rw [h, show P.length + j + n - (P.length + j) = n by omega]
  congr 1
  rw [List.drop_append, List.drop_of_length_le (by omega), List.nil_append]
  congr 1; omega

theorem get_at (P R : ByteArray) (z : Int) (h0 : 0 ≤ z) (h1 : z ≤ 1073741823) :
    getE ((P ++ numS z) ++ R) P.size = 0 ∧ getX ((P ++ numS z) ++ R) P.size = z ∧ getTo ((P ++ numS z) ++ R) P.size = ((P.size + (numS z).size : Nat) : Int) := by
  obtain ⟨n, bs, e1, e2, e3, e4, e5⟩ := numL_shape z h0 h1
  have hL : ((P ++ numS z) ++ R).data.toList = P.data.toList ++ (UInt8.ofNat n :: (bytesOf bs ++ R.data.toList)) := by
    rw [data_app, data_app, numS_ok h0 h1, numB_data, e1]
    simp [bytesOf]
  have hsz : (numS z).size = n + 1 := by rw [numS_ok h0 h1, numB_size, e1, List.length_cons, e2]
  have hbl : (bytesOf bs).length = n := by rw [bytesOf, List.length_map, e2]
  have hS : ((P ++ numS z) ++ R).size = P.size + (n + 1) + R.size := by rw [ByteArray.size_append, ByteArray.size_append, hsz]
  generalize (P ++ numS z) ++ R = s at *
  have hg0 : gb s P.size = n := by
    have := gb_at s P.data.toList _ hL 0
    rw [sz, Nat.add_zero] at this
    rw [this]; simp; omega
  have hp : piece s (P.size + 1) (P.size + 1 + gb s P.size) = bytesOf bs := by
    have := piece_at s P.data.toList _ hL 1 n
    rw [sz] at this
    rw [hg0, this, List.drop_succ_cons, List.drop_zero, List.take_append_of_le_length (by omega), List.take_of_length_le (by omega)]
  have hE : getE s (P.size : Int) = 0 := by
    refine getE_ok (k := P.size) (by omega) (by omega) (by omega) ?_
    rw [hp, e4]
    rintro (⟨ha, hb⟩ | hb)
    · rw [hg0] at ha
      have := gb_at s P.data.toList _ hL 1
      rw [sz] at this
      rw [this] at hb
      have h5 := e5 ha
      cases hbs : bytesOf bs with
      | nil => rw [hbs] at hbl; simp at hbl; omega
      | cons c r =>
        rw [hbs] at hb h5
        simp at hb h5
        omega
    · omega
  exact ⟨hE, by rw [getX_ok hE, hp, e4], by rw [getTo_ok hE, hg0, hsz]; congr 1; omega⟩

end Go.Proofs.YtcakipojmkehgaaDoor

namespace Go.Proofs.YtcakipojmkehgaaDoor
open Go

theorem textS_ok {t : ByteArray} (h : t.size ≤ 65536) : textS t = numS t.size ++ t := by rw [textS, if_pos h, numS_ok (by omega) (by omega)]
theorem extract_mid (A t R : ByteArray) : ((A ++ t) ++ R).extract A.size (A.size + t.size) = t := by
  rw [extract_piece]
  have h : ((A ++ t) ++ R).data.toList = A.data.toList ++ (t.data.toList ++ R.data.toList) := by rw [data_app, data_app, List.append_assoc]
  have := piece_at _ A.data.toList _ h 0 t.size
  rw [sz, Nat.add_zero] at this
  rw [this, List.drop_zero, List.take_append_of_le_length (by rw [sz]; omega), List.take_of_length_le (by rw [sz]; omega)]
theorem txt_at (P R t : ByteArray) (h : t.size ≤ 65536) :
    txtE ((P ++ textS t) ++ R) P.size = 0 ∧ txtS ((P ++ textS t) ++ R) P.size = t ∧ txtTo ((P ++ textS t) ++ R) P.size = ((P.size + (textS t).size : Nat) : Int) := by
  have e : (P ++ textS t) ++ R = (P ++ numS t.size) ++ (t ++ R) := by rw [textS_ok h, ba_assoc, ba_assoc, ba_assoc]
  obtain ⟨g1, g2, g3⟩ := get_at P (t ++ R) t.size (by omega) (by omega)
  have hs : (textS t).size = (numS t.size).size + t.size := by rw [textS_ok h, ByteArray.size_append]
  have hS : ((P ++ numS t.size) ++ (t ++ R)).size = P.size + (numS t.size).size + (t.size + R.size) := by rw [ByteArray.size_append, ByteArray.size_append, ByteArray.size_append]
  rw [e]
  have hE := txtE_ok g1 (by rw [g2]; omega) (by rw [g2, g3]; omega)
  refine ⟨hE, ?_, ?_⟩
  · rw [txtS_ok hE, g2, g3]
    have := extract_mid (P ++ numS t.size) t R
    rw [ba_assoc, ByteArray.size_append] at this
    have e1 : (((P.size + (numS t.size).size : Nat) : Int)).toNat = P.size + (numS t.size).size := Int.toNat_natCast _
    have e2 : (((P.size + (numS t.size).size : Nat) : Int) + (t.size : Int)).toNat = P.size + (numS t.size).size + t.size := by omega
    rw [e1, e2]
    exact this
  · rw [txtTo_ok hE, g2, g3, hs]; omega
theorem extract_all (a : ByteArray) (n : Nat) (h : a.size ≤ n) : a.extract 0 n = a := by
  rw [extract_piece]
  apply ByteArray.ext
  unfold piece
  rw [List.drop_zero, List.take_of_length_le (by rw [sz]; omega)]
theorem extract_app (a b : ByteArray) (n : Nat) (h : a.size ≤ n) : (a ++ b).extract 0 n = a ++ b.extract 0 (n - a.size) := by
  rw [extract_piece, extract_piece]
  apply ByteArray.ext
  rw [ByteArray.data_append]
  simp only [piece, data_app, List.drop_zero, Nat.sub_zero]
  rw [List.take_append, List.take_of_length_le (by rw [sz]; omega), sz]
  simp

theorem numL_val : ∀ l : List UInt8, l.length ≤ 4 → (0 < l.length → l.headD 0 ≠ 0) → valL l ≤ 1073741823 → numL (valL l) = (l.length : Int) :: l.map fun b => (b.toNat : Int) := by
  intro l h4 h0 hv
  match l, h4 with
  | [], _ => rfl
  | [a], _ =>
    have ha := a.toNat_lt
    have h1 : a.toNat ≠ 0 := fun e => h0 (by simp) (UInt8.toNat_inj.1 (by simpa using e))
    have e : valL [a] = a.toNat := by simp [valL]
    rw [e]; unfold numL
    rw [if_neg (by omega), if_pos (by omega)]; rfl
  | [a, b], _ =>
    have ha := a.toNat_lt
    have hb := b.toNat_lt
    have h1 : a.toNat ≠ 0 := fun e => h0 (by simp) (UInt8.toNat_inj.1 (by simpa using e))
    have e : valL [a, b] = a.toNat * 256 + b.toNat := by simp [valL]
    rw [e]; unfold numL
    rw [if_neg (by omega), if_neg (by omega), if_pos (by omega)]
    simp; omega
  | [a, b, c], _ =>
    have ha := a.toNat_lt
    have hb := b.toNat_lt
    have hc := c.toNat_lt
    have h1 : a.toNat ≠ 0 := fun e => h0 (by simp) (UInt8.toNat_inj.1 (by simpa using e))
    have e : valL [a, b, c] = (a.toNat * 256 + b.toNat) * 256 + c.toNat := by simp [valL]
    rw [e]; unfold numL
    rw [if_neg (by omega), if_neg (by omega), if_neg (by omega), if_pos (by omega)]
    simp; omega
  | [a, b, c, d], _ =>
    have ha := a.toNat_lt
    have hb := b.toNat_lt
    have hc := c.toNat_lt
    have hd := d.toNat_lt
    have h1 : a.toNat ≠ 0 := fun e => h0 (by simp) (UInt8.toNat_inj.1 (by simpa using e))
    have e : valL [a, b, c, d] = ((a.toNat * 256 + b.toNat) * 256 + c.toNat) * 256 + d.toNat := by simp [valL]
    rw [e]; unfold numL
    rw [if_neg (by omega), if_neg (by omega), if_neg (by omega), if_neg (by omega)]
    simp; omega
theorem bytes_back (l : List UInt8) : bytesOf (l.map fun b => (b.toNat : Int)) = l := by
  induction l with
  | nil => rfl
  | cons a l ih =>
    simp only [List.map_cons, bytesOf] at ih ⊢
    rw [ih]; congr 1
    rw [Int.toNat_natCast]; exact UInt8.ofNat_toNat
theorem num_back {s : ByteArray} {a : Int} (h : getE s a = 0) : s.extract a.toNat (getTo s a).toNat = numS (getX s a) := by
  obtain ⟨k, rfl, hk, h4, hc, hz, hm⟩ := get_ok h
  have hX := getX_ok h
  have hT := getTo_ok h
  have hpl := piece_len s (k + 1) (k + 1 + gb s k) hc
  have hpl' : (piece s (k + 1) (k + 1 + gb s k)).length = gb s k := by omega
  have hhead : 0 < (piece s (k + 1) (k + 1 + gb s k)).length → (piece s (k + 1) (k + 1 + gb s k)).headD 0 ≠ 0 := by
    intro h0 e
    refine hz ⟨by omega, ?_⟩
    unfold gb
    have h1 : (piece s (k + 1) (k + 1 + gb s k)).headD 0 = s.data.toList.getD (k + 1) 0 := by
      unfold piece
      have h2 : k + 1 < s.data.toList.length := by rw [← Lib.size_eq]; omega
      rw [List.drop_eq_getElem_cons h2]
      obtain ⟨g, hg⟩ : ∃ g, k + 1 + gb s k - (k + 1) = g + 1 := ⟨gb s k - 1, by omega⟩
      rw [hg, List.take_succ_cons]
      simp [List.getD, List.getElem?_eq_getElem h2]
    rw [← h1, e]; rfl
  have hnum := numL_val _ (by omega) hhead hm
  have hp : piece s k (k + 1 + gb s k) = UInt8.ofNat (gb s k) :: piece s (k + 1) (k + 1 + gb s k) := by
    unfold piece
    have h2 : k < s.data.toList.length := by rw [← Lib.size_eq]; omega
    rw [List.drop_eq_getElem_cons h2, show k + 1 + gb s k - k = gb s k + 1 by omega, List.take_succ_cons, show k + 1 + gb s k - (k + 1) = gb s k by omega]
    congr 1
    unfold gb
    rw [UInt8.ofNat_toNat]
    simp [List.getD, List.getElem?_eq_getElem h2]
  rw [hX, hT, numS_ok (valL_bd _).1 hm, numB, hnum, hpl', extract_piece, Int.toNat_natCast, Int.toNat_natCast, hp]
  congr 2
  show _ = UInt8.ofNat ((gb s k : Int).toNat) :: bytesOf _
  rw [bytes_back, Int.toNat_natCast]
theorem txt_back {s : ByteArray} {a : Nat} (h : txtE s a = 0) : ∃ m : Nat, txtTo s a = m ∧ a ≤ m ∧ m ≤ s.size ∧ (txtS s a).size ≤ 65536 ∧ s.extract a m = textS (txtS s a) := by
  have hE : getE s a = 0 := by
    by_cases c : getE s a = 0
    · exact c
    · rw [txtE_get c] at h; exact absurd h c
  obtain ⟨b0, b1, b2, b3, b4⟩ := get_bd hE
  have h1 : ¬ 65536 < getX s a := fun c => by rw [txtE_big hE c] at h; omega
  have h2 : ¬ (s.size : Int) - getTo s a < getX s a := fun c => by rw [txtE_cut hE h1 c] at h; omega
  have hnb := num_back hE
  have hS := txtS_ok h
  have hT := txtTo_ok h
  obtain ⟨x, hx⟩ : ∃ x : Nat, getX s a = x := ⟨(getX s a).toNat, by omega⟩
  obtain ⟨t, ht⟩ : ∃ t : Nat, getTo s a = t := ⟨(getTo s a).toNat, by omega⟩
  rw [hx, ht] at hS hT
  rw [ht, hx] at hnb
  rw [hx] at h1 h2
  rw [ht] at h2 b3 b4
  have e1 : ((t : Int) + (x : Int)).toNat = t + x := by omega
  rw [Int.toNat_natCast, e1] at hS
  rw [Int.toNat_natCast, Int.toNat_natCast] at hnb
  have hsz : (txtS s a).size = x := by rw [hS, ByteArray.size_extract]; omega
  refine ⟨t + x, by rw [hT]; omega, by omega, by omega, by omega, ?_⟩
  rw [textS_ok (by omega), hsz, ← hnb, hS]
  apply ByteArray.ext
  apply Array.toList_inj.1
  rw [data_app, Lib.extract_eq, Lib.extract_eq, Lib.extract_eq]
  show (s.data.toList.drop a).take (t + x - a) = (s.data.toList.drop a).take (t - a) ++ (s.data.toList.drop t).take (t + x - t)
  rw [show t + x - a = (t - a) + x by omega, show t + x - t = x by omega, List.take_add, List.drop_drop, show a + (t - a) = t by omega]
end Go.Proofs.YtcakipojmkehgaaDoor

namespace Go.Proofs.YtcakipojmkehgaaDoor
open Go

/-- A part: a number or a text. -/
inductive Fld | n (x : Int) | t (s : ByteArray)
def Fld.isT : Fld → Bool
  | .n _ => false
  | .t _ => true
def Fld.ok : Fld → Bool
  | .n x => okNum x
  | .t s => decide (s.size ≤ 65536)
def Fld.enc : Fld → ByteArray
  | .n x => numS x
  | .t s => textS s
def encL : List Fld → ByteArray
  | [] => ⟨#[]⟩
  | f :: r => f.enc ++ encL r
/-- Reading parts of these forms from a place. -/
def rdL (s : ByteArray) : Int → List Bool → Option (List Fld × Int)
  | a, [] => some ([], a)
  | a, false :: r => if getE s a = 0 then (rdL s (getTo s a) r).map (fun x => (Fld.n (getX s a) :: x.1, x.2)) else none
  | a, true :: r => if txtE s a = 0 then (rdL s (txtTo s a) r).map (fun x => (Fld.t (txtS s a) :: x.1, x.2)) else none

theorem rdL_at (fs : List Fld) (h : ∀ f ∈ fs, f.ok = true) (P R : ByteArray) : rdL ((P ++ encL fs) ++ R) P.size (fs.map Fld.isT) = some (fs, ((P.size + (encL fs).size : Nat) : Int)) := by
  induction fs generalizing P with
  | nil => show some (([] : List Fld), (P.size : Int)) = some ([], ((P.size + 0 : Nat) : Int)); rfl
  | cons f r ih =>
    have hr := ih (fun g hg => h g (List.mem_cons_of_mem _ hg)) (P ++ f.enc)
    have e : (P ++ encL (f :: r)) ++ R = ((P ++ f.enc) ++ encL r) ++ R := by rw [encL, ba_assoc P f.enc (encL r)]
    have e2 : (P ++ encL (f :: r)) ++ R = (P ++ f.enc) ++ (encL r ++ R) := by rw [e, ba_assoc (P ++ f.enc)]
    have hf := h f (by simp)
    cases f with
    | n x =>
      obtain ⟨x0, x1⟩ := (okNum_iff x).1 hf
      obtain ⟨g1, g2, g3⟩ := get_at P (encL r ++ R) x x0 x1
      rw [List.map_cons, show Fld.isT (.n x) = false from rfl, rdL]
      have e3 : (P ++ encL (.n x :: r)) ++ R = (P ++ numS x) ++ (encL r ++ R) := e2
      rw [e3, if_pos g1, g3, g2]
      rw [show (P ++ numS x) ++ (encL r ++ R) = ((P ++ Fld.enc (.n x)) ++ encL r) ++ R from (ba_assoc (P ++ numS x) (encL r) R).symm]
      rw [ByteArray.size_append, show (Fld.enc (.n x)) = numS x from rfl] at hr
      rw [show (Fld.enc (.n x)) = numS x from rfl, hr]
      rw [encL, ByteArray.size_append, show (Fld.enc (.n x)) = numS x from rfl]
      simp; omega
    | t u =>
      have hu : u.size ≤ 65536 := by simpa [Fld.ok] using hf
      obtain ⟨g1, g2, g3⟩ := txt_at P (encL r ++ R) u hu
      rw [List.map_cons, show Fld.isT (.t u) = true from rfl, rdL]
      have e3 : (P ++ encL (.t u :: r)) ++ R = (P ++ textS u) ++ (encL r ++ R) := e2
      rw [e3, if_pos g1, g3, g2]
      rw [show (P ++ textS u) ++ (encL r ++ R) = ((P ++ Fld.enc (.t u)) ++ encL r) ++ R from (ba_assoc (P ++ textS u) (encL r) R).symm]
      rw [ByteArray.size_append, show (Fld.enc (.t u)) = textS u from rfl] at hr
      rw [show (Fld.enc (.t u)) = textS u from rfl, hr]
      rw [encL, ByteArray.size_append, show (Fld.enc (.t u)) = textS u from rfl]
      simp; omega

theorem ext_cat (s : ByteArray) {a b c : Nat} (h1 : a ≤ b) (h2 : b ≤ c) : s.extract a b ++ s.extract b c = s.extract a c := by
  apply ByteArray.ext
  apply Array.toList_inj.1
  rw [data_app, Lib.extract_eq, Lib.extract_eq, Lib.extract_eq]
  show (s.data.toList.drop a).take (b - a) ++ (s.data.toList.drop b).take (c - b) = (s.data.toList.drop a).take (c - a)
  rw [show c - a = (b - a) + (c - b) by omega, List.take_add, List.drop_drop, show a + (b - a) = b by omega]
/-- What is read is what stands there. -/
theorem rdL_back (s : ByteArray) : ∀ (sh : List Bool) (a : Nat) (fs : List Fld) (b : Int), a ≤ s.size → rdL s a sh = some (fs, b) →
    fs.map Fld.isT = sh ∧ (∀ f ∈ fs, f.ok = true) ∧ ∃ e : Nat, b = e ∧ a ≤ e ∧ e ≤ s.size ∧ s.extract a e = encL fs := by
  intro sh
  induction sh with
  | nil =>
    intro a fs b ha h
    simp only [rdL, Option.some.injEq, Prod.mk.injEq] at h
    obtain ⟨rfl, rfl⟩ := h
    refine ⟨rfl, (fun f hf => by cases hf), a, rfl, Nat.le_refl _, ha, ?_⟩
    rw [Lib.extract_eq]; simp [encL]
  | cons c r ih =>
    intro a fs b ha h
    cases c with
    | false =>
      rw [rdL] at h
      split at h
      · rename_i hE
        obtain ⟨b0, b1, b2, b3, b4⟩ := get_bd hE
        obtain ⟨m, hm⟩ : ∃ m : Nat, getTo s a = m := ⟨(getTo s a).toNat, by omega⟩
        have hb := num_back hE
        rw [hm] at h hb b3 b4
        cases hr : rdL s (m : Int) r with
        | none => rw [hr] at h; cases h
        | some y =>
          obtain ⟨fs', b'⟩ := y
          rw [hr] at h
          simp only [Option.map_some, Option.some.injEq, Prod.mk.injEq] at h
          obtain ⟨rfl, rfl⟩ := h
          obtain ⟨h1, h2, e, rfl, h3, h4, h5⟩ := ih m fs' b' (by omega) hr
          refine ⟨by rw [List.map_cons, h1]; rfl, ?_, e, rfl, by omega, h4, ?_⟩
          · intro f hf
            rcases List.mem_cons.1 hf with rfl | hf
            · exact (okNum_iff _).2 ⟨b0, b1⟩
            · exact h2 f hf
          · rw [encL, ← h5, show (Fld.n (getX s (a : Int))).enc = numS (getX s (a : Int)) from rfl, ← hb]
            simp only [Int.toNat_natCast]
            exact (ext_cat s (by omega) h3).symm
      · cases h
    | true =>
      rw [rdL] at h
      split at h
      · rename_i hE
        obtain ⟨m, hm, hb3, hb4, hb5, hb6⟩ := txt_back hE
        rw [hm] at h
        cases hr : rdL s (m : Int) r with
        | none => rw [hr] at h; cases h
        | some y =>
          obtain ⟨fs', b'⟩ := y
          rw [hr] at h
          simp only [Option.map_some, Option.some.injEq, Prod.mk.injEq] at h
          obtain ⟨rfl, rfl⟩ := h
          obtain ⟨h1, h2, e, rfl, h3, h4, h5⟩ := ih m fs' b' (by omega) hr
          refine ⟨by rw [List.map_cons, h1]; rfl, ?_, e, rfl, by omega, h4, ?_⟩
          · intro f hf
            rcases List.mem_cons.1 hf with rfl | hf
            · simpa [Fld.ok] using hb5
            · exact h2 f hf
          · rw [encL, ← h5, show (Fld.t (txtS s (a : Int))).enc = textS (txtS s (a : Int)) from rfl, ← hb6]
            exact (ext_cat s (by omega) h3).symm
      · cases h
end Go.Proofs.YtcakipojmkehgaaDoor

namespace Go.Proofs.YtcakipojmkehgaaDoor
open Go

theorem ext_all (s : ByteArray) : s.extract 0 s.size = s := by
  rw [Lib.extract_eq]
  apply ByteArray.ext
  apply Array.toList_inj.1
  show (s.data.toList.drop 0).take (s.size - 0) = s.data.toList
  rw [List.drop_zero, Nat.sub_zero, List.take_of_length_le (by rw [← Lib.size_eq]; exact Nat.le_refl _)]
/-- What is written is read, of just such bytes, and no such bytes begin others. -/
structure Codec {α : Type} (may : α → Bool) (put : α → ByteArray) (get : ByteArray → Option α) : Prop where
  back : ∀ p, may p = true → get (put p) = some p
  form : ∀ t p, get t = some p → may p = true ∧ put p = t
  pre : ∀ p q r, may p = true → may q = true → put p ++ r = put q → p = q ∧ r.size = 0
  pos : ∀ p, may p = true → 0 < (put p).size
theorem Codec.cut {α : Type} {may : α → Bool} {put : α → ByteArray} {get : ByteArray → Option α} (h : Codec may put get) {p : α} (hp : may p = true) {c : Nat} (hc : c < (put p).size) : get ((put p).extract 0 c) = none := by
  cases hg : get ((put p).extract 0 c) with
  | none => rfl
  | some q =>
    obtain ⟨h1, h2⟩ := h.form _ _ hg
    have e : put q ++ (put p).extract c (put p).size = put p := by
      rw [h2, ext_cat _ (Nat.zero_le _) (Nat.le_of_lt hc), ext_all]
    have h3 := (h.pre _ _ _ h1 hp e).2
    rw [ByteArray.size_extract] at h3
    omega
theorem Codec.more {α : Type} {may : α → Bool} {put : α → ByteArray} {get : ByteArray → Option α} (h : Codec may put get) {p : α} (hp : may p = true) {r : ByteArray} (hr : 0 < r.size) : get (put p ++ r) = none := by
  cases hg : get (put p ++ r) with
  | none => rfl
  | some q =>
    obtain ⟨h1, h2⟩ := h.form _ _ hg
    have := (h.pre p q r hp h1 h2.symm).2
    omega
theorem Codec.inj {α : Type} {may : α → Bool} {put : α → ByteArray} {get : ByteArray → Option α} (h : Codec may put get) {p q : α} (hp : may p = true) (hq : may q = true) (e : put p = put q) : p = q := by
  have h1 := h.back p hp
  rw [e, h.back q hq] at h1
  exact (Option.some.inj h1).symm

/-- Reading a kind, then its parts. -/
def rdK (sh : Int → List Bool) (s : ByteArray) : Option (List Fld × Int) :=
  if getE s 0 = 0 then (rdL s (getTo s 0) (sh (getX s 0))).map (fun x => (Fld.n (getX s 0) :: x.1, x.2)) else none
def getK {α : Type} (sh : Int → List Bool) (mk : List Fld → α) (may : α → Bool) (t : ByteArray) : Option α :=
  match rdK sh t with
  | some (fs, b) => if b = t.size ∧ may (mk fs) = true then some (mk fs) else none
  | none => none
theorem rdK_at {sh : Int → List Bool} {k : Int} {r : List Fld} (h : ∀ f ∈ Fld.n k :: r, f.ok = true) (hs : r.map Fld.isT = sh k) (R : ByteArray) : rdK sh (encL (.n k :: r) ++ R) = some (.n k :: r, ((encL (.n k :: r)).size : Int)) := by
  obtain ⟨k0, k1⟩ := (okNum_iff k).1 (h (.n k) (by simp))
  obtain ⟨g1, g2, g3⟩ := get_at ⟨#[]⟩ (encL r ++ R) k k0 k1
  rw [nil_ba] at g1 g2 g3
  have e : encL (.n k :: r) ++ R = numS k ++ (encL r ++ R) := by rw [encL, ba_assoc]; rfl
  rw [← e] at g1 g2 g3
  have g1' : getE (encL (.n k :: r) ++ R) 0 = 0 := g1
  have g2' : getX (encL (.n k :: r) ++ R) 0 = k := g2
  have g3' : getTo (encL (.n k :: r) ++ R) 0 = ((numS k).size : Int) := by
    have := g3
    rw [show ((⟨#[]⟩ : ByteArray).size) = 0 from rfl, Nat.zero_add] at this
    exact this
  have hr := rdL_at r (fun f hf => h f (List.mem_cons_of_mem _ hf)) (numS k) R
  rw [hs] at hr
  have e3 : (numS k ++ encL r) ++ R = encL (.n k :: r) ++ R := by rw [encL]; rfl
  rw [e3] at hr
  unfold rdK
  rw [if_pos g1', g2', g3', hr]
  have e4 : (encL (.n k :: r)).size = (numS k).size + (encL r).size := by rw [encL, ByteArray.size_append]; rfl
  rw [e4]; rfl
theorem rdK_back {sh : Int → List Bool} {t : ByteArray} {fs : List Fld} {b : Int} (h : rdK sh t = some (fs, b)) : ∃ k r, fs = .n k :: r ∧ r.map Fld.isT = sh k ∧ (∀ f ∈ fs, f.ok = true) ∧ ∃ e : Nat, b = e ∧ e ≤ t.size ∧ t.extract 0 e = encL fs := by
  unfold rdK at h
  split at h
  · rename_i hE
    obtain ⟨b0, b1, b2, b3, b4⟩ := get_bd hE
    have hnb := num_back hE
    obtain ⟨m, hm⟩ : ∃ m : Nat, getTo t 0 = m := ⟨(getTo t 0).toNat, by omega⟩
    rw [hm] at h hnb b3 b4
    cases hr : rdL t (m : Int) (sh (getX t 0)) with
    | none => rw [hr] at h; cases h
    | some y =>
      obtain ⟨fs', b'⟩ := y
      rw [hr] at h
      simp only [Option.map_some, Option.some.injEq, Prod.mk.injEq] at h
      obtain ⟨rfl, rfl⟩ := h
      obtain ⟨h1, h2, e, rfl, h3, h4, h5⟩ := rdL_back t _ m fs' b' (by omega) hr
      refine ⟨_, _, rfl, h1, ?_, e, rfl, h4, ?_⟩
      · intro f hf
        rcases List.mem_cons.1 hf with rfl | hf
        · exact (okNum_iff _).2 ⟨b0, b1⟩
        · exact h2 f hf
      · rw [encL, ← h5, show (Fld.n (getX t 0)).enc = numS (getX t 0) from rfl, ← hnb]
        exact (ext_cat t (by simp) (by simpa using h3)).symm
  · cases h
theorem codec_of {α : Type} {sh : Int → List Bool} {mk : List Fld → α} {may : α → Bool} {fl : α → List Fld}
    (h1 : ∀ p, may p = true → ∃ k r, fl p = .n k :: r ∧ r.map Fld.isT = sh k ∧ ∀ f ∈ fl p, f.ok = true) (h2 : ∀ p, may p = true → mk (fl p) = p)
    (h3 : ∀ k r, r.map Fld.isT = sh k → may (mk (.n k :: r)) = true → fl (mk (.n k :: r)) = .n k :: r) : Codec may (fun p => encL (fl p)) (getK sh mk may) := by
  have key : ∀ p, may p = true → ∀ R, rdK sh (encL (fl p) ++ R) = some (fl p, ((encL (fl p)).size : Int)) := fun p hp R => by
    obtain ⟨k, r, e, hs, hok⟩ := h1 p hp
    rw [e] at hok ⊢
    exact rdK_at hok hs R
  have hform : ∀ t p, getK sh mk may t = some p → may p = true ∧ encL (fl p) = t := by
    intro t p h
    unfold getK at h
    cases hr : rdK sh t with
    | none => rw [hr] at h; cases h
    | some y =>
      obtain ⟨fs, b⟩ := y
      rw [hr] at h
      simp only at h
      split at h
      · rename_i hc
        obtain ⟨hb, hm⟩ := hc
        have := Option.some.inj h
        subst this
        refine ⟨hm, ?_⟩
        obtain ⟨k, r, rfl, hs, _, e, he, hle, hx⟩ := rdK_back hr
        rw [h3 k r hs hm, ← hx]
        have : e = t.size := by omega
        rw [this, ext_all]
      · cases h
  refine ⟨fun p hp => ?_, hform, fun p q r hp hq e => ?_, fun p hp => ?_⟩
  · have := key p hp ⟨#[]⟩
    rw [ba_nil] at this
    unfold getK
    rw [this]
    show (if ((encL (fl p)).size : Int) = ((encL (fl p)).size : Int) ∧ may (mk (fl p)) = true then some (mk (fl p)) else none) = some p
    rw [h2 p hp, if_pos ⟨rfl, hp⟩]
  · have k1 := key p hp r
    have k2 := key q hq ⟨#[]⟩
    rw [ba_nil, ← show encL (fl p) ++ r = encL (fl q) from e, k1] at k2
    simp only [Option.some.injEq, Prod.mk.injEq] at k2
    obtain ⟨e1, e2⟩ := k2
    have e3 : p = q := by rw [← h2 p hp, ← h2 q hq, e1]
    refine ⟨e3, ?_⟩
    rw [ByteArray.size_append] at e2
    omega
  · obtain ⟨k, r, e, _, hok⟩ := h1 p hp
    rw [e] at hok
    obtain ⟨k0, k1⟩ := (okNum_iff k).1 (hok (.n k) (by simp))
    show 0 < (encL (fl p)).size
    rw [e, encL, ByteArray.size_append, show (Fld.n k).enc = numS k from rfl, numS_ok k0 k1, numB_size]
    have := (numL_len k).1
    omega

/- Reading with a flag that says that it went wrong: as the reference's Reader does. -/
def rnB (s : ByteArray) (a : Int) (b : Bool) : Bool := b || decide (getE s a ≠ 0)
def rnA (s : ByteArray) (a : Int) (b : Bool) : Int := if rnB s a b then a else getTo s a
def rnX (s : ByteArray) (a : Int) (b : Bool) : Int := if rnB s a b then 0 else getX s a
def rtB (s : ByteArray) (a : Int) (b : Bool) : Bool := b || decide (txtE s a ≠ 0)
def rtA (s : ByteArray) (a : Int) (b : Bool) : Int := if rtB s a b then a else txtTo s a
def rtX (s : ByteArray) (a : Int) (b : Bool) : ByteArray := if rtB s a b then ⟨#[]⟩ else txtS s a
def rdF (s : ByteArray) : Int → Bool → List Bool → List Fld × Int × Bool
  | a, b, [] => ([], a, b)
  | a, b, false :: r => let y := rdF s (rnA s a b) (rnB s a b) r; (.n (rnX s a b) :: y.1, y.2)
  | a, b, true :: r => let y := rdF s (rtA s a b) (rtB s a b) r; (.t (rtX s a b) :: y.1, y.2)
theorem rdF_bad (s : ByteArray) : ∀ (sh : List Bool) (a : Int), (rdF s a true sh).2.2 = true := by
  intro sh
  induction sh with
  | nil => intro a; rfl
  | cons c r ih =>
    intro a
    cases c with
    | false => show (rdF s (rnA s a true) (rnB s a true) r).2.2 = true; rw [show rnB s a true = true from rfl]; exact ih _
    | true => show (rdF s (rtA s a true) (rtB s a true) r).2.2 = true; rw [show rtB s a true = true from rfl]; exact ih _
theorem rdF_of (s : ByteArray) : ∀ (sh : List Bool) (a : Int), (∀ fs e, rdL s a sh = some (fs, e) → rdF s a false sh = (fs, e, false)) ∧ (rdL s a sh = none → (rdF s a false sh).2.2 = true) := by
  intro sh
  induction sh with
  | nil => intro a; exact ⟨fun fs e h => by simp only [rdL, Option.some.injEq, Prod.mk.injEq] at h; obtain ⟨rfl, rfl⟩ := h; rfl, fun h => by cases h⟩
  | cons c r ih =>
    intro a
    cases c with
    | false =>
      by_cases hE : getE s a = 0
      · have hb : rnB s a false = false := by simp [rnB, hE]
        obtain ⟨i1, i2⟩ := ih (getTo s a)
        have e1 : rdF s a false (false :: r) = (.n (getX s a) :: (rdF s (getTo s a) false r).1, (rdF s (getTo s a) false r).2) := by
          show (Fld.n (rnX s a false) :: (rdF s (rnA s a false) (rnB s a false) r).1, (rdF s (rnA s a false) (rnB s a false) r).2) = _
          unfold rnX rnA; rw [hb]; rfl
        rw [e1, rdL, if_pos hE]
        refine ⟨fun fs e h => ?_, fun h => ?_⟩
        · cases hr : rdL s (getTo s a) r with
          | none => rw [hr] at h; cases h
          | some y =>
            obtain ⟨fs', e'⟩ := y
            rw [hr] at h
            simp only [Option.map_some, Option.some.injEq, Prod.mk.injEq] at h
            obtain ⟨rfl, rfl⟩ := h
            rw [i1 _ _ hr]
        · cases hr : rdL s (getTo s a) r with
          | none => exact i2 hr
          | some y => rw [hr] at h; cases h
      · have hb : rnB s a false = true := by simp [rnB, hE]
        have e1 : (rdF s a false (false :: r)).2.2 = (rdF s (rnA s a false) (rnB s a false) r).2.2 := rfl
        rw [rdL, if_neg hE, e1, hb]
        exact ⟨fun fs e h => (by cases h), fun _ => rdF_bad s r _⟩
    | true =>
      by_cases hE : txtE s a = 0
      · have hb : rtB s a false = false := by simp [rtB, hE]
        obtain ⟨i1, i2⟩ := ih (txtTo s a)
        have e1 : rdF s a false (true :: r) = (.t (txtS s a) :: (rdF s (txtTo s a) false r).1, (rdF s (txtTo s a) false r).2) := by
          show (Fld.t (rtX s a false) :: (rdF s (rtA s a false) (rtB s a false) r).1, (rdF s (rtA s a false) (rtB s a false) r).2) = _
          unfold rtX rtA; rw [hb]; rfl
        rw [e1, rdL, if_pos hE]
        refine ⟨fun fs e h => ?_, fun h => ?_⟩
        · cases hr : rdL s (txtTo s a) r with
          | none => rw [hr] at h; cases h
          | some y =>
            obtain ⟨fs', e'⟩ := y
            rw [hr] at h
            simp only [Option.map_some, Option.some.injEq, Prod.mk.injEq] at h
            obtain ⟨rfl, rfl⟩ := h
            rw [i1 _ _ hr]
        · cases hr : rdL s (txtTo s a) r with
          | none => exact i2 hr
          | some y => rw [hr] at h; cases h
      · have hb : rtB s a false = true := by simp [rtB, hE]
        have e1 : (rdF s a false (true :: r)).2.2 = (rdF s (rtA s a false) (rtB s a false) r).2.2 := rfl
        rw [rdL, if_neg hE, e1, hb]
        exact ⟨fun fs e h => (by cases h), fun _ => rdF_bad s r _⟩
/-- The flagged reading tells what 'getK' does. -/
theorem getK_flag {α : Type} {sh : Int → List Bool} {mk : List Fld → α} {may : α → Bool} {t : ByteArray} (y : List Fld × Int × Bool) (hy : rdF t (rnA t 0 false) (rnB t 0 false) (sh (rnX t 0 false)) = y) :
    getK sh mk may t = if y.2.2 = false ∧ y.2.1 = t.size ∧ may (mk (.n (rnX t 0 false) :: y.1)) = true then some (mk (.n (rnX t 0 false) :: y.1)) else none := by
  subst hy
  by_cases hE : getE t 0 = 0
  · have hb : rnB t 0 false = false := by simp [rnB, hE]
    have hX : rnX t 0 false = getX t 0 := by unfold rnX; rw [hb]; rfl
    have hA : rnA t 0 false = getTo t 0 := by unfold rnA; rw [hb]; rfl
    rw [hb, hX, hA]
    obtain ⟨i1, i2⟩ := rdF_of t (sh (getX t 0)) (getTo t 0)
    unfold getK rdK
    rw [if_pos hE]
    cases hr : rdL t (getTo t 0) (sh (getX t 0)) with
    | none => rw [if_neg (fun c => by rw [i2 hr] at c; exact absurd c.1 (by decide))]; rfl
    | some y =>
      obtain ⟨fs, e⟩ := y
      rw [i1 _ _ hr]
      simp
  · have hb : rnB t 0 false = true := by simp [rnB, hE]
    rw [hb, rdF_bad, if_neg (fun c => by exact absurd c.1 (by decide))]
    unfold getK rdK
    rw [if_neg hE]
theorem rnA_bd {s : ByteArray} {a : Int} {b : Bool} (h0 : 0 ≤ a) (h1 : a ≤ s.size) : 0 ≤ rnA s a b ∧ rnA s a b ≤ s.size := by
  unfold rnA
  split
  · exact ⟨h0, h1⟩
  · rename_i h
    have hE : getE s a = 0 := by
      unfold rnB at h
      simp at h; exact h.2
    obtain ⟨_, _, b2, b3, b4⟩ := get_bd hE
    omega
theorem rtA_bd {s : ByteArray} {a : Int} {b : Bool} (h0 : 0 ≤ a) (h1 : a ≤ s.size) : 0 ≤ rtA s a b ∧ rtA s a b ≤ s.size := by
  unfold rtA
  split
  · exact ⟨h0, h1⟩
  · rename_i h
    have hE : txtE s a = 0 := by
      unfold rtB at h
      simp at h; exact h.2
    obtain ⟨k, rfl⟩ := Int.eq_ofNat_of_zero_le h0
    obtain ⟨m, e, _, h2, _⟩ := txt_back hE
    rw [e]; omega
end Go.Proofs.YtcakipojmkehgaaDoor

namespace Go.Proofs.YtcakipojmkehgaaDoor
open Go

theorem ba_cancel {a s t : ByteArray} (h : a ++ s = a ++ t) : s = t := by
  have h1 := congrArg (fun b : ByteArray => b.data.toList) h
  simp only [data_app] at h1
  exact ByteArray.ext (Array.toList_inj.1 (List.append_cancel_left h1))
theorem numS_pf {x y : Int} {s t : ByteArray} (x0 : 0 ≤ x) (x1 : x ≤ 1073741823) (y0 : 0 ≤ y) (y1 : y ≤ 1073741823) (h : numS x ++ s = numS y ++ t) : x = y ∧ s = t := by
  have g1 := (get_at ⟨#[]⟩ s x x0 x1).2.1
  have g2 := (get_at ⟨#[]⟩ t y y0 y1).2.1
  rw [nil_ba] at g1 g2
  rw [h, g2] at g1
  subst g1
  exact ⟨rfl, ba_cancel h⟩
theorem tm_inj1 {c : ByteArray} {x y : Int} {s t : ByteArray} (x0 : 0 ≤ x) (x1 : x ≤ 1073741823) (y0 : 0 ≤ y) (y1 : y ≤ 1073741823) (h : tmK c (some x) s = tmK c (some y) t) : x = y ∧ s = t := by
  have h1 : c ++ (numS x ++ s) = c ++ (numS y ++ t) := by rw [← ba_assoc, ← ba_assoc]; exact h
  exact numS_pf x0 x1 y0 y1 (ba_cancel h1)
theorem tm_inj0 {c s t : ByteArray} (h : tmK c none s = tmK c none t) : s = t := ba_cancel h
/-- A term's first byte. -/
def fb (t : ByteArray) : Option UInt8 := t.data.toList.head?
theorem fb_tm (b : UInt8) (ko : Option Int) (s : ByteArray) : fb (tmK ⟨#[b]⟩ ko s) = some b := by
  unfold fb tmK
  rw [data_app]
  cases ko with
  | none => rfl
  | some k => unfold hdK; simp only [data_app]; rfl
theorem tm_kind {b d : UInt8} (h : b ≠ d) (ko ko' : Option Int) (s t : ByteArray) : tmK ⟨#[b]⟩ ko s ≠ tmK ⟨#[d]⟩ ko' t := by
  intro e
  have h1 := congrArg fb e
  rw [fb_tm, fb_tm] at h1
  exact h (Option.some.inj h1)
theorem pfx_app (a r : ByteArray) : pfx (a ++ r) a = true := by
  unfold pfx Lib.hasPrefix
  rw [data_app, List.isPrefixOf_iff_prefix]
  exact List.prefix_append _ _
theorem pfx_seal {x y : Int} {s : ByteArray} (x0 : 0 ≤ x) (x1 : x ≤ 1073741823) (y0 : 0 ≤ y) (y1 : y ≤ 1073741823) : pfx (tmK cS (some x) s) (cS ++ numS y) = decide (x = y) := by
  by_cases h : x = y
  · subst h
    rw [show tmK cS (some x) s = (cS ++ numS x) ++ s from rfl, pfx_app]; simp
  · rw [decide_eq_false h, Bool.eq_false_iff]
    intro e
    unfold pfx Lib.hasPrefix at e
    rw [List.isPrefixOf_iff_prefix] at e
    obtain ⟨r, hr⟩ := e
    refine h (tm_inj1 (c := cS) (s := s) (t := ⟨r.toArray⟩) x0 x1 y0 y1 ?_).1
    apply ByteArray.ext
    apply Array.toList_inj.1
    rw [← hr, show tmK cS (some y) ⟨r.toArray⟩ = (cS ++ numS y) ++ ⟨r.toArray⟩ from rfl, data_app (cS ++ numS y)]
theorem ext_app (a s : ByteArray) : (a ++ s).extract a.size (a ++ s).size = s := by
  rw [Lib.extract_eq]
  apply ByteArray.ext
  apply Array.toList_inj.1
  rw [data_app, ByteArray.size_append, show a.size + s.size - a.size = s.size by omega, Lib.size_eq, Lib.size_eq]
  simp
  exact List.take_of_length_le (by rw [← Lib.size_eq]; exact Nat.le_refl _)
theorem op_seal {ts : List ByteArray} {x y tag : Int} {s : ByteArray} (x0 : 0 ≤ x) (x1 : x ≤ 1073741823) (y0 : 0 ≤ y) (y1 : y ≤ 1073741823) (h1 : tmS ts tag = tmK cS (some x) s) (h2 : tmE ts tag = 0) :
    opB ts y tag = decide (x = y) ∧ opS ts y tag = (if x = y then s else ⟨#[]⟩) ∧ opE ts y tag = (if x = y then 0 else 301) := by
  have hb : opB ts y tag = decide (x = y) := by
    unfold opB
    rw [h1, h2, pfx_seal x0 x1 y0 y1, (okNum_iff y).2 ⟨y0, y1⟩]; simp
  refine ⟨hb, ?_, ?_⟩
  · unfold opS
    rw [hb]
    by_cases e : x = y
    · subst e
      rw [if_pos (by simp), if_pos rfl, h1, show tmK cS (some x) s = (cS ++ numS x) ++ s from rfl, ext_app]
    · rw [if_neg (by simp [e]), if_neg e]
  · unfold opE
    rw [hb]
    by_cases e : x = y
    · rw [if_pos (by simp [e]), if_pos e]
    · rw [if_neg (by simp [e]), if_neg e]

theorem tm_ok {c : ByteArray} (hc : c.size = 1) (ko : Option Int) {s : ByteArray} (h : s.size ≤ 506) : okT (tmK c ko s) = true := by
  obtain ⟨h1, h2⟩ := hdK_size hc ko
  rw [okT_iff, tmK_size]; omega
theorem ck_new {most : Int} {ts : List ByteArray} {t : ByteArray} (hk : okT t = true) (hn : t ∉ ts) (hl : (ts.length : Int) < most) : ckX most ts true t = ts.length ∧ ckE most ts true t = 0 ∧ ckT most ts true t = ts ++ [t] := by
  have hi := (isB_not _ _).2 hn
  have he : nmE most ts t = 0 := by unfold nmE; rw [if_pos hk, hi, if_neg (by decide), if_pos hl]
  obtain ⟨a, b⟩ := ckX_ok (most := most) (ts := ts) he
  refine ⟨a.trans ?_, b, ?_⟩
  · unfold nmX; rw [if_pos hk, hi, if_neg (by decide), if_pos hl]
  · show nmT most ts t = _
    unfold nmT; rw [if_pos hk, hi, if_neg (by decide), if_pos hl]
theorem ck_old {most : Int} {ts : List ByteArray} {t : ByteArray} (hk : okT t = true) (hn : t ∈ ts) : ckX most ts true t = idx ts t ∧ ckE most ts true t = 0 ∧ ckT most ts true t = ts := by
  have hi := (isB_iff _ _).2 hn
  have he : nmE most ts t = 0 := by unfold nmE; rw [if_pos hk, if_pos hi]
  obtain ⟨a, b⟩ := ckX_ok (most := most) (ts := ts) he
  refine ⟨a.trans ?_, b, ?_⟩
  · unfold nmX; rw [if_pos hk, if_pos hi]
  · show nmT most ts t = _
    unfold nmT; rw [if_pos hk, if_pos hi]
/-- What asking answers of a term that stands at i. -/
theorem ckI_at {ts : List ByteArray} {t : ByteArray} {i : Nat} (hn : ts.Nodup) (h : ts[i]? = some t) (tag : Int) : ckI ts true t tag = decide ((i : Int) = tag) := by
  have h1 := idx_at hn h
  have h2 : isB ts t = true := (isB_iff _ _).2 (List.mem_of_getElem? h)
  unfold ckI fnd
  rw [h2, if_pos rfl, h1]; rfl
theorem ckI_no {ts : List ByteArray} {t : ByteArray} (h : t ∉ ts) (ok : Bool) (tag : Int) : ckI ts ok t tag = false := by
  unfold ckI
  rw [(isB_not _ _).2 h]; simp
theorem nmX_bd (most : Int) (ts : List ByteArray) (t : ByteArray) : 0 ≤ nmX most ts t ∧ nmX most ts t ≤ ts.length := by
  unfold nmX
  split
  · split
    · rename_i h
      have := idx_lt ((isB_iff ts t).1 h)
      omega
    · split <;> omega
  · omega
end Go.Proofs.YtcakipojmkehgaaDoor

