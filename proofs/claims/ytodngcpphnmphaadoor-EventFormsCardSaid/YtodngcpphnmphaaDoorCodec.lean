/- Plain mathematics of a way to write things as bytes: a kind, then its parts in their row. No program is named. -/
import Derived.Test.YtodngcpphnmphaaDoorFmt
namespace Go.Proofs.YtodngcpphnmphaaDoor
open Go

theorem ext_all (s : ByteArray) : s.extract 0 s.size = s := by
  rw [Lib.extract_eq]
  apply ByteArray.ext
  apply Array.toList_inj.1
  show (s.data.toList.drop 0).take (s.size - 0) = s.data.toList
  rw [List.drop_zero, Nat.sub_zero, List.take_of_length_le (by rw [← Lib.size_eq]; exact Nat.le_refl _)]
/-- What is written is read, of just such bytes, and no such bytes begin others. -/
structure Codec {α : Type} (may : α → Bool) (put : α → ByteArray) (get : ByteArray → Option α) : Prop where
  back : ∀ p, may p = true → get (put p) = some p
  form : ∀ t p, get t = some p → may p = true ∧ put p = t
  pre : ∀ p q r, may p = true → may q = true → put p ++ r = put q → p = q ∧ r.size = 0
  pos : ∀ p, may p = true → 0 < (put p).size
theorem Codec.cut {α : Type} {may : α → Bool} {put : α → ByteArray} {get : ByteArray → Option α} (h : Codec may put get) {p : α} (hp : may p = true) {c : Nat} (hc : c < (put p).size) : get ((put p).extract 0 c) = none := by
  cases hg : get ((put p).extract 0 c) with
  | none => rfl
  | some q =>
    obtain ⟨h1, h2⟩ := h.form _ _ hg
    have e : put q ++ (put p).extract c (put p).size = put p := by
      rw [h2, ext_cat _ (Nat.zero_le _) (Nat.le_of_lt hc), ext_all]
    have h3 := (h.pre _ _ _ h1 hp e).2
    rw [ByteArray.size_extract] at h3
    omega
theorem Codec.more {α : Type} {may : α → Bool} {put : α → ByteArray} {get : ByteArray → Option α} (h : Codec may put get) {p : α} (hp : may p = true) {r : ByteArray} (hr : 0 < r.size) : get (put p ++ r) = none := by
  cases hg : get (put p ++ r) with
  | none => rfl
  | some q =>
    obtain ⟨h1, h2⟩ := h.form _ _ hg
    have := (h.pre p q r hp h1 h2.symm).2
    omega
theorem Codec.inj {α : Type} {may : α → Bool} {put : α → ByteArray} {get : ByteArray → Option α} (h : Codec may put get) {p q : α} (hp : may p = true) (hq : may q = true) (e : put p = put q) : p = q := by
  have h1 := h.back p hp
  rw [e, h.back q hq] at h1
  exact (Option.some.inj h1).symm

/-- Reading a kind, then its parts. -/
def rdK (sh : Int → List Bool) (s : ByteArray) : Option (List Fld × Int) :=
  if getE s 0 = 0 then (rdL s (getTo s 0) (sh (getX s 0))).map (fun x => (Fld.n (getX s 0) :: x.1, x.2)) else none
def getK {α : Type} (sh : Int → List Bool) (mk : List Fld → α) (may : α → Bool) (t : ByteArray) : Option α :=
  match rdK sh t with
  | some (fs, b) => if b = t.size ∧ may (mk fs) = true then some (mk fs) else none
  | none => none
theorem rdK_at {sh : Int → List Bool} {k : Int} {r : List Fld} (h : ∀ f ∈ Fld.n k :: r, f.ok = true) (hs : r.map Fld.isT = sh k) (R : ByteArray) : rdK sh (encL (.n k :: r) ++ R) = some (.n k :: r, ((encL (.n k :: r)).size : Int)) := by
  obtain ⟨k0, k1⟩ := (okNum_iff k).1 (h (.n k) (by simp))
  obtain ⟨g1, g2, g3⟩ := get_at ⟨#[]⟩ (encL r ++ R) k k0 k1
  rw [nil_ba] at g1 g2 g3
  have e : encL (.n k :: r) ++ R = numS k ++ (encL r ++ R) := by rw [encL, ba_assoc]; rfl
  rw [← e] at g1 g2 g3
  have g1' : getE (encL (.n k :: r) ++ R) 0 = 0 := g1
  have g2' : getX (encL (.n k :: r) ++ R) 0 = k := g2
  have g3' : getTo (encL (.n k :: r) ++ R) 0 = ((numS k).size : Int) := by
    have := g3
    rw [show ((⟨#[]⟩ : ByteArray).size) = 0 from rfl, Nat.zero_add] at this
    exact this
  have hr := rdL_at r (fun f hf => h f (List.mem_cons_of_mem _ hf)) (numS k) R
  rw [hs] at hr
  have e3 : (numS k ++ encL r) ++ R = encL (.n k :: r) ++ R := by rw [encL]; rfl
  rw [e3] at hr
  unfold rdK
  rw [if_pos g1', g2', g3', hr]
  have e4 : (encL (.n k :: r)).size = (numS k).size + (encL r).size := by rw [encL, ByteArray.size_append]; rfl
  rw [e4]; rfl
theorem rdK_back {sh : Int → List Bool} {t : ByteArray} {fs : List Fld} {b : Int} (h : rdK sh t = some (fs, b)) : ∃ k r, fs = .n k :: r ∧ r.map Fld.isT = sh k ∧ (∀ f ∈ fs, f.ok = true) ∧ ∃ e : Nat, b = e ∧ e ≤ t.size ∧ t.extract 0 e = encL fs := by
  unfold rdK at h
  split at h
  · rename_i hE
    obtain ⟨b0, b1, b2, b3, b4⟩ := get_bd hE
    have hnb := num_back hE
    obtain ⟨m, hm⟩ : ∃ m : Nat, getTo t 0 = m := ⟨(getTo t 0).toNat, by omega⟩
    rw [hm] at h hnb b3 b4
    cases hr : rdL t (m : Int) (sh (getX t 0)) with
    | none => rw [hr] at h; cases h
    | some y =>
      obtain ⟨fs', b'⟩ := y
      rw [hr] at h
      simp only [Option.map_some, Option.some.injEq, Prod.mk.injEq] at h
      obtain ⟨rfl, rfl⟩ := h
      obtain ⟨h1, h2, e, rfl, h3, h4, h5⟩ := rdL_back t _ m fs' b' (by omega) hr
      refine ⟨_, _, rfl, h1, ?_, e, rfl, h4, ?_⟩
      · intro f hf
        rcases List.mem_cons.1 hf with rfl | hf
        · exact (okNum_iff _).2 ⟨b0, b1⟩
        · exact h2 f hf
      · rw [encL, ← h5, show (Fld.n (getX t 0)).enc = numS (getX t 0) from rfl, ← hnb]
        exact (ext_cat t (by simp) (by simpa using h3)).symm
  · cases h
theorem codec_of {α : Type} {sh : Int → List Bool} {mk : List Fld → α} {may : α → Bool} {fl : α → List Fld}
    (h1 : ∀ p, may p = true → ∃ k r, fl p = .n k :: r ∧ r.map Fld.isT = sh k ∧ ∀ f ∈ fl p, f.ok = true) (h2 : ∀ p, may p = true → mk (fl p) = p)
    (h3 : ∀ k r, r.map Fld.isT = sh k → may (mk (.n k :: r)) = true → fl (mk (.n k :: r)) = .n k :: r) : Codec may (fun p => encL (fl p)) (getK sh mk may) := by
  have key : ∀ p, may p = true → ∀ R, rdK sh (encL (fl p) ++ R) = some (fl p, ((encL (fl p)).size : Int)) := fun p hp R => by
    obtain ⟨k, r, e, hs, hok⟩ := h1 p hp
    rw [e] at hok ⊢
    exact rdK_at hok hs R
  have hform : ∀ t p, getK sh mk may t = some p → may p = true ∧ encL (fl p) = t := by
    intro t p h
    unfold getK at h
    cases hr : rdK sh t with
    | none => rw [hr] at h; cases h
    | some y =>
      obtain ⟨fs, b⟩ := y
      rw [hr] at h
      simp only at h
      split at h
      · rename_i hc
        obtain ⟨hb, hm⟩ := hc
        have := Option.some.inj h
        subst this
        refine ⟨hm, ?_⟩
        obtain ⟨k, r, rfl, hs, _, e, he, hle, hx⟩ := rdK_back hr
        rw [h3 k r hs hm, ← hx]
        have : e = t.size := by omega
        rw [this, ext_all]
      · cases h
  refine ⟨fun p hp => ?_, hform, fun p q r hp hq e => ?_, fun p hp => ?_⟩
  · have := key p hp ⟨#[]⟩
    rw [ba_nil] at this
    unfold getK
    rw [this]
    show (if ((encL (fl p)).size : Int) = ((encL (fl p)).size : Int) ∧ may (mk (fl p)) = true then some (mk (fl p)) else none) = some p
    rw [h2 p hp, if_pos ⟨rfl, hp⟩]
  · have k1 := key p hp r
    have k2 := key q hq ⟨#[]⟩
    rw [ba_nil, ← show encL (fl p) ++ r = encL (fl q) from e, k1] at k2
    simp only [Option.some.injEq, Prod.mk.injEq] at k2
    obtain ⟨e1, e2⟩ := k2
    have e3 : p = q := by rw [← h2 p hp, ← h2 q hq, e1]
    refine ⟨e3, ?_⟩
    rw [ByteArray.size_append] at e2
    omega
  · obtain ⟨k, r, e, _, hok⟩ := h1 p hp
    rw [e] at hok
    obtain ⟨k0, k1⟩ := (okNum_iff k).1 (hok (.n k) (by simp))
    show 0 < (encL (fl p)).size
    rw [e, encL, ByteArray.size_append, show (Fld.n k).enc = numS k from rfl, numS_ok k0 k1, numB_size]
    have := (numL_len k).1
    omega

/- Reading with a flag that says that it went wrong: as the reference's Reader does. -/
def rnB (s : ByteArray) (a : Int) (b : Bool) : Bool := b || decide (getE s a ≠ 0)
def rnA (s : ByteArray) (a : Int) (b : Bool) : Int := if rnB s a b then a else getTo s a
def rnX (s : ByteArray) (a : Int) (b : Bool) : Int := if rnB s a b then 0 else getX s a
def rtB (s : ByteArray) (a : Int) (b : Bool) : Bool := b || decide (txtE s a ≠ 0)
def rtA (s : ByteArray) (a : Int) (b : Bool) : Int := if rtB s a b then a else txtTo s a
def rtX (s : ByteArray) (a : Int) (b : Bool) : ByteArray := if rtB s a b then ⟨#[]⟩ else txtS s a
def rdF (s : ByteArray) : Int → Bool → List Bool → List Fld × Int × Bool
  | a, b, [] => ([], a, b)
  | a, b, false :: r => let y := rdF s (rnA s a b) (rnB s a b) r; (.n (rnX s a b) :: y.1, y.2)
  | a, b, true :: r => let y := rdF s (rtA s a b) (rtB s a b) r; (.t (rtX s a b) :: y.1, y.2)
theorem rdF_bad (s : ByteArray) : ∀ (sh : List Bool) (a : Int), (rdF s a true sh).2.2 = true := by
  intro sh
  induction sh with
  | nil => intro a; rfl
  | cons c r ih =>
    intro a
    cases c with
    | false => show (rdF s (rnA s a true) (rnB s a true) r).2.2 = true; rw [show rnB s a true = true from rfl]; exact ih _
    | true => show (rdF s (rtA s a true) (rtB s a true) r).2.2 = true; rw [show rtB s a true = true from rfl]; exact ih _
theorem rdF_of (s : ByteArray) : ∀ (sh : List Bool) (a : Int), (∀ fs e, rdL s a sh = some (fs, e) → rdF s a false sh = (fs, e, false)) ∧ (rdL s a sh = none → (rdF s a false sh).2.2 = true) := by
  intro sh
  induction sh with
  | nil => intro a; exact ⟨fun fs e h => by simp only [rdL, Option.some.injEq, Prod.mk.injEq] at h; obtain ⟨rfl, rfl⟩ := h; rfl, fun h => by cases h⟩
  | cons c r ih =>
    intro a
    cases c with
    | false =>
      by_cases hE : getE s a = 0
      · have hb : rnB s a false = false := by simp [rnB, hE]
        obtain ⟨i1, i2⟩ := ih (getTo s a)
        have e1 : rdF s a false (false :: r) = (.n (getX s a) :: (rdF s (getTo s a) false r).1, (rdF s (getTo s a) false r).2) := by
          show (Fld.n (rnX s a false) :: (rdF s (rnA s a false) (rnB s a false) r).1, (rdF s (rnA s a false) (rnB s a false) r).2) = _
          unfold rnX rnA; rw [hb]; rfl
        rw [e1, rdL, if_pos hE]
        refine ⟨fun fs e h => ?_, fun h => ?_⟩
        · cases hr : rdL s (getTo s a) r with
          | none => rw [hr] at h; cases h
          | some y =>
            obtain ⟨fs', e'⟩ := y
            rw [hr] at h
            simp only [Option.map_some, Option.some.injEq, Prod.mk.injEq] at h
            obtain ⟨rfl, rfl⟩ := h
            rw [i1 _ _ hr]
        · cases hr : rdL s (getTo s a) r with
          | none => exact i2 hr
          | some y => rw [hr] at h; cases h
      · have hb : rnB s a false = true := by simp [rnB, hE]
        have e1 : (rdF s a false (false :: r)).2.2 = (rdF s (rnA s a false) (rnB s a false) r).2.2 := rfl
        rw [rdL, if_neg hE, e1, hb]
        exact ⟨fun fs e h => (by cases h), fun _ => rdF_bad s r _⟩
    | true =>
      by_cases hE : txtE s a = 0
      · have hb : rtB s a false = false := by simp [rtB, hE]
        obtain ⟨i1, i2⟩ := ih (txtTo s a)
        have e1 : rdF s a false (true :: r) = (.t (txtS s a) :: (rdF s (txtTo s a) false r).1, (rdF s (txtTo s a) false r).2) := by
          show (Fld.t (rtX s a false) :: (rdF s (rtA s a false) (rtB s a false) r).1, (rdF s (rtA s a false) (rtB s a false) r).2) = _
          unfold rtX rtA; rw [hb]; rfl
        rw [e1, rdL, if_pos hE]
        refine ⟨fun fs e h => ?_, fun h => ?_⟩
        · cases hr : rdL s (txtTo s a) r with
          | none => rw [hr] at h; cases h
          | some y =>
            obtain ⟨fs', e'⟩ := y
            rw [hr] at h
            simp only [Option.map_some, Option.some.injEq, Prod.mk.injEq] at h
            obtain ⟨rfl, rfl⟩ := h
            rw [i1 _ _ hr]
        · cases hr : rdL s (txtTo s a) r with
          | none => exact i2 hr
          | some y => rw [hr] at h; cases h
      · have hb : rtB s a false = true := by simp [rtB, hE]
        have e1 : (rdF s a false (true :: r)).2.2 = (rdF s (rtA s a false) (rtB s a false) r).2.2 := rfl
        rw [rdL, if_neg hE, e1, hb]
        exact ⟨fun fs e h => (by cases h), fun _ => rdF_bad s r _⟩
/-- The flagged reading tells what 'getK' does. -/
theorem getK_flag {α : Type} {sh : Int → List Bool} {mk : List Fld → α} {may : α → Bool} {t : ByteArray} (y : List Fld × Int × Bool) (hy : rdF t (rnA t 0 false) (rnB t 0 false) (sh (rnX t 0 false)) = y) :
    getK sh mk may t = if y.2.2 = false ∧ y.2.1 = t.size ∧ may (mk (.n (rnX t 0 false) :: y.1)) = true then some (mk (.n (rnX t 0 false) :: y.1)) else none := by
  subst hy
  by_cases hE : getE t 0 = 0
  · have hb : rnB t 0 false = false := by simp [rnB, hE]
    have hX : rnX t 0 false = getX t 0 := by unfold rnX; rw [hb]; rfl
    have hA : rnA t 0 false = getTo t 0 := by unfold rnA; rw [hb]; rfl
    rw [hb, hX, hA]
    obtain ⟨i1, i2⟩ := rdF_of t (sh (getX t 0)) (getTo t 0)
    unfold getK rdK
    rw [if_pos hE]
    cases hr : rdL t (getTo t 0) (sh (getX t 0)) with
    | none => rw [if_neg (fun c => by rw [i2 hr] at c; exact absurd c.1 (by decide))]; rfl
    | some y =>
      obtain ⟨fs, e⟩ := y
      rw [i1 _ _ hr]
      simp
  · have hb : rnB t 0 false = true := by simp [rnB, hE]
    rw [hb, rdF_bad, if_neg (fun c => by exact absurd c.1 (by decide))]
    unfold getK rdK
    rw [if_neg hE]
theorem rnA_bd {s : ByteArray} {a : Int} {b : Bool} (h0 : 0 ≤ a) (h1 : a ≤ s.size) : 0 ≤ rnA s a b ∧ rnA s a b ≤ s.size := by
  unfold rnA
  split
  · exact ⟨h0, h1⟩
  · rename_i h
    have hE : getE s a = 0 := by
      unfold rnB at h
      simp at h; exact h.2
    obtain ⟨_, _, b2, b3, b4⟩ := get_bd hE
    omega
theorem rtA_bd {s : ByteArray} {a : Int} {b : Bool} (h0 : 0 ≤ a) (h1 : a ≤ s.size) : 0 ≤ rtA s a b ∧ rtA s a b ≤ s.size := by
  unfold rtA
  split
  · exact ⟨h0, h1⟩
  · rename_i h
    have hE : txtE s a = 0 := by
      unfold rtB at h
      simp at h; exact h.2
    obtain ⟨k, rfl⟩ := Int.eq_ofNat_of_zero_le h0
    obtain ⟨m, e, _, h2, _⟩ := txt_back hE
    rw [e]; omega
end Go.Proofs.YtodngcpphnmphaaDoor
