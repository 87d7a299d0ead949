/- Put together: Sup, Sup2, Sup3, Jnl. Conditions: each theorem's own. -/
import Derived.Test.YtbfpfmidjdonjaaGreatDoorBpm
import Derived.Test.YtbfpfmidjdonjaaGreatDoorKplain
namespace Go.Proofs.YtbfpfmidjdonjaaGreatDoor
open Go
def markS : ByteArray := ⟨#[115, 117, 112, 101, 114]⟩
def suMay (b : Int) : Bool := decide (1 ≤ b) && decide (b ≤ 1023)
theorem suMay_iff (b : Int) : suMay b = true ↔ 1 ≤ b ∧ b ≤ 1023 := by simp [suMay]
theorem suMay_num {b : Int} (h : suMay b = true) : okNum b = true := by
  obtain ⟨h1, h2⟩ := (suMay_iff b).1 h
  exact (okNum_iff _).2 ⟨by omega, by omega⟩
def suTm (b : Int) : ByteArray := tmK cH none (markS ++ numS b)
def suSec (b own : Int) : ByteArray := padS (numS b ++ numS own)
theorem suLine_small (b own : Int) : (numS b ++ numS own).size ≤ 10 := by
  rw [ByteArray.size_append]
  have := numS_size5 b
  have := numS_size5 own
  omega
theorem suSec_size (b own : Int) : (suSec b own).size = 64 := padS_size (Nat.le_trans (suLine_small b own) (by decide))
theorem suTm_ok (b : Int) : okT (suTm b) = true := tm_ok (by rfl) none (by
  rw [ByteArray.size_append, show markS.size = 5 from rfl]
  have := numS_size5 b
  omega)
def suMk (s : ByteArray) : List Fld × Int → Option (Int × Int)
  | ([.n a, .n own], e) => if decide (s.size = 64) && suMay a && decide (s.extract e.toNat 64 = zerN (64 - e.toNat)) then some (a, own) else none
  | _ => none
def suRd (s : ByteArray) : Option (Int × Int) := (rdL s 0 [false, false]).bind (suMk s)
theorem suRd_back (b own : Int) (hb : suMay b = true) (ho : okNum own = true) : suRd (suSec b own) = some (b, own) := by
  have hl := suLine_small b own
  have hfl : ∀ f ∈ [Fld.n b, Fld.n own], f.ok = true := by
    intro f hf
    simp at hf
    rcases hf with rfl | rfl
    · exact suMay_num hb
    · exact ho
  have hat := rdL_at [Fld.n b, Fld.n own] hfl ⟨#[]⟩ (zerN (64 - (numS b ++ numS own).size))
  have he : encL [Fld.n b, Fld.n own] = numS b ++ numS own := by
    simp only [encL]
    rw [ba_nil]
    rfl
  rw [he, nil_ba] at hat
  unfold suRd
  rw [show suSec b own = (numS b ++ numS own) ++ zerN (64 - (numS b ++ numS own).size) from rfl]
  rw [show ((⟨#[]⟩ : ByteArray).size : Int) = 0 from rfl, show [Fld.n b, Fld.n own].map Fld.isT = [false, false] from rfl] at hat
  rw [hat]
  show suMk _ ([.n b, .n own], _) = _
  simp only [suMk]
  have hz := ext_pad (numS b ++ numS own) (by omega)
  have hs := suSec_size b own
  unfold suSec at hs
  have e0 : (((⟨#[]⟩ : ByteArray).size + (numS b ++ numS own).size : Nat) : Int).toNat = (numS b ++ numS own).size := by rw [Int.toNat_natCast, show (⟨#[]⟩ : ByteArray).size = 0 from rfl, Nat.zero_add]
  rw [show (numS b ++ numS own) ++ zerN (64 - (numS b ++ numS own).size) = padS (numS b ++ numS own) from rfl]
  simp only [e0, hs, hz, hb, decide_true, Bool.and_true, if_true]
theorem suRd_form {s : ByteArray} {b own : Int} (h : suRd s = some (b, own)) : suMay b = true ∧ okNum own = true ∧ s = suSec b own := by
  unfold suRd at h
  cases hr : rdL s 0 [false, false] with
  | none => rw [hr] at h; cases h
  | some x =>
  rw [hr] at h
  obtain ⟨fs, c⟩ := x
  obtain ⟨ht, hok, e, rfl, _, he, hx⟩ := rdL_back s _ 0 fs c (Nat.zero_le _) hr
  match fs, ht with
  | [.n a, .n o], _ =>
    have h' : suMk s ([.n a, .n o], (e : Int)) = some (b, own) := h
    simp only [suMk] at h'
    split at h'
    · rename_i hc
      simp only [Bool.and_eq_true, decide_eq_true_eq, Int.toNat_natCast] at hc
      obtain ⟨⟨c1, c2⟩, c4⟩ := hc
      simp only [Option.some.injEq, Prod.mk.injEq] at h'
      obtain ⟨rfl, rfl⟩ := h'
      refine ⟨c2, hok (.n o) (by simp), ?_⟩
      have hb : numS a ++ numS o = s.extract 0 e := by
        rw [hx]
        simp only [encL]
        rw [ba_nil]
        rfl
      have hsz : (s.extract 0 e).size = e := by rw [ByteArray.size_extract]; omega
      unfold suSec padS
      rw [hb, hsz, ← c4, ext_cat s (Nat.zero_le _) (by omega), ← c1, ext_all]
    · cases h'
def suFind (ts : List ByteArray) (s : ByteArray) : Option (Int × Int) := (suRd s).bind fun x => if ckI ts true (suTm x.1) x.2 then some x else none
theorem suFind_iff (ts : List ByteArray) (s : ByteArray) (b own : Int) : suFind ts s = some (b, own) ↔ suMay b = true ∧ okNum own = true ∧ s = suSec b own ∧ ckI ts true (suTm b) own = true := by
  unfold suFind
  constructor
  · intro h
    cases hr : suRd s with
    | none => rw [hr] at h; cases h
    | some x =>
      rw [hr] at h
      have h' : (if ckI ts true (suTm x.1) x.2 then some x else none) = some (b, own) := h
      split at h'
      · rename_i hc
        cases h'
        obtain ⟨a, c, d⟩ := suRd_form hr
        exact ⟨a, c, d, hc⟩
      · cases h'
  · rintro ⟨a, c, rfl, d⟩
    rw [suRd_back b own a c]
    show (if ckI ts true (suTm b) own then some (b, own) else none) = _
    rw [if_pos d]
def suOk (most : Int) (ts : List ByteArray) (b : Int) : Bool := suMay b && decide (nmE most ts (suTm b) = 0)
def suE (most : Int) (ts : List ByteArray) (b : Int) : Int := if suOk most ts b then 0 else 1000
def suT (most : Int) (ts : List ByteArray) (b : Int) : List ByteArray := if suMay b then nmT most ts (suTm b) else ts
def suS (most : Int) (ts : List ByteArray) (b : Int) : ByteArray := if suOk most ts b then suSec b (nmX most ts (suTm b)) else ⟨#[]⟩
def sgX (ts : List ByteArray) (s : ByteArray) : Int := ((suFind ts s).getD (0, 0)).1
def sgE (ts : List ByteArray) (s : ByteArray) : Int := if (suFind ts s).isSome then 0 else 1000
theorem sg_no {ts : List ByteArray} {s : ByteArray} (h : suFind ts s = none) : sgX ts s = 0 ∧ sgE ts s = 1000 := by unfold sgX sgE; rw [h]; exact ⟨rfl, rfl⟩
theorem sg_yes {ts : List ByteArray} {s : ByteArray} {x : Int × Int} (h : suFind ts s = some x) : sgX ts s = x.1 ∧ sgE ts s = 0 := by unfold sgX sgE; rw [h]; exact ⟨rfl, rfl⟩
def pkX (ts : List ByteArray) (s t : ByteArray) : Int := if sgE ts s ≠ 0 ∧ sgE ts t ≠ 0 then 0 else if sgE ts t ≠ 0 ∨ (sgE ts s = 0 ∧ sgX ts t ≤ sgX ts s) then sgX ts s else sgX ts t
def pkP (ts : List ByteArray) (s t : ByteArray) : Int := if sgE ts s ≠ 0 ∧ sgE ts t ≠ 0 then 0 else if sgE ts t ≠ 0 ∨ (sgE ts s = 0 ∧ sgX ts t ≤ sgX ts s) then 1 else 0
def pkE (ts : List ByteArray) (s t : ByteArray) : Int := if sgE ts s ≠ 0 ∧ sgE ts t ≠ 0 then 1001 else 0
theorem su_in {most : Int} {ts : List ByteArray} {b : Int} (h : suE most ts b = 0) : suMay b = true ∧ suTm b ∈ suT most ts b ∧ suS most ts b = suSec b (idx (suT most ts b) (suTm b) : Nat) := by
  unfold suE at h
  split at h
  · rename_i hk
    have hk' := hk
    unfold suOk at hk'
    simp only [Bool.and_eq_true, decide_eq_true_eq] at hk'
    obtain ⟨hm, he⟩ := hk'
    unfold suT suS
    rw [hk, hm]
    simp only [if_true]
    unfold nmE at he
    unfold nmT nmX
    rw [suTm_ok b] at he ⊢
    simp only [if_true] at he ⊢
    cases hb : isB ts (suTm b) with
    | true => simp only [if_true]; exact ⟨trivial, (isB_iff _ _).1 hb, trivial⟩
    | false =>
      rw [hb] at he
      simp only [Bool.false_eq_true, if_false] at he ⊢
      by_cases hl : (ts.length : Int) < most
      · rw [if_pos hl, if_pos hl]
        exact ⟨trivial, by simp, by rw [idx_snoc_new ((isB_not _ _).1 hb)]⟩
      · rw [if_neg hl] at he; cases he
  · cases h
theorem su_no {most : Int} {ts : List ByteArray} {b : Int} (h : suE most ts b ≠ 0) : suE most ts b = 1000 ∧ suS most ts b = ⟨#[]⟩ := by
  unfold suE at h ⊢
  unfold suS
  split at h
  · exact absurd rfl h
  · rename_i hk
    rw [if_neg hk, if_neg hk]
    exact ⟨rfl, rfl⟩
theorem suT_keep {most : Int} {ts : List ByteArray} (b : Int) {t : ByteArray} (h : t ∈ ts) : t ∈ suT most ts b ∧ idx (suT most ts b) t = idx ts t := by
  unfold suT
  split
  · unfold nmT
    split
    · split
      · exact ⟨h, rfl⟩
      · split
        · exact ⟨by simp [h], idx_snoc_other h⟩
        · exact ⟨h, rfl⟩
    · exact ⟨h, rfl⟩
  · exact ⟨h, rfl⟩
open Go
structure SuV (s : ByteArray) (v1 v2 a2 : Int) (bad : Bool) : Prop where
  no : bad = true → suRd s = none
  yes : bad = false → suRd s = suMk s ([.n v1, .n v2], a2)
theorem suv (s : ByteArray) : SuV s (rnX s 0 false) (rnX s (rnA s 0 false) (rnB s 0 false)) (rnA s (rnA s 0 false) (rnB s 0 false)) (rnB s (rnA s 0 false) (rnB s 0 false)) := by
  have h2 := rdF_flag (s := s) (sh := [false, false]) (a := 0) rfl
  simp only [rdF] at h2
  refine ⟨fun hb => ?_, fun hb => ?_⟩
  · unfold suRd; rw [h2.2 hb]; rfl
  · unfold suRd; rw [h2.1 hb]; rfl
theorem SuV.find {s : ByteArray} {v1 v2 a2 : Int} (h : SuV s v1 v2 a2 false) (h1 : s.size = 64) (h2 : suMay v1 = true) (h4 : s.extract a2.toNat 64 = zerN (64 - a2.toNat)) (ts : List ByteArray) :
    suFind ts s = if ckI ts true (suTm v1) v2 then some (v1, v2) else none := by
  have hr := h.yes rfl
  simp only [suMk, h1, h2, h4, decide_true, Bool.and_true, if_true] at hr
  unfold suFind
  rw [hr]
  rfl
theorem SuV.none {s : ByteArray} {v1 v2 a2 : Int} {bad : Bool} (h : SuV s v1 v2 a2 bad) (hc : s.size ≠ 64 ∨ bad = true ∨ suMay v1 = false ∨ s.extract a2.toNat 64 ≠ zerN (64 - a2.toNat)) (ts : List ByteArray) : suFind ts s = Option.none := by
  have hr : suRd s = Option.none := by
    cases bad with
    | true => exact h.no rfl
    | false =>
      rw [h.yes rfl]
      simp only [suMk]
      rw [if_neg]
      simp only [Bool.and_eq_true, decide_eq_true_eq]
      rintro ⟨⟨c1, c2⟩, c4⟩
      rcases hc with e | e | e | e
      · exact e c1
      · cases e
      · rw [e] at c2; cases c2
      · exact e c4
  unfold suFind
  rw [hr]
  rfl
def rdS (s : ByteArray) : Option (Int × Int) := if getE s 0 = 0 then (if getE s (getTo s 0) = 0 then some (getX s 0, getX s (getTo s 0)) else none) else none
theorem rdS_of {s : ByteArray} {b own : Int} (h : suRd s = some (b, own)) : rdS s = some (b, own) := by
  unfold suRd at h
  unfold rdS
  by_cases e1 : getE s 0 = 0
  · by_cases e2 : getE s (getTo s 0) = 0
    · simp only [rdL, if_pos e1, if_pos e2, Option.map_some, Option.bind_some, suMk] at h
      rw [if_pos e1, if_pos e2]
      split at h
      · exact h
      · cases h
    · simp only [rdL, if_pos e1, if_neg e2, Option.map_none, Option.bind_none] at h; cases h
  · simp only [rdL, if_neg e1, Option.bind_none] at h; cases h
theorem rdS_num {s : ByteArray} {b own : Int} (h : rdS s = some (b, own)) : okNum b = true ∧ okNum own = true := by
  unfold rdS at h
  split at h
  · split at h
    · rename_i e1 e2
      obtain ⟨b0, b1, _⟩ := get_bd e1
      obtain ⟨c0, c1, _⟩ := get_bd e2
      simp only [Option.some.injEq, Prod.mk.injEq] at h
      rw [← h.1, ← h.2]
      exact ⟨(okNum_iff _).2 ⟨b0, b1⟩, (okNum_iff _).2 ⟨c0, c1⟩⟩
    · cases h
  · cases h
theorem find_S (ts : List ByteArray) (s : ByteArray) : suFind ts s = (rdS s).bind fun x => if suMay x.1 && ckI ts true (suTm x.1) x.2 && decide (suSec x.1 x.2 = s) then some x else none := by
  cases hp : rdS s with
  | none =>
    cases hf : suFind ts s with
    | none => rfl
    | some y =>
      obtain ⟨r, own⟩ := y
      obtain ⟨a, b, c, _⟩ := (suFind_iff ts s r own).1 hf
      have := rdS_of (c ▸ suRd_back r own a b)
      rw [hp] at this; cases this
  | some x =>
    obtain ⟨r, own⟩ := x
    show _ = if suMay r && ckI ts true (suTm r) own && decide (suSec r own = s) then some (r, own) else none
    split
    · rename_i hc
      simp only [Bool.and_eq_true, decide_eq_true_eq] at hc
      exact (suFind_iff ts s r own).2 ⟨hc.1.1, (rdS_num hp).2, hc.2.symm, hc.1.2⟩
    · rename_i hc
      cases hf : suFind ts s with
      | none => rfl
      | some y =>
        obtain ⟨q, o⟩ := y
        obtain ⟨a, b, c, d⟩ := (suFind_iff ts s q o).1 hf
        have := rdS_of (c ▸ suRd_back q o a b)
        rw [hp] at this
        cases this
        refine absurd ?_ hc
        simp only [Bool.and_eq_true, decide_eq_true_eq]
        exact ⟨⟨a, d⟩, c.symm⟩
theorem sg_cases (ts : List ByteArray) (s : ByteArray) : (sgE ts s = 0 ∧ 1 ≤ sgX ts s ∧ sgX ts s ≤ 1023) ∨ (sgE ts s = 1000 ∧ sgX ts s = 0) := by
  cases hf : suFind ts s with
  | none => obtain ⟨a, b⟩ := sg_no hf; exact .inr ⟨b, a⟩
  | some x =>
    obtain ⟨a, b⟩ := sg_yes hf
    obtain ⟨c, _⟩ := (suFind_iff ts s x.1 x.2).1 hf
    have := (suMay_iff x.1).1 c
    rw [a, b]
    exact .inl ⟨rfl, this.1, this.2⟩
theorem pk_none {ts : List ByteArray} {s t : ByteArray} (h1 : sgE ts s = 1000) (h2 : sgE ts t = 1000) : pkX ts s t = 0 ∧ pkP ts s t = 0 ∧ pkE ts s t = 1001 := by
  unfold pkX pkP pkE; rw [h1, h2]; simp
theorem pk_one {ts : List ByteArray} {s t : ByteArray} (h1 : sgE ts s = 0) (h2 : sgE ts t = 1000) : pkX ts s t = sgX ts s ∧ pkP ts s t = 1 ∧ pkE ts s t = 0 := by
  unfold pkX pkP pkE; rw [h1, h2]; simp
theorem pk_two {ts : List ByteArray} {s t : ByteArray} (h1 : sgE ts s = 1000) (h2 : sgE ts t = 0) : pkX ts s t = sgX ts t ∧ pkP ts s t = 0 ∧ pkE ts s t = 0 := by
  unfold pkX pkP pkE; rw [h1, h2]; simp
theorem pk_ge {ts : List ByteArray} {s t : ByteArray} (h1 : sgE ts s = 0) (h2 : sgE ts t = 0) (h : sgX ts t ≤ sgX ts s) : pkX ts s t = sgX ts s ∧ pkP ts s t = 1 ∧ pkE ts s t = 0 := by
  unfold pkX pkP pkE; rw [h1, h2]; simp [h]
theorem pk_lt {ts : List ByteArray} {s t : ByteArray} (h1 : sgE ts s = 0) (h2 : sgE ts t = 0) (h : sgX ts s < sgX ts t) : pkX ts s t = sgX ts t ∧ pkP ts s t = 0 ∧ pkE ts s t = 0 := by
  unfold pkX pkP pkE; rw [h1, h2]; simp [show ¬ sgX ts t ≤ sgX ts s by omega]
open Go
theorem su_get {ts : List ByteArray} {b : Int} (hm : suMay b = true) (hi : suTm b ∈ ts) (hl : ts.length ≤ 1000000) : sgX ts (suSec b (idx ts (suTm b) : Nat)) = b ∧ sgE ts (suSec b (idx ts (suTm b) : Nat)) = 0 := by
  have hlt := idx_lt hi
  exact sg_yes ((suFind_iff ts _ b _).2 ⟨hm, (okNum_iff _).2 ⟨by omega, by omega⟩, rfl, ckI_of hi⟩)
theorem su_size {most : Int} {ts : List ByteArray} {b : Int} (h : suE most ts b = 0) : (suS most ts b).size = 64 := by
  rw [(su_in h).2.2]; exact suSec_size _ _
structure Stand (ts : List ByteArray) (b : Int) (s : ByteArray) : Prop where
  may : suMay b = true
  mem : suTm b ∈ ts
  eq : s = suSec b (idx ts (suTm b) : Nat)
theorem Stand.made {most : Int} {ts : List ByteArray} {b : Int} (h : suE most ts b = 0) : Stand (suT most ts b) b (suS most ts b) := by
  obtain ⟨h1, h2, h3⟩ := su_in h
  exact ⟨h1, h2, h3⟩
theorem Stand.keep {ts : List ByteArray} {b : Int} {s : ByteArray} (h : Stand ts b s) (most : Int) (c : Int) : Stand (suT most ts c) b s := by
  obtain ⟨k1, k2⟩ := suT_keep (most := most) c h.mem
  exact ⟨h.may, k1, by rw [k2]; exact h.eq⟩
theorem Stand.get {ts : List ByteArray} {b : Int} {s : ByteArray} (h : Stand ts b s) (hl : ts.length ≤ 1000000) : sgX ts s = b ∧ sgE ts s = 0 := by
  rw [h.eq]; exact su_get h.may h.mem hl
theorem Stand.size {ts : List ByteArray} {b : Int} {s : ByteArray} (h : Stand ts b s) : s.size = 64 := by rw [h.eq]; exact suSec_size _ _
theorem Stand.ne {ts : List ByteArray} {b c : Int} {s t : ByteArray} (h : Stand ts b s) (g : Stand ts c t) (hl : ts.length ≤ 1000000) (hn : b ≠ c) : s ≠ t := by
  intro e
  have h1 := (h.get hl).1
  rw [e, (g.get hl).1] at h1
  exact hn h1.symm
open Go
def Grow (ts ts' : List ByteArray) : Prop := ∀ t ∈ ts, t ∈ ts' ∧ idx ts' t = idx ts t
theorem Grow.refl (ts : List ByteArray) : Grow ts ts := fun _ h => ⟨h, rfl⟩
theorem Grow.trans {a b c : List ByteArray} (h : Grow a b) (g : Grow b c) : Grow a c := fun t ht => by
  obtain ⟨h1, h2⟩ := h t ht
  obtain ⟨g1, g2⟩ := g t h1
  exact ⟨g1, by rw [g2, h2]⟩
theorem Grow.rc (most : Int) (ts : List ByteArray) (r : Rc) : Grow ts (rcT most ts r) := fun _ ht => rcT_keep r ht
theorem rgOk_iff (ts : List ByteArray) (s : ByteArray) (seq prev : Int) (r : Rc) (own : Int) : rgOk ts s seq prev = some (r, own) ↔ r.may = true ∧ okNum own = true ∧ s = r.sec own ∧ ckI ts true r.tm own = true ∧ r.seq = seq ∧ r.prev = prev := by
  unfold rgOk
  constructor
  · intro h
    cases hf : rcFind ts s with
    | none => rw [hf] at h; cases h
    | some x =>
      rw [hf] at h
      have h' : (if decide (x.1.seq = seq) && decide (x.1.prev = prev) then some x else none) = some (r, own) := h
      split at h'
      · rename_i hc
        simp only [Bool.and_eq_true, decide_eq_true_eq] at hc
        cases h'
        obtain ⟨a, b, c, d⟩ := (rcFind_iff ts s r own).1 hf
        exact ⟨a, b, c, d, hc.1, hc.2⟩
      · cases h'
  · rintro ⟨a, b, c, d, e, f⟩
    rw [(rcFind_iff ts s r own).2 ⟨a, b, c, d⟩]
    show (if decide (r.seq = seq) && decide (r.prev = prev) then some (r, own) else none) = _
    rw [if_pos (by simp [e, f])]
theorem rgOk_yes {ts : List ByteArray} {s : ByteArray} {seq prev : Int} {x : Rc × Int} (h : rgOk ts s seq prev = some x) : rgE ts s seq prev = 0 ∧ rgR ts s seq prev = x.1 ∧ rgN ts s seq prev = x.2 := by
  have hf : (rcFind ts s).isSome = true := by
    unfold rgOk at h
    cases hf : rcFind ts s with
    | none => rw [hf] at h; cases h
    | some y => rfl
  unfold rgE rgR rgN
  rw [h, hf]
  exact ⟨rfl, rfl, rfl⟩
theorem rgOk_no {ts : List ByteArray} {s : ByteArray} {seq prev : Int} (h : rgOk ts s seq prev = none) : rgE ts s seq prev ≠ 0 ∧ rgR ts s seq prev = Rc.zero ∧ rgN ts s seq prev = 0 := by
  unfold rgE rgR rgN
  rw [h]
  refine ⟨?_, rfl, rfl⟩
  split
  · rw [if_neg (by simp)]; decide
  · decide
theorem ckI_keep {ts ts' : List ByteArray} {t : ByteArray} {own : Int} (h : ckI ts true t own = true) (hg : Grow ts ts') : ckI ts' true t own = true := by
  obtain ⟨h1, h2⟩ := ckI_in h
  obtain ⟨g1, g2⟩ := hg t h1
  rw [h2, ← g2]
  exact ckI_of g1
theorem rgOk_keep {ts ts' : List ByteArray} {s : ByteArray} {seq prev : Int} {x : Rc × Int} (h : rgOk ts s seq prev = some x) (hg : Grow ts ts') : rgOk ts' s seq prev = some x := by
  obtain ⟨r, own⟩ := x
  obtain ⟨a, b, c, d, e, f⟩ := (rgOk_iff _ _ _ _ _ _).1 h
  exact (rgOk_iff _ _ _ _ _ _).2 ⟨a, b, c, ckI_keep d hg, e, f⟩
theorem rgOk_put {most : Int} {ts ts' : List ByteArray} {r : Rc} (h : rcE most ts r = 0) (hg : Grow (rcT most ts r) ts') (hl : ts'.length ≤ 1000000) : rgOk ts' (rcS most ts r) r.seq r.prev = some (r, rcN most ts r) := by
  obtain ⟨h1, h2, h3, h4⟩ := put_in h
  obtain ⟨g1, g2⟩ := hg _ h2
  rw [h4, h3, ← g2]
  exact (rgOk_iff _ _ _ _ _ _).2 ⟨h1, idx_ok g1 hl, rfl, ckI_of g1, rfl, rfl⟩
def jnGo (ts : List ByteArray) : List ByteArray → Nat → Int → List Ev × Int
  | [], _, l => ([], l)
  | s :: r, n, l => match rgOk ts s ((n : Int) + 1) l with
    | some x => (x.1.ev :: (jnGo ts r (n + 1) x.2).1, (jnGo ts r (n + 1) x.2).2)
    | none => ([], l)
def Chain (ts : List ByteArray) : List ByteArray → Nat → Int → List Ev → Int → Prop
  | _, _, l, [], l' => l' = l
  | [], _, _, _ :: _, _ => False
  | s :: r, n, l, e :: es, l' => ∃ x, rgOk ts s ((n : Int) + 1) l = some x ∧ x.1.ev = e ∧ Chain ts r (n + 1) x.2 es l'
def Stop (ts : List ByteArray) (L : List ByteArray) (n : Nat) (l : Int) : Prop := ∀ s, L.head? = some s → rgOk ts s ((n : Int) + 1) l = none
theorem Chain.nil {ts L : List ByteArray} {n : Nat} {l l' : Int} : Chain ts L n l [] l' ↔ l' = l := by cases L <;> rfl
theorem jnGo_chain (ts : List ByteArray) (L : List ByteArray) (n : Nat) (l : Int) : Chain ts L n l (jnGo ts L n l).1 (jnGo ts L n l).2 ∧ Stop ts (L.drop (jnGo ts L n l).1.length) (n + (jnGo ts L n l).1.length) (jnGo ts L n l).2 := by
  induction L generalizing n l with
  | nil => exact ⟨Chain.nil.2 rfl, fun s h => by cases h⟩
  | cons s r ih =>
    cases hx : rgOk ts s ((n : Int) + 1) l with
    | none =>
      have e : jnGo ts (s :: r) n l = ([], l) := by unfold jnGo; rw [hx]
      rw [e]
      exact ⟨Chain.nil.2 rfl, fun t ht => by cases ht; exact hx⟩
    | some x =>
      have e : jnGo ts (s :: r) n l = (x.1.ev :: (jnGo ts r (n + 1) x.2).1, (jnGo ts r (n + 1) x.2).2) := by conv => lhs; unfold jnGo; rw [hx]
      rw [e]
      obtain ⟨h1, h2⟩ := ih (n + 1) x.2
      refine ⟨⟨x, hx, rfl, h1⟩, ?_⟩
      simp only [List.length_cons, List.drop_succ_cons]
      rw [show n + ((jnGo ts r (n + 1) x.2).1.length + 1) = n + 1 + (jnGo ts r (n + 1) x.2).1.length by omega]
      exact h2
theorem Chain.keep {ts ts' : List ByteArray} (hg : Grow ts ts') {es : List Ev} {L : List ByteArray} {n : Nat} {l l' : Int} (h : Chain ts L n l es l') : Chain ts' L n l es l' := by
  induction es generalizing L n l with
  | nil => rw [Chain.nil] at h ⊢; exact h
  | cons e es ih =>
    cases L with
    | nil => exact h.elim
    | cons s r =>
      obtain ⟨x, hx, he, hc⟩ := h
      exact ⟨x, rgOk_keep hx hg, he, ih hc⟩
theorem Chain.len {ts : List ByteArray} {es : List Ev} {L : List ByteArray} {n : Nat} {l l' : Int} (h : Chain ts L n l es l') : es.length ≤ L.length := by
  induction es generalizing L n l with
  | nil => exact Nat.zero_le _
  | cons e es ih =>
    cases L with
    | nil => exact h.elim
    | cons s r =>
      obtain ⟨x, _, _, hc⟩ := h
      have := ih hc
      simp only [List.length_cons]; omega
theorem Chain.on {ts : List ByteArray} {es : List Ev} {L M : List ByteArray} {n : Nat} {l l' : Int} (h : Chain ts L n l es l') (hm : M.take es.length = L.take es.length) : Chain ts M n l es l' := by
  induction es generalizing L M n l with
  | nil => rw [Chain.nil] at h ⊢; exact h
  | cons e es ih =>
    cases L with
    | nil => exact h.elim
    | cons s r =>
      cases M with
      | nil => simp at hm
      | cons t q =>
        simp only [List.length_cons, List.take_succ_cons, List.cons.injEq] at hm
        obtain ⟨rfl, hm⟩ := hm
        obtain ⟨x, hx, he, hc⟩ := h
        exact ⟨x, hx, he, ih hc hm⟩
theorem Chain.app {ts : List ByteArray} {es fs : List Ev} {A B : List ByteArray} {n : Nat} {l l1 l2 : Int} (h : Chain ts A n l es l1) (hl : A.length = es.length) (g : Chain ts B (n + es.length) l1 fs l2) : Chain ts (A ++ B) n l (es ++ fs) l2 := by
  induction es generalizing A n l with
  | nil =>
    rw [Chain.nil] at h
    subst h
    have : A = [] := List.length_eq_zero_iff.1 hl
    subst this
    exact g
  | cons e es ih =>
    cases A with
    | nil => exact h.elim
    | cons s r =>
      obtain ⟨x, hx, he, hc⟩ := h
      refine ⟨x, hx, he, ih hc (by simpa using hl) ?_⟩
      rw [show n + 1 + es.length = n + (e :: es).length by simp only [List.length_cons]; omega]
      exact g
structure Jn where
  boot : Int
  last : Int
  all : List Ev
  over : Bool
def jpGo (most boot : Int) : List ByteArray → Nat → Int → List Ev → List ByteArray × Option (List ByteArray × Int)
  | ts, _, l, [] => (ts, some ([], l))
  | ts, n, l, e :: es =>
    if rcE most ts ⟨(n : Int) + 1, boot, l, e⟩ = 0 then
      ((jpGo most boot (rcT most ts ⟨(n : Int) + 1, boot, l, e⟩) (n + 1) (rcN most ts ⟨(n : Int) + 1, boot, l, e⟩) es).1,
        (jpGo most boot (rcT most ts ⟨(n : Int) + 1, boot, l, e⟩) (n + 1) (rcN most ts ⟨(n : Int) + 1, boot, l, e⟩) es).2.map fun z => (rcS most ts ⟨(n : Int) + 1, boot, l, e⟩ :: z.1, z.2))
    else (rcT most ts ⟨(n : Int) + 1, boot, l, e⟩, none)
theorem jpGo_grow (most boot : Int) (es : List Ev) (ts : List ByteArray) (n : Nat) (l : Int) : Grow ts (jpGo most boot ts n l es).1 ∧ (jpGo most boot ts n l es).1.length ≤ ts.length + es.length := by
  induction es generalizing ts n l with
  | nil => exact ⟨Grow.refl _, Nat.le_refl _⟩
  | cons e es ih =>
    have hr := Grow.rc most ts ⟨(n : Int) + 1, boot, l, e⟩
    have hl := rcT_len (most := most) (ts := ts) ⟨(n : Int) + 1, boot, l, e⟩
    unfold jpGo
    split
    · obtain ⟨h1, h2⟩ := ih (rcT most ts ⟨(n : Int) + 1, boot, l, e⟩) (n + 1) (rcN most ts ⟨(n : Int) + 1, boot, l, e⟩)
      exact ⟨hr.trans h1, by simp only [List.length_cons]; omega⟩
    · exact ⟨hr, by simp only [List.length_cons]; omega⟩
theorem rcS_ok {most : Int} {ts : List ByteArray} {r : Rc} (h : rcE most ts r = 0) : (rcS most ts r).size = 64 := by
  rw [(put_in h).2.2.2]; exact r.sec_size _
theorem jpGo_chain {most boot : Int} {es : List Ev} {ts : List ByteArray} {n : Nat} {l : Int} {ss : List ByteArray} {l' : Int} (h : (jpGo most boot ts n l es).2 = some (ss, l')) :
    ss.length = es.length ∧ (∀ s ∈ ss, s.size = 64) ∧ ∀ ts', Grow (jpGo most boot ts n l es).1 ts' → ts'.length ≤ 1000000 → Chain ts' ss n l es l' := by
  induction es generalizing ts n l ss with
  | nil =>
    cases h
    exact ⟨rfl, (fun s hs => by cases hs), fun ts' _ _ => Chain.nil.2 rfl⟩
  | cons e es ih =>
    unfold jpGo at h ⊢
    split at h
    · rename_i hE
      rw [if_pos hE]
      simp only at h ⊢
      cases hz : (jpGo most boot (rcT most ts ⟨(n : Int) + 1, boot, l, e⟩) (n + 1) (rcN most ts ⟨(n : Int) + 1, boot, l, e⟩) es).2 with
      | none => rw [hz] at h; cases h
      | some z =>
        rw [hz] at h
        cases h
        obtain ⟨h1, h2, h3⟩ := ih hz
        refine ⟨by simp [h1], fun s hs => ?_, fun ts' hg hl => ?_⟩
        · rcases List.mem_cons.1 hs with rfl | c
          · exact rcS_ok hE
          · exact h2 s c
        · exact ⟨_, rgOk_put hE ((jpGo_grow most boot es _ (n + 1) _).1.trans hg) hl, rfl, h3 ts' hg hl⟩
    · cases h
def setAll : List ByteArray → Nat → List ByteArray → List ByteArray
  | L, _, [] => L
  | L, i, s :: r => setAll (L.set i s) (i + 1) r
def wrAll : Dk → Nat → List ByteArray → Dk
  | d, _, [] => d
  | d, i, s :: r => wrAll (d.wr (i : Int) s) (i + 1) r
theorem Dk.wr_yes {d : Dk} {i : Nat} {s : ByteArray} (hd : d.down = false) (hi : i < d.kept.length) (hs : s.size = 64) : d.wr (i : Int) s = { d with waits := d.waits ++ [(i, s)] } := by
  unfold Dk.wr
  rw [if_neg (by simp [hd]), if_pos (by simp [Dk.has, hs]; omega), Int.toNat_natCast]
theorem wrAll_yes (ss : List ByteArray) (d : Dk) (i : Nat) (hd : d.down = false) (hi : i + ss.length ≤ d.kept.length) (hs : ∀ s ∈ ss, s.size = 64) :
    (wrAll d i ss).kept = d.kept ∧ (wrAll d i ss).down = false ∧ (wrAll d i ss).see = setAll d.see i ss ∧ (wrAll d i ss).waits.length = d.waits.length + ss.length := by
  induction ss generalizing d i with
  | nil => exact ⟨rfl, hd, rfl, rfl⟩
  | cons s r ih =>
    simp only [List.length_cons] at hi
    have h1 := Dk.wr_yes hd (show i < d.kept.length by omega) (hs s (by simp))
    unfold wrAll
    rw [h1]
    obtain ⟨a, b, c, e⟩ := ih { d with waits := d.waits ++ [(i, s)] } (i + 1) hd (by show i + 1 + r.length ≤ d.kept.length; omega) (fun t ht => hs t (by simp [ht]))
    refine ⟨a, b, ?_, by rw [e]; simp only [List.length_append, List.length_cons, List.length_nil]; omega⟩
    rw [c]
    show setAll (keepAll d.kept (d.waits ++ [(i, s)])) (i + 1) r = setAll (d.see.set i s) (i + 1) r
    rw [keepAll_snoc]
    rfl
def joB (ts : List ByteArray) (d : Dk) : Int := pkX ts (d.rdS 0) (d.rdS 1) + 1
def joP (ts : List ByteArray) (d : Dk) : Int := pkP ts (d.rdS 0) (d.rdS 1)
def joE (most : Int) (ts : List ByteArray) (d : Dk) : Int := if d.down then 1102 else if d.kept.length < 3 then 1100 else if suE most ts (joB ts d) = 0 then 0 else 1101
def joT (most : Int) (ts : List ByteArray) (d : Dk) : List ByteArray := if d.down then ts else if d.kept.length < 3 then ts else suT most ts (joB ts d)
def joD (most : Int) (ts : List ByteArray) (d : Dk) : Dk := if joE most ts d = 0 then (d.wr (joP ts d) (suS most ts (joB ts d))).fl else d
def joJ (most : Int) (ts : List ByteArray) (d : Dk) : Jn := ⟨joB ts d, (jnGo (joT most ts d) ((joD most ts d).see.drop 2) 0 0).2, (jnGo (joT most ts d) ((joD most ts d).see.drop 2) 0 0).1, false⟩
def jpE (most : Int) (ts : List ByteArray) (J : Jn) (d : Dk) (es : List Ev) : Int :=
  if J.over || d.down then 1102 else if es.all Ev.may = false then 1100 else if (d.kept.length : Int) - 2 - J.all.length < es.length then 1101 else if (jpGo most J.boot ts J.all.length J.last es).2.isSome then 0 else 1101
def jpT (most : Int) (ts : List ByteArray) (J : Jn) (d : Dk) (es : List Ev) : List ByteArray :=
  if J.over || d.down then ts else if es.all Ev.may = false then ts else if (d.kept.length : Int) - 2 - J.all.length < es.length then ts else (jpGo most J.boot ts J.all.length J.last es).1
def jpS (most : Int) (ts : List ByteArray) (J : Jn) (es : List Ev) : List ByteArray := ((jpGo most J.boot ts J.all.length J.last es).2.getD ([], 0)).1
def jpL (most : Int) (ts : List ByteArray) (J : Jn) (es : List Ev) : Int := ((jpGo most J.boot ts J.all.length J.last es).2.getD ([], 0)).2
def wtD (most : Int) (ts : List ByteArray) (J : Jn) (d : Dk) (es : List Ev) : Dk := if jpE most ts J d es = 0 then wrAll d (2 + J.all.length) (jpS most ts J es) else d
def wtJ (most : Int) (ts : List ByteArray) (J : Jn) (d : Dk) (es : List Ev) : Jn := if jpE most ts J d es = 0 then { J with over := true } else J
def apD (most : Int) (ts : List ByteArray) (J : Jn) (d : Dk) (es : List Ev) : Dk := if jpE most ts J d es = 0 then (wrAll d (2 + J.all.length) (jpS most ts J es)).fl else d
def apJ (most : Int) (ts : List ByteArray) (J : Jn) (d : Dk) (es : List Ev) : Jn := if jpE most ts J d es = 0 then { J with last := jpL most ts J es, all := J.all ++ es } else J
end Go.Proofs.YtbfpfmidjdonjaaGreatDoor
