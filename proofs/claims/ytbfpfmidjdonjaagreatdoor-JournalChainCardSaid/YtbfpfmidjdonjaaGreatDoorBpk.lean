/- Put together: Jinv, Jmix, Jcra, Jsafe, Jcalm, Japp, Jwr, Jlp, Jsp, Jol, Jkp. Conditions: each theorem's own. -/
import Derived.Test.YtbfpfmidjdonjaaGreatDoorBpj
namespace Go.Proofs.YtbfpfmidjdonjaaGreatDoor
open Go

theorem at_app {a c : ByteArray} {i : Nat} (h : i < a.size) : (a ++ c).data.toList[i]? = a.data.toList[i]? := by
  rw [ByteArray.data_append, Array.toList_append]
  exact List.getElem?_append_left (by rw [Array.length_toList]; exact h)
theorem mark_ne (r : Rc) (b : Int) : r.tm ≠ suTm b := fun h => by
  have h1 : markR ++ r.body = markS ++ numS b := tm_inj0 h
  have h2 := congrArg (fun s : ByteArray => s.data.toList[0]?) h1
  replace h2 : (markR ++ r.body).data.toList[0]? = (markS ++ numS b).data.toList[0]? := h2
  rw [at_app (by decide), at_app (by decide)] at h2
  exact absurd h2 (by decide)
/-- What a book holds of records: none of a later boot, each with its forerunner's name less than its own, of the boot itself none behind the n-th. -/
structure BkI (ts : List ByteArray) (b : Int) (n : Nat) : Prop where
  boot : ∀ r : Rc, r.may = true → r.tm ∈ ts → r.boot ≤ b
  prev : ∀ r : Rc, r.may = true → r.tm ∈ ts → r.prev < (idx ts r.tm : Nat)
  seq : ∀ r : Rc, r.may = true → r.tm ∈ ts → r.boot = b → r.seq ≤ (n : Int)
theorem BkI.more {ts : List ByteArray} {b : Int} {n m : Nat} (h : BkI ts b n) (hm : n ≤ m) : BkI ts b m := ⟨h.boot, h.prev, fun r a c d => by have := h.seq r a c d; omega⟩
theorem BkI.su {ts : List ByteArray} {b c : Int} {n : Nat} (h : BkI ts b n) (most : Int) (hc : b < c) (m : Nat) : BkI (suT most ts c) c m := by
  have key : ∀ r : Rc, r.tm ∈ suT most ts c → r.tm ∈ ts := fun r hr => by
    rcases suT_mem hr with a | a
    · exact a
    · exact absurd a (mark_ne r c)
  refine ⟨fun r hm hr => ?_, fun r hm hr => ?_, fun r hm hr hb => ?_⟩
  · have := h.boot r hm (key r hr); omega
  · rw [(suT_keep (most := most) c (key r hr)).2]; exact h.prev r hm (key r hr)
  · have := h.boot r hm (key r hr); omega
theorem BkI.none {ts : List ByteArray} (h : ∀ r : Rc, r.tm ∉ ts) (b : Int) (n : Nat) : BkI ts b n := ⟨fun r _ hr => absurd hr (h r), fun r _ hr => absurd hr (h r), fun r _ hr => absurd hr (h r)⟩
/-- A record of the boot, the next one: it is named anew. -/
theorem BkI.rc {most : Int} {ts : List ByteArray} {b l : Int} {n : Nat} {e : Ev} (h : BkI ts b n) (hm : (Rc.mk ((n : Int) + 1) b l e).may = true) (hr : (ts.length : Int) < most) (hl : l < ts.length) :
    rcE most ts ⟨(n : Int) + 1, b, l, e⟩ = 0 ∧ rcN most ts ⟨(n : Int) + 1, b, l, e⟩ = ts.length ∧ rcT most ts ⟨(n : Int) + 1, b, l, e⟩ = ts ++ [(Rc.mk ((n : Int) + 1) b l e).tm] ∧ BkI (ts ++ [(Rc.mk ((n : Int) + 1) b l e).tm]) b (n + 1) := by
  have hn : (Rc.mk ((n : Int) + 1) b l e).tm ∉ ts := fun c => by have := h.seq _ hm c rfl; simp only at this; omega
  have hb := (isB_not _ _).2 hn
  have hE : nmE most ts (Rc.mk ((n : Int) + 1) b l e).tm = 0 := by unfold nmE; rw [Rc.tm_ok, hb, if_pos hr]; simp
  have hX : nmX most ts (Rc.mk ((n : Int) + 1) b l e).tm = ts.length := by unfold nmX; rw [Rc.tm_ok, hb, if_pos hr]; simp
  have hT : nmT most ts (Rc.mk ((n : Int) + 1) b l e).tm = ts ++ [(Rc.mk ((n : Int) + 1) b l e).tm] := by unfold nmT; rw [Rc.tm_ok, hb, if_pos hr]; simp
  have hk : rcOk most ts ⟨(n : Int) + 1, b, l, e⟩ = true := by unfold rcOk; rw [hm, hE]; rfl
  refine ⟨by unfold rcE; rw [hk]; rfl, by unfold rcN; rw [hk, hX]; rfl, by unfold rcT; rw [hm, hT]; rfl, ?_⟩
  have key : ∀ q : Rc, q.may = true → q.tm ∈ ts ++ [(Rc.mk ((n : Int) + 1) b l e).tm] → q.tm ∈ ts ∨ q = ⟨(n : Int) + 1, b, l, e⟩ := fun q hq hi => by
    rcases List.mem_append.1 hi with a | a
    · exact .inl a
    · exact .inr (Rc.tm_inj hq hm (by simpa using a))
  refine ⟨fun q hq hi => ?_, fun q hq hi => ?_, fun q hq hi hb => ?_⟩
  · rcases key q hq hi with a | rfl
    · exact h.boot q hq a
    · exact Int.le_refl _
  · rcases key q hq hi with a | rfl
    · rw [idx_snoc_other a]; exact h.prev q hq a
    · rw [idx_snoc_new hn]; exact hl
  · rcases key q hq hi with a | rfl
    · have := h.seq q hq a hb; omega
    · show (n : Int) + 1 ≤ ((n + 1 : Nat) : Int); omega
/-- Nothing is accepted behind the newest name. -/
theorem BkI.stop {T : List ByteArray} {b l : Int} {n : Nat} (h : BkI T b n) (hl : l + 1 = T.length) (L : List ByteArray) (m : Nat) : Stop T L m l := fun s _ => by
  cases hx : rgOk T s ((m : Int) + 1) l with
  | none => rfl
  | some x =>
    obtain ⟨r, own⟩ := x
    obtain ⟨a, _, _, d, _, f⟩ := (rgOk_iff _ _ _ _ _ _).1 hx
    obtain ⟨d1, d2⟩ := ckI_in d
    have h1 := h.prev r a d1
    have h2 := idx_lt d1
    omega
/-- A superblock's name turns nothing of what is accepted. -/
theorem rgOk_su (most : Int) (ts : List ByteArray) (c : Int) (s : ByteArray) (seq prev : Int) : rgOk (suT most ts c) s seq prev = rgOk ts s seq prev := by
  cases hx : rgOk (suT most ts c) s seq prev with
  | some x =>
    obtain ⟨r, own⟩ := x
    obtain ⟨a, b, e, d, f, g⟩ := (rgOk_iff _ _ _ _ _ _).1 hx
    obtain ⟨d1, d2⟩ := ckI_in d
    have hi : r.tm ∈ ts := by
      rcases suT_mem d1 with k | k
      · exact k
      · exact absurd k (mark_ne r c)
    symm
    exact (rgOk_iff _ _ _ _ _ _).2 ⟨a, b, e, by rw [d2, (suT_keep (most := most) c hi).2]; exact ckI_of hi, f, g⟩
  | none =>
    cases hy : rgOk ts s seq prev with
    | none => rfl
    | some y =>
      rw [rgOk_keep hy (Grow.su most ts c)] at hx
      cases hx
theorem jnGo_su (most : Int) (ts : List ByteArray) (c : Int) (L : List ByteArray) (n : Nat) (l : Int) : jnGo (suT most ts c) L n l = jnGo ts L n l := by
  induction L generalizing n l with
  | nil => rfl
  | cons s r ih =>
    unfold jnGo
    rw [rgOk_su]
    cases rgOk ts s ((n : Int) + 1) l with
    | none => rfl
    | some x => simp only [ih]
/-- Events that may be are put, where the book has room for them. -/
theorem jp_run {most b : Int} (hb1 : 1 ≤ b) (hb2 : b ≤ 1073741823) (es : List Ev) (ts : List ByteArray) (n : Nat) (l : Int) (h : BkI ts b n) (he : ∀ e ∈ es, e.may = true) (hr : ((ts.length + es.length : Nat) : Int) ≤ most) (hl0 : 0 ≤ l) (hl : l < ts.length)
    (hn : n + es.length ≤ 1000000) (ht : ts.length + es.length ≤ 1000000) :
    ∃ ss l', (jpGo most b ts n l es).2 = some (ss, l') ∧ BkI (jpGo most b ts n l es).1 b (n + es.length) ∧ (jpGo most b ts n l es).1.length = ts.length + es.length ∧ 0 ≤ l' ∧ l' < (jpGo most b ts n l es).1.length ∧ (es = [] → l' = l) ∧ (es ≠ [] → l' + 1 = (jpGo most b ts n l es).1.length) := by
  induction es generalizing ts n l with
  | nil => exact ⟨[], l, rfl, h, rfl, hl0, hl, fun _ => rfl, fun c => absurd rfl c⟩
  | cons e es ih =>
    simp only [List.length_cons] at hr hn ht
    have hm : (Rc.mk ((n : Int) + 1) b l e).may = true := (Rc.may_iff _).2 ⟨by show (1 : Int) ≤ (n : Int) + 1; omega, (okNum_iff _).2 ⟨by show (0 : Int) ≤ (n : Int) + 1; omega, by show (n : Int) + 1 ≤ 1073741823; omega⟩, hb1, (okNum_iff _).2 ⟨by show 0 ≤ b; omega, hb2⟩, (okNum_iff _).2 ⟨hl0, by show l ≤ 1073741823; omega⟩, he e (by simp)⟩
    obtain ⟨h1, h2, h3, h4⟩ := h.rc (most := most) hm (by omega) hl
    obtain ⟨ss, l', k1, k2, k3, k4, k5, k6, k7⟩ := ih (ts ++ [(Rc.mk ((n : Int) + 1) b l e).tm]) (n + 1) (ts.length : Int) h4 (fun x hx => he x (by simp [hx])) (by rw [List.length_append, List.length_singleton]; omega) (by omega) (by rw [List.length_append, List.length_singleton]; omega) (by omega) (by rw [List.length_append, List.length_singleton]; omega)
    have e2 : jpGo most b ts n l (e :: es) = ((jpGo most b (ts ++ [(Rc.mk ((n : Int) + 1) b l e).tm]) (n + 1) (ts.length : Int) es).1, (jpGo most b (ts ++ [(Rc.mk ((n : Int) + 1) b l e).tm]) (n + 1) (ts.length : Int) es).2.map fun z => (rcS most ts ⟨(n : Int) + 1, b, l, e⟩ :: z.1, z.2)) := by
      conv => lhs; unfold jpGo
      rw [if_pos h1, h3, h2]
    rw [e2]
    simp only [k1, Option.map_some, List.length_cons]
    rw [List.length_append, List.length_singleton] at k3
    refine ⟨_, l', rfl, by rw [show n + (es.length + 1) = n + 1 + es.length by omega]; exact k2, by omega, k4, k5, fun c => (by cases c), fun _ => ?_⟩
    by_cases c : es = []
    · subst c
      rw [k6 rfl, k3]
      simp
    · exact k7 c
end Go.Proofs.YtbfpfmidjdonjaaGreatDoor

namespace Go.Proofs.YtbfpfmidjdonjaaGreatDoor
open Go

def ls (s : ByteArray) : List UInt8 := s.data.toList
theorem ls_app (a c : ByteArray) : ls (a ++ c) = ls a ++ ls c := by unfold ls; rw [ByteArray.data_append, Array.toList_append]
theorem ls_len (s : ByteArray) : (ls s).length = s.size := Array.length_toList
theorem ls_ext {a c : ByteArray} (h : ls a = ls c) : a = c := by
  obtain ⟨⟨x⟩⟩ := a
  obtain ⟨⟨y⟩⟩ := c
  exact congrArg (fun l => (⟨⟨l⟩⟩ : ByteArray)) h
theorem ls_cut (s : ByteArray) (i j : Nat) : ls (s.extract i j) = ((ls s).drop i).take (j - i) := by
  unfold ls
  rw [ByteArray.data_extract, Array.toList_extract]
def by4 (s : ByteArray) : List UInt8 := (ls s).take 4
abbrev b8 (n : Nat) : UInt8 := UInt8.ofNat n
theorem b8_inj {a c : Nat} (ha : a < 256) (hc : c < 256) (h : b8 a = b8 c) : a = c := by
  have := congrArg UInt8.toNat h
  simp only [b8, UInt8.toNat_ofNat'] at this
  omega
/-- How what stands in the sector of the m-th record may begin, up to the boot b. -/
def Hdr (s : ByteArray) (m : Nat) (b : Int) : Prop := s.size = 64 ∧ (by4 s = [0, 0, 0, 0] ∨ by4 s = [1, 0, 0, 0] ∨ by4 s = [1, b8 (m + 1), 0, 0] ∨ by4 s = [1, b8 (m + 1), 1, 0] ∨ ∃ c : Nat, 1 ≤ c ∧ (c : Int) ≤ b ∧ by4 s = [1, b8 (m + 1), 1, b8 c])
theorem Hdr.more {s : ByteArray} {m : Nat} {b c : Int} (h : Hdr s m b) (hc : b ≤ c) : Hdr s m c := by
  obtain ⟨h0, h⟩ := h
  refine ⟨h0, ?_⟩
  rcases h with h | h | h | h | ⟨x, h1, h2, h3⟩
  · exact .inl h
  · exact .inr (.inl h)
  · exact .inr (.inr (.inl h))
  · exact .inr (.inr (.inr (.inl h)))
  · exact .inr (.inr (.inr (.inr ⟨x, h1, by omega, h3⟩)))
theorem num_low {x : Int} (h1 : 1 ≤ x) (h2 : x < 256) : ls (numS x) = [1, b8 x.toNat] := by
  rw [numS_ok (by omega) (by omega)]
  show bytesOf (numL x) = _
  unfold numL
  rw [if_neg (by omega), if_pos h2]
  rfl
theorem num_high {x : Int} (h1 : 256 ≤ x) (h2 : x ≤ 1073741823) : ∃ k r, ls (numS x) = b8 k :: r ∧ 2 ≤ k ∧ k ≤ 4 := by
  rw [numS_ok (by omega) (by omega)]
  show ∃ k r, bytesOf (numL x) = _ ∧ _
  unfold numL
  rw [if_neg (by omega), if_neg (by omega)]
  split
  · exact ⟨2, _, rfl, by omega, by omega⟩
  · split
    · exact ⟨3, _, rfl, by omega, by omega⟩
    · exact ⟨4, _, rfl, by omega, by omega⟩
theorem num_head {x : Int} (h1 : 1 ≤ x) (h2 : x ≤ 1073741823) : (x < 256 ∧ ls (numS x) = [1, b8 x.toNat]) ∨ (256 ≤ x ∧ ∃ k r, ls (numS x) = b8 k :: r ∧ 2 ≤ k ∧ k ≤ 4) := by
  by_cases h : x < 256
  · exact .inl ⟨h, num_low h1 h⟩
  · exact .inr ⟨by omega, num_high (by omega) h2⟩
theorem sec_ls (r : Rc) (own : Int) : ∃ R, ls (r.sec own) = ls (numS r.seq) ++ (ls (numS r.boot) ++ R) := by
  have e : r.body = numS r.seq ++ (numS r.boot ++ encL [.n r.prev, .t r.ev.put]) := rfl
  refine ⟨ls (encL [.n r.prev, .t r.ev.put]) ++ (ls (numS own) ++ ls (zerN (64 - (r.body ++ numS own).size))), ?_⟩
  show ls (padS (r.body ++ numS own)) = _
  unfold padS
  rw [ls_app, ls_app]
  conv => lhs; rw [e]
  rw [ls_app, ls_app]
  simp only [List.append_assoc]
  rw [← e]
/-- What is read of it. -/
theorem Hdr.read {s : ByteArray} {m : Nat} {b : Int} (h : Hdr s m b) (hb : b ≤ 255) (hm : m + 1 ≤ 255) {r : Rc} {own : Int} (hr : r.may = true) (hs : s = r.sec own) : r.seq = (m : Int) + 1 ∧ 1 ≤ r.boot ∧ r.boot ≤ b ∧ by4 s = [1, b8 (m + 1), 1, b8 r.boot.toNat] := by
  obtain ⟨h1, h2, h3, h4, _, _⟩ := (Rc.may_iff r).1 hr
  obtain ⟨s0, s1⟩ := (okNum_iff _).1 h2
  obtain ⟨t0, t1⟩ := (okNum_iff _).1 h4
  obtain ⟨R, hR⟩ := sec_ls r own
  rw [← hs] at hR
  obtain ⟨_, h⟩ := h
  unfold by4 at h ⊢
  rw [hR] at h ⊢
  rcases num_head h1 s1 with ⟨q1, q2⟩ | ⟨q1, k, rr, q2, q3, q4⟩
  · rw [q2] at h ⊢
    rcases num_head h3 t1 with ⟨p1, p2⟩ | ⟨p1, k, rr, p2, p3, p4⟩
    · rw [p2] at h ⊢
      simp only [List.cons_append, List.nil_append, List.take_succ_cons, List.take_zero] at h ⊢
      have hz : b8 r.seq.toNat ≠ 0 := fun c => by have := b8_inj (a := r.seq.toNat) (c := 0) (by omega) (by omega) c; omega
      have hz2 : b8 r.boot.toNat ≠ 0 := fun c => by have := b8_inj (a := r.boot.toNat) (c := 0) (by omega) (by omega) c; omega
      rcases h with h | h | h | h | ⟨c, c1, c2, h⟩
      · simp at h
      · simp at h
      · simp at h
      · simp only [List.cons.injEq] at h
        exact absurd h.2.2.2.1 hz2
      · simp only [List.cons.injEq, and_true, true_and] at h
        have e1 := b8_inj (by omega) (by omega) h.1
        have e2 := b8_inj (by omega) (by omega) h.2
        refine ⟨by omega, h3, by omega, ?_⟩
        rw [e1]
    · rw [p2] at h
      simp only [List.cons_append, List.nil_append, List.take_succ_cons] at h
      have hk : ∀ j, j < 2 → b8 k ≠ b8 j := fun j hj c => by have := b8_inj (a := k) (c := j) (by omega) (by omega) c; omega
      rcases h with h | h | h | h | ⟨c, c1, c2, h⟩
      · simp at h
      · simp only [List.cons.injEq] at h; exact absurd h.2.2.1 (hk 0 (by omega))
      · simp only [List.cons.injEq] at h; exact absurd h.2.2.1 (hk 0 (by omega))
      · simp only [List.cons.injEq] at h; exact absurd h.2.2.1 (hk 1 (by omega))
      · simp only [List.cons.injEq] at h; exact absurd h.2.2.1 (hk 1 (by omega))
  · rw [q2] at h
    have hk : ∀ j, j < 2 → b8 k ≠ b8 j := fun j hj c => by have := b8_inj (a := k) (c := j) (by omega) (by omega) c; omega
    simp only [List.cons_append, List.take_succ_cons] at h
    rcases h with h | h | h | h | ⟨c, c1, c2, h⟩
    · simp only [List.cons.injEq] at h; exact absurd h.1 (hk 0 (by omega))
    · simp only [List.cons.injEq] at h; exact absurd h.1 (hk 1 (by omega))
    · simp only [List.cons.injEq] at h; exact absurd h.1 (hk 1 (by omega))
    · simp only [List.cons.injEq] at h; exact absurd h.1 (hk 1 (by omega))
    · simp only [List.cons.injEq] at h; exact absurd h.1 (hk 1 (by omega))
/-- How a record's sector begins. -/
theorem by4_sec {r : Rc} {own : Int} {m : Nat} (hr : r.may = true) (h1 : r.seq = (m : Int) + 1) (hm : m + 1 ≤ 255) (h2 : r.boot ≤ 255) : by4 (r.sec own) = [1, b8 (m + 1), 1, b8 r.boot.toNat] := by
  obtain ⟨a1, _, a3, _, _, _⟩ := (Rc.may_iff r).1 hr
  obtain ⟨R, hR⟩ := sec_ls r own
  unfold by4
  rw [hR, num_low a1 (by omega), num_low a3 (by omega), show r.seq.toNat = m + 1 by omega]
  rfl
/-- The first t bytes of s, the rest of o. -/
abbrev mixS (s o : ByteArray) (t : Nat) : ByteArray := s.extract 0 t ++ o.extract t 64
theorem ls_mix {s o : ByteArray} {t : Nat} (ho : o.size = 64) : ls (mixS s o t) = (ls s).take t ++ (ls o).drop t := by
  rw [ls_app, ls_cut, ls_cut, List.drop_zero, Nat.sub_zero]
  congr 1
  exact List.take_of_length_le (by rw [List.length_drop, ls_len, ho]; omega)
theorem by4_mix {s o : ByteArray} {t : Nat} (hs : s.size = 64) (ho : o.size = 64) (ht : t ≤ 64) : by4 (mixS s o t) = if 4 ≤ t then by4 s else (by4 s).take t ++ (by4 o).drop t := by
  unfold by4
  rw [ls_mix ho]
  split
  · rename_i h
    rw [List.take_append_of_le_length (by rw [List.length_take, ls_len, hs]; omega), List.take_take, Nat.min_eq_left h]
  · rename_i h
    rw [List.take_append, List.take_take, List.length_take, ls_len, hs, Nat.min_eq_right (show t ≤ 4 by omega), Nat.min_eq_left (show t ≤ 64 by omega), List.take_take, Nat.min_eq_left (show t ≤ 4 by omega), List.drop_take]
theorem mix_old {s o : ByteArray} {t : Nat} (ho : o.size = 64) (h : (ls s).take t = (ls o).take t) : mixS s o t = o := by
  apply ls_ext
  rw [ls_mix ho, h, List.take_append_drop]
/-- What a torn sector is: it begins as it may; it is the old one, or begins as the new one, or no record is read of it. -/
theorem mix_is {s o : ByteArray} {m : Nat} {b : Int} {c t : Nat} (hs : s.size = 64) (h4 : by4 s = [1, b8 (m + 1), 1, b8 c]) (hc1 : 1 ≤ c) (hcb : (c : Int) ≤ b) (hb : b ≤ 255) (hm : m + 1 ≤ 255) (ho : Hdr o m b) (ht : t ≤ 64) :
    Hdr (mixS s o t) m b ∧ (mixS s o t = o ∨ by4 (mixS s o t) = [1, b8 (m + 1), 1, b8 c] ∨ ∀ r own, r.may = true → mixS s o t ≠ Rc.sec r own) := by
  have hsz : (mixS s o t).size = 64 := by rw [ByteArray.size_append, ByteArray.size_extract, ByteArray.size_extract]; have := ho.1; omega
  have hmix := by4_mix hs ho.1 ht
  rw [h4] at hmix
  by_cases h : 4 ≤ t
  · rw [if_pos h] at hmix
    exact ⟨⟨hsz, .inr (.inr (.inr (.inr ⟨c, hc1, hcb, hmix⟩)))⟩, .inr (.inl hmix)⟩
  · rw [if_neg h] at hmix
    have hno : ∀ {A : ByteArray}, Hdr A m b → (∀ x : Nat, 1 ≤ x → (x : Int) ≤ b → by4 A ≠ [1, b8 (m + 1), 1, b8 x]) → ∀ r own, r.may = true → A ≠ Rc.sec r own := fun hA hx r own hr e => by
      obtain ⟨_, p1, p2, p3⟩ := hA.read hb hm hr e
      exact hx r.boot.toNat (by omega) (by omega) p3
    have hz : ∀ x : Nat, 1 ≤ x → (x : Int) ≤ b → b8 x ≠ 0 := fun x h1 h2 e => by have := b8_inj (a := x) (c := 0) (by omega) (by omega) e; omega
    have hold : by4 o = by4 o → ∀ T : List UInt8, (by4 o).take t = T → [1, b8 (m + 1), 1, b8 c].take t = T → mixS s o t = o := fun _ T e1 e2 => by
      refine mix_old ho.1 ?_
      have k1 : (ls s).take t = (by4 s).take t := by unfold by4; rw [List.take_take, Nat.min_eq_left (by omega)]
      have k2 : (ls o).take t = (by4 o).take t := by unfold by4; rw [List.take_take, Nat.min_eq_left (by omega)]
      rw [k1, k2, h4, e1, e2]
    have h3 : t = 0 ∨ t = 1 ∨ t = 2 ∨ t = 3 := by omega
    have ho' := ho
    obtain ⟨_, ho2⟩ := ho'
    rcases ho2 with q | q | q | q | ⟨x, x1, x2, q⟩
    · rw [q] at hmix
      rcases h3 with rfl | rfl | rfl | rfl
      · exact ⟨⟨hsz, .inl hmix⟩, .inl (hold rfl [] rfl rfl)⟩
      · have hA : Hdr (mixS s o 1) m b := ⟨hsz, .inr (.inl hmix)⟩
        exact ⟨hA, .inr (.inr (hno hA fun x a1 a2 e => by rw [hmix] at e; simp at e))⟩
      · have hA : Hdr (mixS s o 2) m b := ⟨hsz, .inr (.inr (.inl hmix))⟩
        exact ⟨hA, .inr (.inr (hno hA fun x a1 a2 e => by rw [hmix] at e; simp at e))⟩
      · have hA : Hdr (mixS s o 3) m b := ⟨hsz, .inr (.inr (.inr (.inl hmix)))⟩
        exact ⟨hA, .inr (.inr (hno hA fun x a1 a2 e => by rw [hmix] at e; simp at e; exact hz x a1 a2 e.symm))⟩
    · rw [q] at hmix
      rcases h3 with rfl | rfl | rfl | rfl
      · exact ⟨⟨hsz, .inr (.inl hmix)⟩, .inl (hold rfl [] rfl rfl)⟩
      · exact ⟨⟨hsz, .inr (.inl hmix)⟩, .inl (hold rfl [1] (by rw [q]; rfl) rfl)⟩
      · have hA : Hdr (mixS s o 2) m b := ⟨hsz, .inr (.inr (.inl hmix))⟩
        exact ⟨hA, .inr (.inr (hno hA fun x a1 a2 e => by rw [hmix] at e; simp at e))⟩
      · have hA : Hdr (mixS s o 3) m b := ⟨hsz, .inr (.inr (.inr (.inl hmix)))⟩
        exact ⟨hA, .inr (.inr (hno hA fun x a1 a2 e => by rw [hmix] at e; simp at e; exact hz x a1 a2 e.symm))⟩
    · rw [q] at hmix
      rcases h3 with rfl | rfl | rfl | rfl
      · exact ⟨⟨hsz, .inr (.inr (.inl hmix))⟩, .inl (hold rfl [] rfl rfl)⟩
      · exact ⟨⟨hsz, .inr (.inr (.inl hmix))⟩, .inl (hold rfl [1] (by rw [q]; rfl) rfl)⟩
      · exact ⟨⟨hsz, .inr (.inr (.inl hmix))⟩, .inl (hold rfl [1, b8 (m + 1)] (by rw [q]; rfl) rfl)⟩
      · have hA : Hdr (mixS s o 3) m b := ⟨hsz, .inr (.inr (.inr (.inl hmix)))⟩
        exact ⟨hA, .inr (.inr (hno hA fun x a1 a2 e => by rw [hmix] at e; simp at e; exact hz x a1 a2 e.symm))⟩
    · rw [q] at hmix
      rcases h3 with rfl | rfl | rfl | rfl
      · exact ⟨⟨hsz, .inr (.inr (.inr (.inl hmix)))⟩, .inl (hold rfl [] rfl rfl)⟩
      · exact ⟨⟨hsz, .inr (.inr (.inr (.inl hmix)))⟩, .inl (hold rfl [1] (by rw [q]; rfl) rfl)⟩
      · exact ⟨⟨hsz, .inr (.inr (.inr (.inl hmix)))⟩, .inl (hold rfl [1, b8 (m + 1)] (by rw [q]; rfl) rfl)⟩
      · exact ⟨⟨hsz, .inr (.inr (.inr (.inl hmix)))⟩, .inl (hold rfl [1, b8 (m + 1), 1] (by rw [q]; rfl) rfl)⟩
    · rw [q] at hmix
      rcases h3 with rfl | rfl | rfl | rfl
      · exact ⟨⟨hsz, .inr (.inr (.inr (.inr ⟨x, x1, x2, hmix⟩)))⟩, .inl (hold rfl [] rfl rfl)⟩
      · exact ⟨⟨hsz, .inr (.inr (.inr (.inr ⟨x, x1, x2, hmix⟩)))⟩, .inl (hold rfl [1] (by rw [q]; rfl) rfl)⟩
      · exact ⟨⟨hsz, .inr (.inr (.inr (.inr ⟨x, x1, x2, hmix⟩)))⟩, .inl (hold rfl [1, b8 (m + 1)] (by rw [q]; rfl) rfl)⟩
      · exact ⟨⟨hsz, .inr (.inr (.inr (.inr ⟨x, x1, x2, hmix⟩)))⟩, .inl (hold rfl [1, b8 (m + 1), 1] (by rw [q]; rfl) rfl)⟩
end Go.Proofs.YtbfpfmidjdonjaaGreatDoor

namespace Go.Proofs.YtbfpfmidjdonjaaGreatDoor
open Go

theorem rcT_mem2 {most : Int} {ts : List ByteArray} {r : Rc} {t : ByteArray} (h : t ∈ rcT most ts r) : t ∈ ts ∨ (t = r.tm ∧ r.may = true) := by
  cases hm : r.may with
  | true => rcases rcT_mem h with a | a; exact .inl a; exact .inr ⟨a, rfl⟩
  | false =>
    have : rcT most ts r = ts := by unfold rcT; rw [hm]; rfl
    rw [this] at h
    exact .inl h
theorem jpGo_mem {most b : Int} {q : Rc} (hq : q.may = true) (es : List Ev) (ts : List ByteArray) (n : Nat) (l : Int) (h : q.tm ∈ (jpGo most b ts n l es).1) : q.tm ∈ ts ∨ (n : Int) + 1 ≤ q.seq := by
  induction es generalizing ts n l with
  | nil => exact .inl h
  | cons e es ih =>
    have hone : q.tm ∈ rcT most ts ⟨(n : Int) + 1, b, l, e⟩ → q.tm ∈ ts ∨ (n : Int) + 1 ≤ q.seq := fun hi => by
      rcases rcT_mem2 hi with a | ⟨a, hm⟩
      · exact .inl a
      · have := Rc.tm_inj hq hm a
        subst this
        exact .inr (Int.le_refl _)
    unfold jpGo at h
    split at h
    · rcases ih _ (n + 1) _ h with a | a
      · exact hone a
      · exact .inr (by omega)
    · exact hone h
/-- How many of the sectors are, one behind the other from the first on, what was written. -/
def lead : List ByteArray → List ByteArray → Nat
  | s :: ss, a :: M => if a = s then lead ss M + 1 else 0
  | _, _ => 0
theorem lead_yes (s : ByteArray) (ss M : List ByteArray) : lead (s :: ss) (s :: M) = lead ss M + 1 := by
  show (if s = s then lead ss M + 1 else 0) = _
  rw [if_pos rfl]
theorem lead_no {s a : ByteArray} (h : a ≠ s) (ss M : List ByteArray) : lead (s :: ss) (a :: M) = 0 := by
  show (if a = s then lead ss M + 1 else 0) = 0
  rw [if_neg h]
theorem lead_le (ss M : List ByteArray) : lead ss M ≤ ss.length := by
  induction ss generalizing M with
  | nil => exact Nat.zero_le _
  | cons s ss ih =>
    cases M with
    | nil => exact Nat.zero_le _
    | cons a M =>
      unfold lead
      split
      · have := ih M; simp only [List.length_cons]; omega
      · exact Nat.zero_le _
theorem grow_idx {ts ts' : List ByteArray} {t : ByteArray} (hg : Grow ts ts') (h : t ∈ ts) : idx ts' t < ts.length := by
  rw [(hg t h).2]; exact idx_lt h
/-- A record of the next number that is found newly is the one that was put there. -/
theorem put_first {most b l : Int} {ts : List ByteArray} {n : Nat} {e : Ev} {es : List Ev} {q : Rc} (hb : BkI ts b n) (hm : (Rc.mk ((n : Int) + 1) b l e).may = true) (hr : (ts.length : Int) < most) (hl : l < ts.length)
    (hq : q.may = true) (hi : q.tm ∈ (jpGo most b ts n l (e :: es)).1) (hn : q.tm ∉ ts) (hs : q.seq = (n : Int) + 1) : q = ⟨(n : Int) + 1, b, l, e⟩ := by
  obtain ⟨h1, h2, h3, h4⟩ := hb.rc (most := most) hm hr hl
  have e2 : (jpGo most b ts n l (e :: es)).1 = (jpGo most b (ts ++ [(Rc.mk ((n : Int) + 1) b l e).tm]) (n + 1) (ts.length : Int) es).1 := by
    conv => lhs; unfold jpGo
    rw [if_pos h1, h3, h2]
  rw [e2] at hi
  rcases jpGo_mem hq es _ (n + 1) _ hi with a | a
  · rcases List.mem_append.1 a with k | k
    · exact absurd k hn
    · exact Rc.tm_inj hq hm (by simpa using k)
  · exfalso; omega
theorem ev_rc {b l : Int} {n : Nat} {e : Ev} (hb1 : 1 ≤ b) (hb2 : b ≤ 1073741823) (he : e.may = true) (hl0 : 0 ≤ l) (hl : l ≤ 1000000) (hn : n ≤ 1000000) : (Rc.mk ((n : Int) + 1) b l e).may = true :=
  (Rc.may_iff _).2 ⟨by show (1 : Int) ≤ (n : Int) + 1; omega, (okNum_iff _).2 ⟨by show (0 : Int) ≤ (n : Int) + 1; omega, by show (n : Int) + 1 ≤ 1073741823; omega⟩, hb1, (okNum_iff _).2 ⟨by show 0 ≤ b; omega, hb2⟩, (okNum_iff _).2 ⟨hl0, by show l ≤ 1073741823; omega⟩, he⟩
/-- Behind the newest name: just the leading ones are read. -/
theorem tail_read {most b : Int} (hb1 : 1 ≤ b) (hb2 : b ≤ 1073741823) (es : List Ev) (ts : List ByteArray) (n : Nat) (l : Int) (hI : BkI ts b n) (he : ∀ e ∈ es, e.may = true) (hr : ((ts.length + es.length : Nat) : Int) ≤ most) (hl0 : 0 ≤ l) (hl : l + 1 = ts.length)
    (hn : n + es.length ≤ 1000000) (ht : ts.length + es.length ≤ 1000000) {ss : List ByteArray} {l' : Int} (hp : (jpGo most b ts n l es).2 = some (ss, l')) (M : List ByteArray) (hM : es.length ≤ M.length) :
    jnGo (jpGo most b ts n l es).1 M n l = (es.take (lead ss M), l + (lead ss M : Nat)) := by
  induction es generalizing ts n l ss M with
  | nil =>
    obtain ⟨hs, _⟩ : [] = ss ∧ l = l' := by simpa [jpGo] using hp
    subst hs
    have : jnGo ts M n l = ([], l) := jnGo_stop (hI.stop hl M n)
    show jnGo ts M n l = _
    rw [this]
    simp [lead]
  | cons e es ih =>
    simp only [List.length_cons] at hr hn ht hM
    have hm := ev_rc (n := n) (l := l) hb1 hb2 (he e (by simp)) hl0 (by omega) (by omega)
    obtain ⟨h1, h2, h3, h4⟩ := hI.rc (most := most) hm (by omega) (by omega)
    have hrun := jp_run (most := most) hb1 hb2 (e :: es) ts n l hI he (by simp only [List.length_cons]; omega) hl0 (by omega) (by simp only [List.length_cons]; omega) (by simp only [List.length_cons]; omega)
    obtain ⟨_, _, _, hIT, hTl, _⟩ := hrun
    have e2 : jpGo most b ts n l (e :: es) = ((jpGo most b (ts ++ [(Rc.mk ((n : Int) + 1) b l e).tm]) (n + 1) (ts.length : Int) es).1, (jpGo most b (ts ++ [(Rc.mk ((n : Int) + 1) b l e).tm]) (n + 1) (ts.length : Int) es).2.map fun z => (rcS most ts ⟨(n : Int) + 1, b, l, e⟩ :: z.1, z.2)) := by
      conv => lhs; unfold jpGo
      rw [if_pos h1, h3, h2]
    cases M with
    | nil => simp at hM
    | cons A M =>
      simp only [List.length_cons] at hM
      rw [e2] at hp
      simp only at hp
      cases hz : (jpGo most b (ts ++ [(Rc.mk ((n : Int) + 1) b l e).tm]) (n + 1) (ts.length : Int) es).2 with
      | none => rw [hz] at hp; cases hp
      | some z =>
        obtain ⟨zs, zl⟩ := z
        rw [hz] at hp
        simp only [Option.map_some, Option.some.injEq, Prod.mk.injEq] at hp
        obtain ⟨rfl, rfl⟩ := hp
        have hgrow := (jpGo_grow most b es (ts ++ [(Rc.mk ((n : Int) + 1) b l e).tm]) (n + 1) (ts.length : Int)).1
        by_cases hA : A = rcS most ts ⟨(n : Int) + 1, b, l, e⟩
        · have hok : rgOk (jpGo most b ts n l (e :: es)).1 A ((n : Int) + 1) l = some (⟨(n : Int) + 1, b, l, e⟩, (ts.length : Int)) := by
            rw [hA, e2]
            have := rgOk_put h1 (ts' := (jpGo most b (ts ++ [(Rc.mk ((n : Int) + 1) b l e).tm]) (n + 1) (ts.length : Int) es).1) (by rw [h3]; exact hgrow) (by rw [e2] at hTl; simp only [List.length_cons] at hTl; omega)
            rw [h2] at this
            exact this
          have hrec := ih (ts ++ [(Rc.mk ((n : Int) + 1) b l e).tm]) (n + 1) (ts.length : Int) h4 (fun x hx => he x (by simp [hx])) (by rw [List.length_append, List.length_singleton]; omega) (by omega) (by rw [List.length_append, List.length_singleton]; omega) (by omega) (by rw [List.length_append, List.length_singleton]; omega) hz M (by omega)
          have e3 : (jpGo most b ts n l (e :: es)).1 = (jpGo most b (ts ++ [(Rc.mk ((n : Int) + 1) b l e).tm]) (n + 1) (ts.length : Int) es).1 := by rw [e2]
          conv => lhs; unfold jnGo
          rw [hok]
          simp only
          rw [e3, hrec, hA, lead_yes]
          show (e :: es.take (lead zs M), (ts.length : Int) + (lead zs M : Nat)) = (e :: es.take (lead zs M), l + ((lead zs M + 1 : Nat) : Int))
          congr 1
          omega
        · have hno : rgOk (jpGo most b ts n l (e :: es)).1 A ((n : Int) + 1) l = none := by
            cases hx : rgOk (jpGo most b ts n l (e :: es)).1 A ((n : Int) + 1) l with
            | none => rfl
            | some x =>
              exfalso
              obtain ⟨q, own⟩ := x
              obtain ⟨a1, a2, a3, a4, a5, a6⟩ := (rgOk_iff _ _ _ _ _ _).1 hx
              obtain ⟨d1, d2⟩ := ckI_in a4
              have hpv := hIT.prev q a1 d1
              have hnot : q.tm ∉ ts := fun c => by
                have := grow_idx (jpGo_grow most b (e :: es) ts n l).1 c
                omega
              have hqe := put_first hI hm (by omega) (by omega) a1 d1 hnot a5
              subst hqe
              apply hA
              have hput := rgOk_put h1 (ts' := (jpGo most b ts n l (e :: es)).1) (by rw [h3, e2]; exact hgrow) (by rw [hTl]; simp only [List.length_cons]; omega)
              obtain ⟨_, _, b3, b4, _, _⟩ := (rgOk_iff _ _ _ _ _ _).1 hput
              rw [b3, a3, d2, (ckI_in b4).2]
          conv => lhs; unfold jnGo
          rw [hno, lead_no hA]
          simp
end Go.Proofs.YtbfpfmidjdonjaaGreatDoor

namespace Go.Proofs.YtbfpfmidjdonjaaGreatDoor
open Go

/-- What a chain reads, then what is behind it. -/
theorem jnGo_pre {ts : List ByteArray} {es : List Ev} {L : List ByteArray} {n : Nat} {l l' : Int} (h : Chain ts L n l es l') : jnGo ts L n l = (es ++ (jnGo ts (L.drop es.length) (n + es.length) l').1, (jnGo ts (L.drop es.length) (n + es.length) l').2) := by
  induction es generalizing L n l with
  | nil =>
    rw [Chain.nil] at h
    subst h
    rfl
  | cons e es ih =>
    cases L with
    | nil => exact h.elim
    | cons s r =>
      obtain ⟨x, hx, he, hc⟩ := h
      conv => lhs; unfold jnGo
      rw [hx]
      simp only
      rw [ih hc, he, List.length_cons, List.drop_succ_cons, show n + 1 + es.length = n + (es.length + 1) by omega]
      rfl
/-- Where events were put behind the n-th: just the leading ones are read, if the first of the sectors is accepted only as what was put there. -/
theorem first_read {most b : Int} (hb1 : 1 ≤ b) (hb2 : b ≤ 1073741823) (es : List Ev) (ts : List ByteArray) (n : Nat) (l : Int) (hI : BkI ts b n) (he : ∀ e ∈ es, e.may = true) (hr : ((ts.length + es.length : Nat) : Int) ≤ most) (hl0 : 0 ≤ l) (hl : l < ts.length)
    (hn : n + es.length ≤ 1000000) (ht : ts.length + es.length ≤ 1000000) {ss : List ByteArray} {l' : Int} (hp : (jpGo most b ts n l es).2 = some (ss, l')) (M : List ByteArray) (hM : es.length ≤ M.length) (hne : es ≠ [])
    (h0 : ∀ A s, M.head? = some A → ss.head? = some s → A ≠ s → rgOk (jpGo most b ts n l es).1 A ((n : Int) + 1) l = none) :
    (jnGo (jpGo most b ts n l es).1 M n l).1 = es.take (lead ss M) ∧ (jnGo (jpGo most b ts n l es).1 M n l).2 = if lead ss M = 0 then l else (ts.length : Int) + (lead ss M : Nat) - 1 := by
  cases es with
  | nil => exact absurd rfl hne
  | cons e es =>
    simp only [List.length_cons] at hr hn ht hM
    have hm := ev_rc (n := n) (l := l) hb1 hb2 (he e (by simp)) hl0 (by omega) (by omega)
    obtain ⟨h1, h2, h3, h4⟩ := hI.rc (most := most) hm (by omega) (by omega)
    have e2 : jpGo most b ts n l (e :: es) = ((jpGo most b (ts ++ [(Rc.mk ((n : Int) + 1) b l e).tm]) (n + 1) (ts.length : Int) es).1, (jpGo most b (ts ++ [(Rc.mk ((n : Int) + 1) b l e).tm]) (n + 1) (ts.length : Int) es).2.map fun z => (rcS most ts ⟨(n : Int) + 1, b, l, e⟩ :: z.1, z.2)) := by
      conv => lhs; unfold jpGo
      rw [if_pos h1, h3, h2]
    cases M with
    | nil => simp at hM
    | cons A M =>
      simp only [List.length_cons] at hM
      rw [e2] at hp
      simp only at hp
      cases hz : (jpGo most b (ts ++ [(Rc.mk ((n : Int) + 1) b l e).tm]) (n + 1) (ts.length : Int) es).2 with
      | none => rw [hz] at hp; cases hp
      | some z =>
        obtain ⟨zs, zl⟩ := z
        rw [hz] at hp
        simp only [Option.map_some, Option.some.injEq, Prod.mk.injEq] at hp
        obtain ⟨rfl, rfl⟩ := hp
        have hgrow := jpGo_grow most b es (ts ++ [(Rc.mk ((n : Int) + 1) b l e).tm]) (n + 1) (ts.length : Int)
        rw [List.length_append, List.length_singleton] at hgrow
        by_cases hA : A = rcS most ts ⟨(n : Int) + 1, b, l, e⟩
        · have hok : rgOk (jpGo most b ts n l (e :: es)).1 A ((n : Int) + 1) l = some (⟨(n : Int) + 1, b, l, e⟩, (ts.length : Int)) := by
            rw [hA, e2]
            have := rgOk_put h1 (ts' := (jpGo most b (ts ++ [(Rc.mk ((n : Int) + 1) b l e).tm]) (n + 1) (ts.length : Int) es).1) (by rw [h3]; exact hgrow.1) (by omega)
            rw [h2] at this
            exact this
          have hrec := tail_read (most := most) hb1 hb2 es (ts ++ [(Rc.mk ((n : Int) + 1) b l e).tm]) (n + 1) (ts.length : Int) h4 (fun x hx => he x (by simp [hx])) (by rw [List.length_append, List.length_singleton]; omega) (by omega) (by rw [List.length_append, List.length_singleton]; omega) (by omega) (by rw [List.length_append, List.length_singleton]; omega) hz M (by omega)
          have e3 : (jpGo most b ts n l (e :: es)).1 = (jpGo most b (ts ++ [(Rc.mk ((n : Int) + 1) b l e).tm]) (n + 1) (ts.length : Int) es).1 := by rw [e2]
          have e4 : jnGo (jpGo most b ts n l (e :: es)).1 (A :: M) n l = (e :: es.take (lead zs M), (ts.length : Int) + (lead zs M : Nat)) := by
            conv => lhs; unfold jnGo
            rw [hok]
            simp only
            rw [e3, hrec]
          rw [e4, hA, lead_yes, if_neg (by omega)]
          refine ⟨rfl, ?_⟩
          show (ts.length : Int) + (lead zs M : Nat) = (ts.length : Int) + ((lead zs M + 1 : Nat) : Int) - 1
          omega
        · have hno := h0 A _ rfl rfl hA
          have e4 : jnGo (jpGo most b ts n l (e :: es)).1 (A :: M) n l = ([], l) := by
            conv => lhs; unfold jnGo
            rw [hno]
          rw [e4, lead_no hA, if_pos rfl]
          exact ⟨rfl, rfl⟩
/-- A sector that is torn over what stood there is accepted only as what was put, if what stood there was not accepted. -/
theorem torn_first {most b l : Int} {ts : List ByteArray} {n : Nat} {e : Ev} {es : List Ev} (hb1 : 1 ≤ b) (hb2 : b ≤ 255) (hnm : n + 1 ≤ 255) (hI : BkI ts b n) (he : e.may = true) (hr : (ts.length : Int) < most) (hl0 : 0 ≤ l) (hl : l < ts.length)
    (ht : ts.length + (e :: es).length ≤ 1000000) {o : ByteArray} (ho : Hdr o n b) (hs : rgOk ts o ((n : Int) + 1) l = none) {t : Nat} (htt : t ≤ 64) {A : ByteArray} (hA : A = mixS (rcS most ts ⟨(n : Int) + 1, b, l, e⟩) o t) (hne : A ≠ rcS most ts ⟨(n : Int) + 1, b, l, e⟩) :
    rgOk (jpGo most b ts n l (e :: es)).1 A ((n : Int) + 1) l = none := by
  simp only [List.length_cons] at ht
  have hm := ev_rc (n := n) (l := l) hb1 (by omega) he hl0 (by omega) (by omega)
  obtain ⟨h1, h2, h3, h4⟩ := hI.rc (most := most) hm hr hl
  obtain ⟨p1, p2, p3, p4⟩ := put_in h1
  have hgrow := jpGo_grow most b (e :: es) ts n l
  simp only [List.length_cons] at hgrow
  have hput : ∃ own, rcS most ts ⟨(n : Int) + 1, b, l, e⟩ = (Rc.mk ((n : Int) + 1) b l e).sec own := ⟨_, p4⟩
  obtain ⟨own0, hsec⟩ := hput
  have h4' : by4 (rcS most ts ⟨(n : Int) + 1, b, l, e⟩) = [1, b8 (n + 1), 1, b8 b.toNat] := by rw [hsec]; exact by4_sec hm rfl hnm hb2
  obtain ⟨hH, hcase⟩ := mix_is (rcS_ok h1) h4' (show 1 ≤ b.toNat by omega) (show ((b.toNat : Nat) : Int) ≤ b by omega) hb2 hnm ho htt
  rw [← hA] at hH hcase
  cases hx : rgOk (jpGo most b ts n l (e :: es)).1 A ((n : Int) + 1) l with
  | none => rfl
  | some x =>
    exfalso
    obtain ⟨q, own⟩ := x
    obtain ⟨a1, a2, a3, a4, a5, a6⟩ := (rgOk_iff _ _ _ _ _ _).1 hx
    obtain ⟨d1, d2⟩ := ckI_in a4
    have hfin : q.tm ∉ ts → False := fun hn => by
      have hq := put_first hI hm hr hl a1 d1 hn a5
      subst hq
      apply hne
      have e2 : (jpGo most b ts n l (e :: es)).1 = (jpGo most b (ts ++ [(Rc.mk ((n : Int) + 1) b l e).tm]) (n + 1) (ts.length : Int) es).1 := by
        conv => lhs; unfold jpGo
        rw [if_pos h1, h3, h2]
      have hok := rgOk_put h1 (ts' := (jpGo most b ts n l (e :: es)).1) (by rw [h3, e2]; exact (jpGo_grow most b es _ (n + 1) _).1) (by omega)
      obtain ⟨_, _, b3, b4, _, _⟩ := (rgOk_iff _ _ _ _ _ _).1 hok
      rw [b3, a3, d2, (ckI_in b4).2]
    rcases hcase with c | c | c
    · by_cases hi : q.tm ∈ ts
      · have : rgOk ts o ((n : Int) + 1) l = some (q, own) := (rgOk_iff _ _ _ _ _ _).2 ⟨a1, a2, c ▸ a3, by rw [d2, (hgrow.1 _ hi).2]; exact ckI_of hi, a5, a6⟩
        rw [hs] at this
        cases this
      · exact hfin hi
    · refine hfin (fun hi => ?_)
      obtain ⟨_, _, _, k4⟩ := hH.read hb2 hnm a1 a3
      rw [c] at k4
      simp only [List.cons.injEq, and_true, true_and] at k4
      have hbq : q.boot = b := by
        have h5 := (hI.boot q a1 hi)
        have h6 := ((Rc.may_iff q).1 a1).2.2.1
        have := b8_inj (a := b.toNat) (c := q.boot.toNat) (by omega) (by omega) k4
        omega
      have := hI.seq q a1 hi hbq
      omega
    · exact c q own a1 a3
end Go.Proofs.YtbfpfmidjdonjaaGreatDoor

namespace Go.Proofs.YtbfpfmidjdonjaaGreatDoor
open Go

/-- A slot as Open leaves it, or as it is from the beginning. -/
def SlotOk (ts : List ByteArray) (b : Int) (s : ByteArray) : Prop := s = zer64 ∨ ∃ c, c ≤ b ∧ Stand ts c s
theorem zer64_torn (ts : List ByteArray) : sgX ts zer64 = 0 ∧ sgE ts zer64 = 1000 := su_torn (by decide)
theorem SlotOk.keep {ts : List ByteArray} {b : Int} {s : ByteArray} (h : SlotOk ts b s) (most c : Int) : SlotOk (suT most ts c) b s := by
  rcases h with h | ⟨x, h1, h2⟩
  · exact .inl h
  · exact .inr ⟨x, h1, h2.keep most c⟩
theorem SlotOk.more {ts : List ByteArray} {b c : Int} {s : ByteArray} (h : SlotOk ts b s) (hc : b ≤ c) : SlotOk ts c s := by
  rcases h with h | ⟨x, h1, h2⟩
  · exact .inl h
  · exact .inr ⟨x, by omega, h2⟩
theorem Stand.grow {ts ts' : List ByteArray} {b : Int} {s : ByteArray} (h : Stand ts b s) (hg : Grow ts ts') : Stand ts' b s := by
  obtain ⟨k1, k2⟩ := hg _ h.mem
  exact ⟨h.may, k1, by rw [k2]; exact h.eq⟩
theorem SlotOk.grow {ts ts' : List ByteArray} {b : Int} {s : ByteArray} (h : SlotOk ts b s) (hg : Grow ts ts') : SlotOk ts' b s := by
  rcases h with h | ⟨x, h1, h2⟩
  · exact .inl h
  · exact .inr ⟨x, h1, h2.grow hg⟩
/-- What Get says of a slot hangs on the slot alone. -/
theorem SlotOk.same {ts ts' : List ByteArray} {b : Int} {s : ByteArray} (h : SlotOk ts b s) (hg : Grow ts ts') (h1 : ts.length ≤ 1000000) (h2 : ts'.length ≤ 1000000) : sgX ts' s = sgX ts s ∧ sgE ts' s = sgE ts s := by
  rcases h with rfl | ⟨x, _, hx⟩
  · rw [(zer64_torn ts).1, (zer64_torn ts).2, (zer64_torn ts').1, (zer64_torn ts').2]; exact ⟨rfl, rfl⟩
  · rw [(hx.get h1).1, (hx.get h1).2, ((hx.grow hg).get h2).1, ((hx.grow hg).get h2).2]; exact ⟨rfl, rfl⟩
/-- A disk that can be opened: nothing waits, and its slots tell the boot. -/
structure Calm (ts : List ByteArray) (d : Dk) (b : Int) : Prop where
  up : d.down = false
  dry : d.waits = []
  sz : ∀ s ∈ d.kept, s.size = 64
  three : 3 ≤ d.kept.length
  few : d.kept.length ≤ 256
  b0 : 0 ≤ b
  s0 : SlotOk ts b (d.kept.getD 0 ⟨#[]⟩)
  s1 : SlotOk ts b (d.kept.getD 1 ⟨#[]⟩)
  pick : pkX ts (d.kept.getD 0 ⟨#[]⟩) (d.kept.getD 1 ⟨#[]⟩) = b
  bk : ∃ n, BkI ts b n
  len : ts.length ≤ 1000000
theorem Dk.see_dry {d : Dk} (h : d.waits = []) : d.see = d.kept := by unfold Dk.see; rw [h]; rfl
theorem Dk.rd_dry {d : Dk} (h : d.waits = []) (hd : d.down = false) {i : Nat} (hi : i < d.kept.length) : d.rdS (i : Int) = d.kept.getD i ⟨#[]⟩ ∧ d.rdE (i : Int) = 0 := by
  have hh : d.has (i : Int) = true := (Dk.has_iff _ _).2 ⟨by omega, by omega⟩
  unfold Dk.rdS Dk.rdE
  rw [hd, hh, Dk.see_dry h, Int.toNat_natCast]
  exact ⟨rfl, rfl⟩
theorem pkP_two (ts : List ByteArray) (s t : ByteArray) : pkP ts s t = 0 ∨ pkP ts s t = 1 := by
  unfold pkP
  split
  · exact .inl rfl
  · split
    · exact .inr rfl
    · exact .inl rfl
theorem pick_new0 {T : List ByteArray} {b : Int} {S o : ByteArray} (hS : Stand T (b + 1) S) (ho : SlotOk T b o) (hl : T.length ≤ 1000000) : pkX T S o = b + 1 := by
  obtain ⟨g1, g2⟩ := hS.get hl
  rcases ho with rfl | ⟨c, hc, hx⟩
  · rw [(pk_one g2 (zer64_torn T).2).1, g1]
  · obtain ⟨k1, k2⟩ := hx.get hl
    rw [(pk_ge g2 k2 (by rw [g1, k1]; omega)).1, g1]
theorem pick_new1 {T : List ByteArray} {b : Int} {S o : ByteArray} (hS : Stand T (b + 1) S) (ho : SlotOk T b o) (hl : T.length ≤ 1000000) : pkX T o S = b + 1 := by
  obtain ⟨g1, g2⟩ := hS.get hl
  rcases ho with rfl | ⟨c, hc, hx⟩
  · rw [(pk_two (zer64_torn T).2 g2).1, g1]
  · obtain ⟨k1, k2⟩ := hx.get hl
    rw [(pk_lt k2 g2 (by rw [g1, k1]; omega)).1, g1]
theorem getD_set_ne {L : List ByteArray} {i j : Nat} {s : ByteArray} (h : i ≠ j) : (L.set i s).getD j ⟨#[]⟩ = L.getD j ⟨#[]⟩ := by simp [List.getD, h]
theorem getD_set_eq {L : List ByteArray} {i : Nat} {s : ByteArray} (h : i < L.length) : (L.set i s).getD i ⟨#[]⟩ = s := by simp [List.getD, h]
/-- Opening it. -/
theorem Calm.opened {most : Int} {ts : List ByteArray} {d : Dk} {b : Int} (h : Calm ts d b) (hr : (ts.length : Int) < most) (hb : b + 1 ≤ 1023) (hl : ts.length + 1 ≤ 1000000) :
    joE most ts d = 0 ∧ joB ts d = b + 1 ∧ joT most ts d = suT most ts (b + 1) ∧ (joD most ts d).kept.length = d.kept.length ∧ (∀ i, 2 ≤ i → (joD most ts d).kept.getD i ⟨#[]⟩ = d.kept.getD i ⟨#[]⟩) ∧ (joD most ts d).kept.drop 2 = d.kept.drop 2 ∧
      Calm (suT most ts (b + 1)) (joD most ts d) (b + 1) ∧ joJ most ts d = ⟨b + 1, (jnGo ts (d.kept.drop 2) 0 0).2, (jnGo ts (d.kept.drop 2) 0 0).1, false⟩ := by
  have h3 := h.three
  have hmay : suMay (b + 1) = true := (suMay_iff _).2 ⟨by have := h.b0; omega, hb⟩
  have r0 := (Dk.rd_dry h.dry h.up (i := 0) (by omega)).1
  have r1 := (Dk.rd_dry h.dry h.up (i := 1) (by omega)).1
  have eB : joB ts d = b + 1 := by
    unfold joB
    rw [show d.rdS 0 = d.kept.getD 0 ⟨#[]⟩ from r0, show d.rdS 1 = d.kept.getD 1 ⟨#[]⟩ from r1, h.pick]
  have eE : suE most ts (b + 1) = 0 := su_room hmay hr
  have jE : joE most ts d = 0 := by
    unfold joE
    rw [h.up, if_neg (by decide), if_neg (by omega), eB, eE, if_pos rfl]
  have jT : joT most ts d = suT most ts (b + 1) := by
    unfold joT
    rw [h.up, if_neg (by decide), if_neg (by omega), eB]
  have hS := Stand.made eE
  have hlen := suT_len (most := most) (ts := ts) (b + 1)
  have hPn : ∃ P : Nat, P < 2 ∧ joP ts d = (P : Int) := by
    unfold joP
    rcases pkP_two ts (d.rdS 0) (d.rdS 1) with c | c
    · exact ⟨0, by omega, by rw [c]; rfl⟩
    · exact ⟨1, by omega, by rw [c]; rfl⟩
  obtain ⟨P, hP, eP⟩ := hPn
  have jD : joD most ts d = ⟨d.kept.set P (suS most ts (b + 1)), [], false⟩ := by
    unfold joD
    rw [if_pos jE, eB, eP, Dk.wr_yes h.up (by omega) (su_size eE)]
    unfold Dk.fl
    rw [if_neg (by simp [h.up])]
    congr 1
    show keepAll d.kept (d.waits ++ [(P, suS most ts (b + 1))]) = _
    rw [h.dry]
    rfl
  have hkeep : ∀ i, 2 ≤ i → (d.kept.set P (suS most ts (b + 1))).getD i ⟨#[]⟩ = d.kept.getD i ⟨#[]⟩ := fun i hi => getD_set_ne (by omega)
  have hdrop : (d.kept.set P (suS most ts (b + 1))).drop 2 = d.kept.drop 2 := by rw [List.drop_set, if_pos hP]
  obtain ⟨n, hbk⟩ := h.bk
  have hcalm : Calm (suT most ts (b + 1)) (joD most ts d) (b + 1) := by
    rw [jD]
    refine ⟨rfl, rfl, set_sz h.sz (su_size eE), by rw [List.length_set]; exact h.three, by rw [List.length_set]; exact h.few, by have := h.b0; omega, ?_, ?_, ?_, ⟨0, hbk.su most (by omega) 0⟩, by omega⟩
    · by_cases c : P = 0
      · subst c
        rw [getD_set_eq (by omega)]
        exact .inr ⟨_, Int.le_refl _, hS⟩
      · rw [getD_set_ne (by omega)]
        exact (h.s0.keep most (b + 1)).more (by omega)
    · by_cases c : P = 1
      · subst c
        rw [getD_set_eq (by omega)]
        exact .inr ⟨_, Int.le_refl _, hS⟩
      · rw [getD_set_ne (by omega)]
        exact (h.s1.keep most (b + 1)).more (by omega)
    · by_cases c : P = 0
      · subst c
        rw [getD_set_eq (by omega), getD_set_ne (by omega)]
        exact pick_new0 hS (h.s1.keep most (b + 1)) (by omega)
      · have c1 : P = 1 := by omega
        subst c1
        rw [getD_set_eq (by omega), getD_set_ne (by omega)]
        exact pick_new1 hS (h.s0.keep most (b + 1)) (by omega)
  refine ⟨jE, eB, jT, by rw [jD]; exact List.length_set, by rw [jD]; exact hkeep, by rw [jD]; exact hdrop, hcalm, ?_⟩
  unfold joJ
  rw [jT, eB, Dk.see_dry hcalm.dry]
  have : (joD most ts d).kept.drop 2 = d.kept.drop 2 := by rw [jD]; exact hdrop
  rw [this, jnGo_su]
end Go.Proofs.YtbfpfmidjdonjaaGreatDoor

namespace Go.Proofs.YtbfpfmidjdonjaaGreatDoor
open Go

theorem Chain.last {ts : List ByteArray} {es : List Ev} {L : List ByteArray} {n : Nat} {l l' : Int} (h : Chain ts L n l es l') (h0 : 0 ≤ l) (h1 : l < ts.length) : 0 ≤ l' ∧ l' < ts.length := by
  induction es generalizing L n l with
  | nil => rw [Chain.nil] at h; subst h; exact ⟨h0, h1⟩
  | cons e es ih =>
    cases L with
    | nil => exact h.elim
    | cons s r =>
      obtain ⟨x, hx, _, hc⟩ := h
      obtain ⟨q, own⟩ := x
      obtain ⟨_, _, _, d, _, _⟩ := (rgOk_iff _ _ _ _ _ _).1 hx
      obtain ⟨d1, d2⟩ := ckI_in d
      have := idx_lt d1
      refine ih hc ?_ ?_
      · show 0 ≤ own; omega
      · show own < ts.length; omega
/-- A journal that is open over a calm disk. -/
structure Safe (ts : List ByteArray) (d : Dk) (J : Jn) : Prop where
  calm : Calm ts d J.boot
  chain : Chain ts (d.kept.drop 2) 0 0 J.all J.last
  stop : Stop ts (d.kept.drop (2 + J.all.length)) J.all.length J.last
  bk : BkI ts J.boot J.all.length
  l0 : 0 ≤ J.last
  l1 : J.last < ts.length
  b1 : 1 ≤ J.boot
  over : J.over = false
  hdr : ∀ m, J.all.length ≤ m → 2 + m < d.kept.length → Hdr (d.kept.getD (2 + m) ⟨#[]⟩) m J.boot
theorem Safe.fits {ts : List ByteArray} {d : Dk} {J : Jn} (h : Safe ts d J) : 2 + J.all.length ≤ d.kept.length := by
  have := h.chain.len
  rw [List.length_drop] at this
  have := h.calm.three
  omega
/-- Opened: safe. -/
theorem Calm.safe {most : Int} {ts : List ByteArray} {d : Dk} {b : Int} (h : Calm ts d b) (hr : (ts.length : Int) < most) (hb : b + 1 ≤ 1023) (hl : ts.length + 1 ≤ 1000000)
    (hh : ∀ m, (jnGo ts (d.kept.drop 2) 0 0).1.length ≤ m → 2 + m < d.kept.length → Hdr (d.kept.getD (2 + m) ⟨#[]⟩) m (b + 1)) : Safe (suT most ts (b + 1)) (joD most ts d) ⟨b + 1, (jnGo ts (d.kept.drop 2) 0 0).2, (jnGo ts (d.kept.drop 2) 0 0).1, false⟩ := by
  obtain ⟨_, _, _, q1, q2, q3, q4, _⟩ := h.opened hr hb hl
  obtain ⟨n, hbk⟩ := h.bk
  obtain ⟨c1, c2⟩ := jnGo_chain ts (d.kept.drop 2) 0 0
  have hS := Stand.made (su_room (most := most) ((suMay_iff (b + 1)).2 ⟨by have := h.b0; omega, hb⟩) hr)
  have hpos : 0 < (suT most ts (b + 1)).length := List.length_pos_of_mem hS.mem
  have hch : Chain (suT most ts (b + 1)) ((joD most ts d).kept.drop 2) 0 0 (jnGo ts (d.kept.drop 2) 0 0).1 (jnGo ts (d.kept.drop 2) 0 0).2 := by
    rw [q3]; exact c1.keep (Grow.su most ts (b + 1))
  obtain ⟨l0, l1⟩ := hch.last (Int.le_refl _) (by omega)
  refine ⟨q4, hch, ?_, hbk.su most (by omega) _, l0, l1, by show 1 ≤ b + 1; have := h.b0; omega, rfl, fun m h1 h2 => ?_⟩
  · intro s hs
    have e : (joD most ts d).kept.drop (2 + (jnGo ts (d.kept.drop 2) 0 0).1.length) = (d.kept.drop 2).drop (jnGo ts (d.kept.drop 2) 0 0).1.length := by
      rw [← List.drop_drop, q3]
    simp only at hs
    rw [e] at hs
    rw [rgOk_su]
    have := c2 s hs
    rw [Nat.zero_add] at this
    exact this
  · rw [q2 (2 + m) (by omega)]
    exact hh m h1 (by rw [q1] at h2; exact h2)
/-- What an Append does, as a whole. -/
structure Put (most : Int) (ts : List ByteArray) (d : Dk) (J : Jn) (es : List Ev) (ss : List ByteArray) (l' : Int) : Prop where
  ok : jpE most ts J d es = 0
  run : (jpGo most J.boot ts J.all.length J.last es).2 = some (ss, l')
  t : jpT most ts J d es = (jpGo most J.boot ts J.all.length J.last es).1
  s : jpS most ts J es = ss
  l : jpL most ts J es = l'
  bk : BkI (jpGo most J.boot ts J.all.length J.last es).1 J.boot (J.all.length + es.length)
  len : (jpGo most J.boot ts J.all.length J.last es).1.length = ts.length + es.length
  l0 : 0 ≤ l'
  l1 : l' < (jpGo most J.boot ts J.all.length J.last es).1.length
  none : es = [] → l' = J.last
  new : es ≠ [] → l' + 1 = (jpGo most J.boot ts J.all.length J.last es).1.length
  grow : Grow ts (jpGo most J.boot ts J.all.length J.last es).1
  ssl : ss.length = es.length
  ssz : ∀ s ∈ ss, s.size = 64
  chain : Chain (jpGo most J.boot ts J.all.length J.last es).1 ss J.all.length J.last es l'
theorem Safe.put {most : Int} {ts : List ByteArray} {d : Dk} {J : Jn} (h : Safe ts d J) (es : List Ev) (he : ∀ e ∈ es, e.may = true) (hroom : 2 + J.all.length + es.length ≤ d.kept.length) (hr : ((ts.length + es.length : Nat) : Int) ≤ most) (hl : ts.length + es.length ≤ 1000000) (hb : J.boot ≤ 1073741823) : ∃ ss l', Put most ts d J es ss l' := by
  have hfew := h.calm.few
  obtain ⟨ss, l', k1, k2, k3, k4, k5, k6, k7⟩ := jp_run (most := most) h.b1 hb es ts J.all.length J.last h.bk he hr h.l0 h.l1 (by omega) hl
  obtain ⟨c1, c2, c3⟩ := jpGo_chain k1
  have hall : es.all Ev.may = true := List.all_eq_true.2 he
  have hover : (J.over || d.down) = false := by rw [h.over, h.calm.up]; rfl
  have hrm : ¬ (d.kept.length : Int) - 2 - J.all.length < es.length := by omega
  refine ⟨ss, l', ?_, k1, ?_, by unfold jpS; rw [k1]; rfl, by unfold jpL; rw [k1]; rfl, k2, k3, k4, k5, k6, k7, (jpGo_grow most J.boot es ts J.all.length J.last).1, c1, c2, c3 _ (Grow.refl _) (by rw [k3]; exact hl)⟩
  · unfold jpE
    rw [hover, if_neg (by decide), hall, if_neg (by decide), if_neg hrm, k1]
    rfl
  · unfold jpT
    rw [hover, if_neg (by decide), hall, if_neg (by decide), if_neg hrm]
theorem setAll_at {L ss : List ByteArray} {i j : Nat} (h : i + ss.length ≤ L.length) (hj : j < i ∨ i + ss.length ≤ j) : (setAll L i ss).getD j ⟨#[]⟩ = L.getD j ⟨#[]⟩ := by
  rw [setAll_eq ss L i h]
  simp only [List.getD]
  congr 1
  rcases hj with c | c
  · rw [List.getElem?_append_left (by rw [List.length_take]; omega), List.getElem?_take_of_lt c]
  · rw [List.getElem?_append_right (by rw [List.length_take]; omega), List.length_take, Nat.min_eq_left (by omega), List.getElem?_append_right (by omega), List.getElem?_drop]
    congr 1
    omega
theorem setAll_drop {L ss : List ByteArray} {i k : Nat} (h : i + ss.length ≤ L.length) (hk : k ≤ i) : (setAll L i ss).drop k = (L.drop k).take (i - k) ++ (ss ++ L.drop (i + ss.length)) := by
  rw [setAll_eq ss L i h, List.drop_append_of_le_length (by rw [List.length_take]; omega), List.drop_take]
/-- Its chain, with what was put behind it. -/
theorem Put.whole {most : Int} {ts : List ByteArray} {d : Dk} {J : Jn} {es : List Ev} {ss : List ByteArray} {l' : Int} (p : Put most ts d J es ss l') (h : Safe ts d J) (hroom : 2 + J.all.length + es.length ≤ d.kept.length) :
    Chain (jpGo most J.boot ts J.all.length J.last es).1 ((setAll d.kept (2 + J.all.length) ss).drop 2) 0 0 (J.all ++ es) l' := by
  have hfit := h.fits
  rw [setAll_drop (by rw [p.ssl]; exact hroom) (by omega), show 2 + J.all.length - 2 = J.all.length by omega]
  have h1 : Chain (jpGo most J.boot ts J.all.length J.last es).1 ((d.kept.drop 2).take J.all.length) 0 0 J.all J.last := (h.chain.keep p.grow).on (by rw [List.take_take, Nat.min_self])
  refine h1.app (by rw [List.length_take, List.length_drop]; omega) ?_
  rw [Nat.zero_add]
  exact p.chain.on (by rw [List.take_append_of_le_length (by rw [p.ssl]; exact Nat.le_refl _)])
/-- An Append that is taken. -/
theorem Safe.append {most : Int} {ts : List ByteArray} {d : Dk} {J : Jn} (h : Safe ts d J) (es : List Ev) (he : ∀ e ∈ es, e.may = true) (hroom : 2 + J.all.length + es.length ≤ d.kept.length) (hr : ((ts.length + es.length : Nat) : Int) ≤ most) (hl : ts.length + es.length ≤ 1000000) (hb : J.boot ≤ 1073741823) :
    jpE most ts J d es = 0 ∧ (apJ most ts J d es).all = J.all ++ es ∧ (apJ most ts J d es).boot = J.boot ∧ (apD most ts J d es).kept.length = d.kept.length ∧ (jpT most ts J d es).length = ts.length + es.length ∧ Safe (jpT most ts J d es) (apD most ts J d es) (apJ most ts J d es) ∧
      (∀ m, J.all.length + es.length ≤ m → (apD most ts J d es).kept.getD (2 + m) ⟨#[]⟩ = d.kept.getD (2 + m) ⟨#[]⟩) := by
  obtain ⟨ss, l', p⟩ := h.put es he hroom hr hl hb
  have hd := h.calm.up
  obtain ⟨w1, w2, w3, w4⟩ := wrAll_yes ss d (2 + J.all.length) hd (by rw [p.ssl]; exact hroom) p.ssz
  have eD : apD most ts J d es = ⟨setAll d.kept (2 + J.all.length) ss, [], false⟩ := by
    unfold apD
    rw [if_pos p.ok, p.s]
    unfold Dk.fl
    rw [w2, if_neg (by decide), w3, Dk.see_dry h.calm.dry]
  have eJ : apJ most ts J d es = ⟨J.boot, l', J.all ++ es, J.over⟩ := by unfold apJ; rw [if_pos p.ok, p.l]
  rw [eJ, eD, p.t]
  have hsl : 2 + J.all.length + ss.length ≤ d.kept.length := by rw [p.ssl]; exact hroom
  have hat : ∀ i, (i < 2 + J.all.length ∨ 2 + J.all.length + es.length ≤ i) → (setAll d.kept (2 + J.all.length) ss).getD i ⟨#[]⟩ = d.kept.getD i ⟨#[]⟩ := fun i hi => setAll_at hsl (by rw [p.ssl]; exact hi)
  have hlen2 : (jpGo most J.boot ts J.all.length J.last es).1.length ≤ 1000000 := by rw [p.len]; exact hl
  have hsz : ∀ s ∈ setAll d.kept (2 + J.all.length) ss, s.size = 64 := fun s hs => by
    rw [setAll_eq ss d.kept _ hsl] at hs
    rcases List.mem_append.1 hs with a | a
    · exact h.calm.sz s (List.mem_of_mem_take a)
    · rcases List.mem_append.1 a with c | c
      · exact p.ssz s c
      · exact h.calm.sz s (List.mem_of_mem_drop c)
  refine ⟨p.ok, rfl, rfl, setAll_len _ _ _, p.len, ?_, fun m hm => hat _ (.inr (by omega))⟩
  have hcalm : Calm (jpGo most J.boot ts J.all.length J.last es).1 ⟨setAll d.kept (2 + J.all.length) ss, [], false⟩ J.boot := by
    refine ⟨rfl, rfl, hsz, by show 3 ≤ (setAll _ _ _).length; rw [setAll_len]; exact h.calm.three, by show (setAll _ _ _).length ≤ 256; rw [setAll_len]; exact h.calm.few, h.calm.b0, ?_, ?_, ?_, ⟨_, p.bk⟩, hlen2⟩
    · show SlotOk _ _ ((setAll d.kept (2 + J.all.length) ss).getD 0 ⟨#[]⟩)
      rw [hat 0 (.inl (by omega))]
      exact h.calm.s0.grow p.grow
    · show SlotOk _ _ ((setAll d.kept (2 + J.all.length) ss).getD 1 ⟨#[]⟩)
      rw [hat 1 (.inl (by omega))]
      exact h.calm.s1.grow p.grow
    · show pkX _ ((setAll d.kept (2 + J.all.length) ss).getD 0 ⟨#[]⟩) ((setAll d.kept (2 + J.all.length) ss).getD 1 ⟨#[]⟩) = J.boot
      rw [hat 0 (.inl (by omega)), hat 1 (.inl (by omega))]
      obtain ⟨a1, a2⟩ := h.calm.s0.same p.grow h.calm.len hlen2
      obtain ⟨c1, c2⟩ := h.calm.s1.same p.grow h.calm.len hlen2
      have := h.calm.pick
      unfold pkX at this ⊢
      rw [a1, a2, c1, c2]
      exact this
  refine ⟨hcalm, p.whole h hroom, ?_, ?_, p.l0, p.l1, h.b1, h.over, fun m h1 h2 => ?_⟩
  · by_cases c : es = []
    · subst c
      have hss : ss = [] := List.length_eq_zero_iff.1 p.ssl
      subst hss
      have hl' := p.none rfl
      subst hl'
      show Stop _ (List.drop (2 + (J.all ++ []).length) d.kept) (J.all ++ []).length J.last
      rw [List.append_nil]
      exact h.stop
    · exact p.bk.stop (p.new c) _ _
  · show BkI _ J.boot (J.all ++ es).length
    rw [List.length_append]
    exact p.bk
  · show Hdr ((setAll d.kept (2 + J.all.length) ss).getD (2 + m) ⟨#[]⟩) m J.boot
    simp only [List.length_append] at h1
    rw [hat _ (.inr (by omega))]
    exact h.hdr m (by omega) (by simp only [setAll_len] at h2; exact h2)
end Go.Proofs.YtbfpfmidjdonjaaGreatDoor

namespace Go.Proofs.YtbfpfmidjdonjaaGreatDoor
open Go

/-- The writes of sectors from the i-th on. -/
def wtsOf : Nat → List ByteArray → List Wt
  | _, [] => []
  | i, s :: r => (i, s) :: wtsOf (i + 1) r
theorem wrAll_waits (ss : List ByteArray) (d : Dk) (i : Nat) (hd : d.down = false) (hi : i + ss.length ≤ d.kept.length) (hs : ∀ s ∈ ss, s.size = 64) : wrAll d i ss = { d with waits := d.waits ++ wtsOf i ss } := by
  induction ss generalizing d i with
  | nil => simp [wrAll, wtsOf]
  | cons s r ih =>
    simp only [List.length_cons] at hi
    have h1 := Dk.wr_yes hd (show i < d.kept.length by omega) (hs s (by simp))
    unfold wrAll
    rw [h1, ih { d with waits := d.waits ++ [(i, s)] } (i + 1) hd (by show i + 1 + r.length ≤ d.kept.length; omega) (fun t ht => hs t (by simp [ht]))]
    simp [wtsOf]
theorem crkw_cons (m t j : Nat) (lost : Bool) (k : List ByteArray) (i : Nat) (s : ByteArray) (r : List Wt) : crk m t j lost k ((i, s) :: r) = if bitK m j then crk m t (j + 1) lost (k.set i s) r else if lost then crk m t (j + 1) true k r else crk m t (j + 1) true (k.set i (mixS s (k.getD i ⟨#[]⟩) t)) r := rfl
theorem crk_out (m t : Nat) (ss : List ByteArray) (j i : Nat) (lost : Bool) (k : List ByteArray) (x : Nat) (hx : x < i ∨ i + ss.length ≤ x) : (crk m t j lost k (wtsOf i ss)).getD x ⟨#[]⟩ = k.getD x ⟨#[]⟩ := by
  induction ss generalizing i j lost k with
  | nil => rfl
  | cons s r ih =>
    simp only [List.length_cons] at hx
    rw [wtsOf, crkw_cons]
    split
    · rw [ih _ _ _ _ (by omega), getD_set_ne (by omega)]
    · split
      · exact ih _ _ _ _ (by omega)
      · rw [ih _ _ _ _ (by omega), getD_set_ne (by omega)]
theorem crk_at (m t : Nat) (ss : List ByteArray) (j i : Nat) (lost : Bool) (k : List ByteArray) (hi : i + ss.length ≤ k.length) (q : Nat) (hq : q < ss.length) :
    (bitK m (j + q) = true ∧ (crk m t j lost k (wtsOf i ss)).getD (i + q) ⟨#[]⟩ = ss.getD q ⟨#[]⟩) ∨
    (bitK m (j + q) = false ∧ ((crk m t j lost k (wtsOf i ss)).getD (i + q) ⟨#[]⟩ = k.getD (i + q) ⟨#[]⟩ ∨ (crk m t j lost k (wtsOf i ss)).getD (i + q) ⟨#[]⟩ = mixS (ss.getD q ⟨#[]⟩) (k.getD (i + q) ⟨#[]⟩) t)) := by
  induction ss generalizing i j lost k q with
  | nil => simp at hq
  | cons s r ih =>
    simp only [List.length_cons] at hi hq
    rw [wtsOf, crkw_cons]
    cases q with
    | zero =>
      simp only [Nat.add_zero, List.getD_cons_zero]
      cases hb : bitK m j with
      | true =>
        rw [if_pos rfl, crk_out _ _ _ _ _ _ _ _ (by omega), getD_set_eq (by omega)]
        exact .inl ⟨rfl, rfl⟩
      | false =>
        rw [if_neg (by decide)]
        cases lost with
        | true =>
          rw [if_pos rfl, crk_out _ _ _ _ _ _ _ _ (by omega)]
          exact .inr ⟨rfl, .inl rfl⟩
        | false =>
          rw [if_neg (by decide), crk_out _ _ _ _ _ _ _ _ (by omega), getD_set_eq (by omega)]
          exact .inr ⟨rfl, .inr rfl⟩
    | succ q =>
      rw [List.getD_cons_succ, show j + (q + 1) = j + 1 + q by omega, show i + (q + 1) = i + 1 + q by omega]
      have key : ∀ (lo : Bool) (A : ByteArray), (bitK m (j + 1 + q) = true ∧ (crk m t (j + 1) lo (k.set i A) (wtsOf (i + 1) r)).getD (i + 1 + q) ⟨#[]⟩ = r.getD q ⟨#[]⟩) ∨
          (bitK m (j + 1 + q) = false ∧ ((crk m t (j + 1) lo (k.set i A) (wtsOf (i + 1) r)).getD (i + 1 + q) ⟨#[]⟩ = k.getD (i + 1 + q) ⟨#[]⟩ ∨ (crk m t (j + 1) lo (k.set i A) (wtsOf (i + 1) r)).getD (i + 1 + q) ⟨#[]⟩ = mixS (r.getD q ⟨#[]⟩) (k.getD (i + 1 + q) ⟨#[]⟩) t)) := fun lo A => by
        have h := ih (j + 1) (i + 1) lo (k.set i A) (by rw [List.length_set]; omega) q (by omega)
        rw [getD_set_ne (i := i) (j := i + 1 + q) (by omega)] at h
        exact h
      split
      · exact key _ _
      · split
        · exact ih (j + 1) (i + 1) true k (by omega) q (by omega)
        · exact key _ _
/-- What was put begins with its number and the boot. -/
theorem jpGo_heads {most b : Int} (es : List Ev) (ts : List ByteArray) (n : Nat) (l : Int) {ss : List ByteArray} {l' : Int} (h : (jpGo most b ts n l es).2 = some (ss, l')) (q : Nat) (hq : q < es.length) :
    ∃ r own, Rc.may r = true ∧ ss.getD q ⟨#[]⟩ = r.sec own ∧ r.seq = ((n + q : Nat) : Int) + 1 ∧ r.boot = b := by
  induction es generalizing ts n l ss q with
  | nil => simp at hq
  | cons e es ih =>
    unfold jpGo at h
    split at h
    · rename_i hE
      simp only at h
      cases hz : (jpGo most b (rcT most ts ⟨(n : Int) + 1, b, l, e⟩) (n + 1) (rcN most ts ⟨(n : Int) + 1, b, l, e⟩) es).2 with
      | none => rw [hz] at h; cases h
      | some z =>
        rw [hz] at h
        cases h
        cases q with
        | zero =>
          obtain ⟨p1, _, _, p4⟩ := put_in hE
          exact ⟨_, _, p1, p4, rfl, rfl⟩
        | succ q =>
          simp only [List.length_cons] at hq
          obtain ⟨r, own, a1, a2, a3, a4⟩ := ih _ (n + 1) _ hz q (by omega)
          exact ⟨r, own, a1, by rw [List.getD_cons_succ]; exact a2, by rw [a3]; omega, a4⟩
    · cases h
theorem list_getD {A B : List ByteArray} (hl : A.length = B.length) (h : ∀ i, i < A.length → A.getD i ⟨#[]⟩ = B.getD i ⟨#[]⟩) : A = B := by
  apply List.ext_getElem hl
  intro i h1 h2
  have := h i h1
  simpa [List.getD, h1, h2] using this
theorem getD_drop (A : List ByteArray) (k i : Nat) : (A.drop k).getD i ⟨#[]⟩ = A.getD (k + i) ⟨#[]⟩ := by simp [List.getD, List.getElem?_drop]
theorem getD_take {A : List ByteArray} {k i : Nat} (h : i < k) : (A.take k).getD i ⟨#[]⟩ = A.getD i ⟨#[]⟩ := by simp [List.getD, h]
theorem mix_zero {s o : ByteArray} (ho : o.size = 64) : mixS s o 0 = o := mix_old ho rfl
/-- Behind a crash: the disk can be opened, and a beginning of what was put is read. -/
theorem Safe.crash {most : Int} {ts : List ByteArray} {d : Dk} {J : Jn} {es : List Ev} {ss : List ByteArray} {l' : Int} (h : Safe ts d J) (p : Put most ts d J es ss l') (hne : es ≠ []) (he : ∀ e ∈ es, e.may = true) (hroom : 2 + J.all.length + es.length ≤ d.kept.length)
    (hr : ((ts.length + es.length : Nat) : Int) ≤ most) (hl : ts.length + es.length ≤ 1000000) (hb : J.boot ≤ 255) (hk : d.kept.length ≤ 255) {M : List ByteArray} (hM : M.length = d.kept.length) {t : Nat} (ht : t ≤ 64)
    (hout : ∀ x, x < 2 + J.all.length ∨ 2 + J.all.length + es.length ≤ x → M.getD x ⟨#[]⟩ = d.kept.getD x ⟨#[]⟩)
    (hat : ∀ q, q < es.length → M.getD (2 + J.all.length + q) ⟨#[]⟩ = ss.getD q ⟨#[]⟩ ∨ M.getD (2 + J.all.length + q) ⟨#[]⟩ = d.kept.getD (2 + J.all.length + q) ⟨#[]⟩ ∨ M.getD (2 + J.all.length + q) ⟨#[]⟩ = mixS (ss.getD q ⟨#[]⟩) (d.kept.getD (2 + J.all.length + q) ⟨#[]⟩) t) :
    Calm (jpGo most J.boot ts J.all.length J.last es).1 ⟨M, [], false⟩ J.boot ∧ (jnGo (jpGo most J.boot ts J.all.length J.last es).1 (M.drop 2) 0 0).1 = J.all ++ es.take (lead ss (M.drop (2 + J.all.length))) ∧
      ∀ m, J.all.length ≤ m → 2 + m < M.length → Hdr (M.getD (2 + m) ⟨#[]⟩) m J.boot := by
  have hb1 := h.b1
  have hssl := p.ssl
  have hat2 : ∀ q, q < es.length → ∃ u, u ≤ 64 ∧ (M.getD (2 + J.all.length + q) ⟨#[]⟩ = ss.getD q ⟨#[]⟩ ∨ M.getD (2 + J.all.length + q) ⟨#[]⟩ = mixS (ss.getD q ⟨#[]⟩) (d.kept.getD (2 + J.all.length + q) ⟨#[]⟩) u) := fun q hq => by
    rcases hat q hq with a | a | a
    · exact ⟨t, ht, .inl a⟩
    · exact ⟨0, by omega, .inr (by rw [a, mix_zero (getD_sz h.calm.sz (by omega))])⟩
    · exact ⟨t, ht, .inr a⟩
  have hhdr : ∀ m, J.all.length ≤ m → 2 + m < M.length → Hdr (M.getD (2 + m) ⟨#[]⟩) m J.boot := fun m h1 h2 => by
    by_cases c : m < J.all.length + es.length
    · obtain ⟨q, rfl⟩ : ∃ q, m = J.all.length + q := ⟨m - J.all.length, by omega⟩
      have hq : q < es.length := by omega
      rw [← Nat.add_assoc]
      have ho := h.hdr (J.all.length + q) (by omega) (by omega)
      rw [← Nat.add_assoc] at ho
      obtain ⟨r, own, r1, r2, r3, r4⟩ := jpGo_heads es ts J.all.length J.last p.run q hq
      have h4 : by4 (ss.getD q ⟨#[]⟩) = [1, b8 (J.all.length + q + 1), 1, b8 J.boot.toNat] := by
        rw [r2, by4_sec (m := J.all.length + q) r1 r3 (by omega) (by omega), r4]
      have hsz : (ss.getD q ⟨#[]⟩).size = 64 := getD_sz p.ssz (by omega)
      obtain ⟨u, hu, a | a⟩ := hat2 q hq
      · rw [a]
        exact ⟨hsz, .inr (.inr (.inr (.inr ⟨J.boot.toNat, by omega, by omega, h4⟩)))⟩
      · rw [a]
        exact (mix_is hsz h4 (by omega) (by omega) hb (by omega) ho hu).1
    · rw [hout _ (.inr (by omega))]
      exact h.hdr m h1 (by omega)
  have hsize : ∀ s ∈ M, s.size = 64 := fun s hs => by
    obtain ⟨i, hi, rfl⟩ := List.getElem_of_mem hs
    have e : M[i] = M.getD i ⟨#[]⟩ := by simp [List.getD, hi]
    rw [e]
    by_cases c : i < 2 + J.all.length
    · rw [hout i (.inl c)]; exact getD_sz h.calm.sz (by omega)
    · have := hhdr (i - 2) (by omega) (by omega)
      rw [show 2 + (i - 2) = i by omega] at this
      exact this.1
  have hlen2 : (jpGo most J.boot ts J.all.length J.last es).1.length ≤ 1000000 := by rw [p.len]; exact hl
  refine ⟨?_, ?_, hhdr⟩
  · refine ⟨rfl, rfl, hsize, by show 3 ≤ M.length; rw [hM]; exact h.calm.three, by show M.length ≤ 256; rw [hM]; exact h.calm.few, h.calm.b0, ?_, ?_, ?_, ⟨_, p.bk⟩, hlen2⟩
    · show SlotOk _ _ (M.getD 0 ⟨#[]⟩)
      rw [hout 0 (.inl (by omega))]
      exact h.calm.s0.grow p.grow
    · show SlotOk _ _ (M.getD 1 ⟨#[]⟩)
      rw [hout 1 (.inl (by omega))]
      exact h.calm.s1.grow p.grow
    · show pkX _ (M.getD 0 ⟨#[]⟩) (M.getD 1 ⟨#[]⟩) = J.boot
      rw [hout 0 (.inl (by omega)), hout 1 (.inl (by omega))]
      obtain ⟨a1, a2⟩ := h.calm.s0.same p.grow h.calm.len hlen2
      obtain ⟨c1, c2⟩ := h.calm.s1.same p.grow h.calm.len hlen2
      have := h.calm.pick
      unfold pkX at this ⊢
      rw [a1, a2, c1, c2]
      exact this
  · have hch : Chain (jpGo most J.boot ts J.all.length J.last es).1 (M.drop 2) 0 0 J.all J.last := (h.chain.keep p.grow).on (list_getD (by rw [List.length_take, List.length_take, List.length_drop, List.length_drop, hM]) fun i hi => by
      rw [List.length_take] at hi
      rw [getD_take (by omega), getD_take (by omega), getD_drop, getD_drop]
      exact hout _ (.inl (by omega)))
    rw [jnGo_pre hch]
    simp only
    rw [List.drop_drop, Nat.zero_add]
    have hread := first_read (most := most) hb1 (by omega) es ts J.all.length J.last h.bk he hr h.l0 h.l1 (by omega) hl p.run (M.drop (2 + J.all.length)) (by rw [List.length_drop]; omega) hne ?_
    · rw [hread.1]
    · intro A s hA hs hAs
      obtain ⟨e, es', rfl⟩ : ∃ e es', es = e :: es' := by
        cases es with
        | nil => exact absurd rfl hne
        | cons e es' => exact ⟨e, es', rfl⟩
      have hA0 : A = M.getD (2 + J.all.length + 0) ⟨#[]⟩ := by
        rw [List.head?_drop] at hA
        simp [List.getD, hA]
      have hs0 : s = ss.getD 0 ⟨#[]⟩ := by
        rw [List.head?_eq_getElem?] at hs
        simp [List.getD, hs]
      obtain ⟨u, hu, a | a⟩ := hat2 0 (by simp)
      · exact absurd (by rw [hA0, hs0, a]) hAs
      · have hm := ev_rc (n := J.all.length) (l := J.last) hb1 (by omega : J.boot ≤ 1073741823) (he e (by simp)) h.l0 (by have := h.l1; have := h.calm.len; omega) (by have := h.calm.few; omega)
        have hr' : (ts.length : Int) < most := by simp only [List.length_cons] at hr; omega
        obtain ⟨k1, k2, k3, k4⟩ := h.bk.rc (most := most) hm hr' h.l1
        have hhead : ss.getD 0 ⟨#[]⟩ = rcS most ts ⟨(J.all.length : Int) + 1, J.boot, J.last, e⟩ := by
          have hrun := p.run
          unfold jpGo at hrun
          rw [if_pos k1] at hrun
          simp only at hrun
          cases hz : (jpGo most J.boot (rcT most ts ⟨(J.all.length : Int) + 1, J.boot, J.last, e⟩) (J.all.length + 1) (rcN most ts ⟨(J.all.length : Int) + 1, J.boot, J.last, e⟩) es').2 with
          | none => rw [hz] at hrun; cases hrun
          | some z =>
            rw [hz] at hrun
            simp only [Option.map_some, Option.some.injEq, Prod.mk.injEq] at hrun
            rw [← hrun.1]
            rfl
        have ho := h.hdr J.all.length (Nat.le_refl _) (by simp only [List.length_cons] at hroom; omega)
        have hstop : rgOk ts (d.kept.getD (2 + J.all.length) ⟨#[]⟩) ((J.all.length : Int) + 1) J.last = none := h.stop _ (by
          rw [List.head?_drop]
          have hlt : 2 + J.all.length < d.kept.length := by simp only [List.length_cons] at hroom; omega
          simp [List.getD, hlt])
        refine torn_first (es := es') hb1 hb (by simp only [List.length_cons] at hroom; omega) h.bk (he e (by simp)) hr' h.l0 h.l1 hl ho hstop hu ?_ ?_
        · rw [hA0, a, hhead]; rfl
        · rw [← hhead, ← hs0]; exact hAs
/-- Opened again: the same events. -/
theorem Safe.reopen {most : Int} {ts : List ByteArray} {d : Dk} {J : Jn} (h : Safe ts d J) (hr : (ts.length : Int) < most) (hb : J.boot + 1 ≤ 1023) (hl : ts.length + 1 ≤ 1000000) :
    joE most ts d = 0 ∧ joJ most ts d = ⟨J.boot + 1, J.last, J.all, false⟩ ∧ (joT most ts d).length ≤ ts.length + 1 ∧ (joD most ts d).kept.length = d.kept.length ∧ (∀ i, 2 ≤ i → (joD most ts d).kept.getD i ⟨#[]⟩ = d.kept.getD i ⟨#[]⟩) ∧ Safe (joT most ts d) (joD most ts d) (joJ most ts d) := by
  have hgo : jnGo ts (d.kept.drop 2) 0 0 = (J.all, J.last) := jnGo_of h.chain (by
    rw [List.drop_drop, Nat.zero_add]
    exact h.stop)
  obtain ⟨q1, q2, q3, q4, q5, q6, q7, q8⟩ := h.calm.opened hr hb hl
  have hs := h.calm.safe hr hb hl (fun m h1 h2 => by
    rw [hgo] at h1
    exact (h.hdr m h1 h2).more (by omega))
  rw [hgo] at q8 hs
  refine ⟨q1, q8, by rw [q3]; exact suT_len _, q4, q5, ?_⟩
  rw [q3, q8]
  exact hs
theorem lead_is {ss M : List ByteArray} {c : Nat} (h : ∀ q, q < c → M.getD q ⟨#[]⟩ = ss.getD q ⟨#[]⟩) (hc : c < ss.length) (hM : c < M.length) (hne : M.getD c ⟨#[]⟩ ≠ ss.getD c ⟨#[]⟩) : lead ss M = c := by
  induction c generalizing ss M with
  | zero =>
    cases ss with
    | nil => simp at hc
    | cons s ss =>
      cases M with
      | nil => simp at hM
      | cons a M => exact lead_no (by simpa using hne) ss M
  | succ c ih =>
    cases ss with
    | nil => simp at hc
    | cons s ss =>
      cases M with
      | nil => simp at hM
      | cons a M =>
        have h0 : a = s := by simpa using h 0 (by omega)
        subst h0
        rw [lead_yes, ih (fun q hq => by simpa using h (q + 1) (by omega)) (by simpa using hc) (by simpa using hM) (by simpa using hne)]
end Go.Proofs.YtbfpfmidjdonjaaGreatDoor

namespace Go.Proofs.YtbfpfmidjdonjaaGreatDoor
open Go

theorem getD_rep {n i : Nat} (h : i < n) : (List.replicate n zer64).getD i ⟨#[]⟩ = zer64 := by simp [List.getD, h]
theorem calm_new {n : Nat} (h1 : 3 ≤ n) (h2 : n ≤ 256) : Calm [] (Dk.new n) 0 := by
  refine ⟨rfl, rfl, fun s hs => by rw [List.eq_of_mem_replicate hs]; rfl, by simpa [Dk.new] using h1, by simpa [Dk.new] using h2, Int.le_refl _, ?_, ?_, ?_, ⟨0, BkI.none (fun r hr => by cases hr) 0 0⟩, by simp⟩
  · show SlotOk [] 0 ((List.replicate n zer64).getD 0 ⟨#[]⟩)
    rw [getD_rep (by omega)]; exact .inl rfl
  · show SlotOk [] 0 ((List.replicate n zer64).getD 1 ⟨#[]⟩)
    rw [getD_rep (by omega)]; exact .inl rfl
  · show pkX [] ((List.replicate n zer64).getD 0 ⟨#[]⟩) ((List.replicate n zer64).getD 1 ⟨#[]⟩) = 0
    rw [getD_rep (by omega), getD_rep (by omega)]
    exact (pk_none (zer64_torn []).2 (zer64_torn []).2).1
theorem hdr_zero (m : Nat) (b : Int) : Hdr zer64 m b := ⟨rfl, .inl (by decide)⟩
theorem rg_zero (ts : List ByteArray) (seq prev : Int) (h : ts = []) : rgOk ts zer64 seq prev = none := by
  cases hx : rgOk ts zer64 seq prev with
  | none => rfl
  | some x =>
    obtain ⟨r, own⟩ := x
    obtain ⟨_, _, _, d, _, _⟩ := (rgOk_iff _ _ _ _ _ _).1 hx
    have := (ckI_in d).1
    rw [h] at this
    cases this
/-- A new disk, opened. -/
theorem start_safe {most : Int} {n : Nat} (hm : 1 ≤ most) (h1 : 3 ≤ n) (h2 : n ≤ 256) :
    joE most [] (Dk.new n) = 0 ∧ joJ most [] (Dk.new n) = ⟨1, 0, [], false⟩ ∧ Safe (joT most [] (Dk.new n)) (joD most [] (Dk.new n)) (joJ most [] (Dk.new n)) ∧ (joT most [] (Dk.new n)).length ≤ 1 ∧ (joD most [] (Dk.new n)).kept.length = n ∧ ∀ i, 2 ≤ i → i < n → (joD most [] (Dk.new n)).kept.getD i ⟨#[]⟩ = zer64 := by
  have hc := calm_new h1 h2
  have hr : (([] : List ByteArray).length : Int) < most := by simp; omega
  obtain ⟨q1, q2, q3, q4, q5, q6, q7, q8⟩ := hc.opened hr (by decide) (by simp)
  have hgo : jnGo [] ((Dk.new n).kept.drop 2) 0 0 = ([], 0) := jnGo_stop fun s hs => by
    have : s = zer64 := by
      have hmem : s ∈ (Dk.new n).kept.drop 2 := List.mem_of_mem_head? hs
      exact List.eq_of_mem_replicate (List.mem_of_mem_drop hmem)
    rw [this]
    exact rg_zero [] _ _ rfl
  have hs := hc.safe hr (by decide) (by simp) (fun m _ hm => by
    have : (Dk.new n).kept.getD (2 + m) ⟨#[]⟩ = zer64 := getD_rep (by simpa [Dk.new] using hm)
    rw [this]
    exact hdr_zero m _)
  rw [hgo] at q8 hs
  refine ⟨q1, by rw [q8]; rfl, by rw [q3, q8]; exact hs, by rw [q3]; have := suT_len (most := most) (ts := []) (0 + 1); simpa using this, by rw [q4]; simp [Dk.new], fun i hi hin => ?_⟩
  rw [q5 i hi]
  exact getD_rep hin
/-- The event of a spent ticket. -/
abbrev spE (s : Int) : Ev := ⟨9, 0, s, 0, 0, 0, 0, 0⟩
theorem spE_may {s : Int} (h1 : 0 ≤ s) (h2 : s ≤ 1073741823) : (spE s).may = true := by
  have ho : okNum s = true := (okNum_iff _).2 ⟨h1, h2⟩
  have h0 : okNum 0 = true := by decide
  refine (Ev.may_iff _).2 ⟨(Ev.rng_iff _).2 ⟨(by decide : (0 : Int) ≤ 0), (by decide : (0 : Int) ≤ 7), (by decide : (0 : Int) ≤ 0), (by decide : (0 : Int) ≤ 15), (by decide : (0 : Int) ≤ 0), (by decide : (0 : Int) ≤ 1048575), (by decide : (0 : Int) ≤ 0), (by decide : (0 : Int) ≤ 1048576), ho, h0, h0⟩, rfl, rfl⟩
theorem Safe.full {most : Int} {ts : List ByteArray} {d : Dk} {J : Jn} (h : Safe ts d J) (es : List Ev) (he : ∀ e ∈ es, e.may = true) (hroom : d.kept.length < 2 + J.all.length + es.length) :
    jpE most ts J d es = 1101 ∧ jpT most ts J d es = ts := by
  have hover : (J.over || d.down) = false := by rw [h.over, h.calm.up]; rfl
  have hall : ¬ es.all Ev.may = false := by rw [List.all_eq_true.2 he]; decide
  unfold jpE jpT
  rw [hover, if_neg (by decide), if_neg hall, if_pos (by omega), if_neg (by decide), if_neg hall, if_pos (by omega)]
  exact ⟨rfl, rfl⟩
end Go.Proofs.YtbfpfmidjdonjaaGreatDoor

namespace Go.Proofs.YtbfpfmidjdonjaaGreatDoor
open Go

theorem Dk.see_len (d : Dk) : d.see.length = d.kept.length := keepAll_len _ _
theorem Dk.has_see (d : Dk) (i : Int) : (Dk.mk d.see [] false).has i = d.has i := by
  show (decide (0 ≤ i) && decide (i < (d.see.length : Nat))) = _
  rw [Dk.see_len]; rfl
theorem Dk.rds_see {d : Dk} (hd : d.down = false) (i : Int) : (Dk.mk d.see [] false).rdS i = d.rdS i := by
  unfold Dk.rdS
  rw [Dk.has_see, hd]; rfl
theorem Dk.wrfl_see {d : Dk} (hd : d.down = false) (i : Int) (s : ByteArray) : ((Dk.mk d.see [] false).wr i s).fl = (d.wr i s).fl := by
  unfold Dk.wr
  rw [Dk.has_see]
  obtain ⟨k, ws, dn⟩ := d
  have hdn : dn = false := hd
  subst hdn
  cases c : (Dk.has ⟨k, ws, false⟩ i && decide (s.size = 64)) with
  | false => rfl
  | true =>
    show Dk.mk (keepAll (keepAll k ws) [(i.toNat, s)]) [] false = Dk.mk (keepAll k (ws ++ [(i.toNat, s)])) [] false
    rw [keepAll_snoc]; rfl
/-- Open looks at what is seen alone. -/
theorem jo_see {most : Int} {ts : List ByteArray} {d : Dk} (hd : d.down = false) :
    joE most ts ⟨d.see, [], false⟩ = joE most ts d ∧ joT most ts ⟨d.see, [], false⟩ = joT most ts d ∧ (joE most ts d = 0 → joD most ts ⟨d.see, [], false⟩ = joD most ts d ∧ joJ most ts ⟨d.see, [], false⟩ = joJ most ts d) := by
  have e0 := Dk.rds_see hd 0
  have e1 := Dk.rds_see hd 1
  have eB : joB ts ⟨d.see, [], false⟩ = joB ts d := by unfold joB; rw [e0, e1]
  have eP : joP ts ⟨d.see, [], false⟩ = joP ts d := by unfold joP; rw [e0, e1]
  have el : (Dk.mk d.see [] false).kept.length = d.kept.length := Dk.see_len d
  have eE : joE most ts ⟨d.see, [], false⟩ = joE most ts d := by unfold joE; rw [eB, el, hd]
  have eT : joT most ts ⟨d.see, [], false⟩ = joT most ts d := by unfold joT; rw [eB, el, hd]
  refine ⟨eE, eT, fun h => ?_⟩
  have eD : joD most ts ⟨d.see, [], false⟩ = joD most ts d := by
    unfold joD
    rw [if_pos (eE.trans h), if_pos h, eB, eP, Dk.wrfl_see hd]
  refine ⟨eD, ?_⟩
  unfold joJ
  rw [eT, eB, eD]
theorem Calm.other {ts : List ByteArray} {d : Dk} {b : Int} (h : Calm ts d b) {M : List ByteArray} (hl : M.length = d.kept.length) (hs : ∀ s ∈ M, s.size = 64) (h01 : ∀ i, i < 2 → M.getD i ⟨#[]⟩ = d.kept.getD i ⟨#[]⟩) : Calm ts ⟨M, [], false⟩ b := by
  refine ⟨rfl, rfl, hs, by show 3 ≤ M.length; rw [hl]; exact h.three, by show M.length ≤ 256; rw [hl]; exact h.few, h.b0, ?_, ?_, ?_, h.bk, h.len⟩
  · show SlotOk ts b (M.getD 0 ⟨#[]⟩); rw [h01 0 (by omega)]; exact h.s0
  · show SlotOk ts b (M.getD 1 ⟨#[]⟩); rw [h01 1 (by omega)]; exact h.s1
  · show pkX ts (M.getD 0 ⟨#[]⟩) (M.getD 1 ⟨#[]⟩) = b; rw [h01 0 (by omega), h01 1 (by omega)]; exact h.pick
/-- Two sectors written by hand, and opened. -/
theorem Calm.wrote {most : Int} {ts : List ByteArray} {d : Dk} {b : Int} (h : Calm ts d b) (hr : (ts.length : Int) < most) (hb : b + 1 ≤ 1023) (hl : ts.length + 1 ≤ 1000000) {i j : Nat} (hi2 : 2 ≤ i) (hi : i < d.kept.length) (hj2 : 2 ≤ j) (hj : j < d.kept.length) {s t : ByteArray} (hs : s.size = 64) (ht : t.size = 64) :
    ((d.wr (i : Int) s).wr (j : Int) t).Ok ∧ ((d.wr (i : Int) s).wr (j : Int) t).waits.length ≤ 2 ∧ ((d.wr (i : Int) s).wr (j : Int) t).kept.length = d.kept.length ∧ (d.wr (i : Int) s).waits.length ≤ 1 ∧ joE most ts ((d.wr (i : Int) s).wr (j : Int) t) = 0 ∧
      joT most ts ((d.wr (i : Int) s).wr (j : Int) t) = suT most ts (b + 1) ∧ Calm (suT most ts (b + 1)) (joD most ts ((d.wr (i : Int) s).wr (j : Int) t)) (b + 1) ∧ (joD most ts ((d.wr (i : Int) s).wr (j : Int) t)).kept.length = d.kept.length ∧
      (∀ x, 2 ≤ x → (joD most ts ((d.wr (i : Int) s).wr (j : Int) t)).kept.getD x ⟨#[]⟩ = ((d.kept.set i s).set j t).getD x ⟨#[]⟩) ∧ (joJ most ts ((d.wr (i : Int) s).wr (j : Int) t)).all = (jnGo ts (((d.kept.set i s).set j t).drop 2) 0 0).1 := by
  have e1 : d.wr (i : Int) s = ⟨d.kept, [(i, s)], false⟩ := by
    rw [Dk.wr_yes h.up hi hs, h.dry]
    obtain ⟨k, ws, dn⟩ := d
    have : dn = false := h.up
    subst this; rfl
  have e2 : (d.wr (i : Int) s).wr (j : Int) t = ⟨d.kept, [(i, s), (j, t)], false⟩ := by
    rw [e1, Dk.wr_yes (d := ⟨d.kept, [(i, s)], false⟩) rfl hj ht]; rfl
  have hsee : (Dk.mk d.kept [(i, s), (j, t)] false).see = (d.kept.set i s).set j t := rfl
  have hsz : ∀ x ∈ (d.kept.set i s).set j t, x.size = 64 := set_sz (set_sz h.sz hs) ht
  have hlen : ((d.kept.set i s).set j t).length = d.kept.length := by rw [List.length_set, List.length_set]
  have hc : Calm ts ⟨(d.kept.set i s).set j t, [], false⟩ b := h.other hlen hsz fun x hx => by
    rw [getD_set_ne (by omega), getD_set_ne (by omega)]
  obtain ⟨q1, q2, q3, q4, q5, q6, q7, q8⟩ := hc.opened hr hb hl
  obtain ⟨s1, s2, s3⟩ := jo_see (most := most) (ts := ts) (d := Dk.mk d.kept [(i, s), (j, t)] false) rfl
  rw [hsee] at s1 s2 s3
  have h0 : joE most ts ⟨d.kept, [(i, s), (j, t)], false⟩ = 0 := s1.symm.trans q1
  obtain ⟨s4, s5⟩ := s3 h0
  rw [e2, e1]
  refine ⟨⟨by show 1 ≤ d.kept.length; omega, h.few, h.sz, fun x hx => ?_⟩, by simp, rfl, by simp, h0, s2.symm.trans q3, by rw [← s4]; exact q7, by rw [← s4, q4]; exact hlen, fun x hx => by rw [← s4]; exact q5 x hx, by rw [← s5, q8]⟩
  simp at hx
  rcases hx with rfl | rfl
  · exact ⟨hi, hs⟩
  · exact ⟨hj, ht⟩
theorem Chain.at {ts : List ByteArray} {es : List Ev} {L : List ByteArray} {n : Nat} {l l' : Int} (h : Chain ts L n l es l') {q : Nat} (hq : q < es.length) : ∃ x l0, rgOk ts (L.getD q ⟨#[]⟩) (((n + q : Nat) : Int) + 1) l0 = some x := by
  induction es generalizing L n l q with
  | nil => cases hq
  | cons e es ih =>
    cases L with
    | nil => exact h.elim
    | cons s r =>
      obtain ⟨x, hx, _, hc⟩ := h
      cases q with
      | zero => exact ⟨x, l, hx⟩
      | succ q =>
        obtain ⟨y, l0, hy⟩ := ih hc (q := q) (by simpa using hq)
        refine ⟨y, l0, ?_⟩
        rw [show n + (q + 1) = n + 1 + q by omega]
        exact hy
theorem Chain.cut {ts : List ByteArray} {es : List Ev} {L : List ByteArray} {n : Nat} {l l' : Int} (h : Chain ts L n l es l') (m : Nat) : ∃ l1, Chain ts L n l (es.take m) l1 := by
  induction es generalizing L n l m with
  | nil => exact ⟨l, by rw [List.take_nil]; exact Chain.nil.2 rfl⟩
  | cons e es ih =>
    cases m with
    | zero => exact ⟨l, Chain.nil.2 rfl⟩
    | succ m =>
      cases L with
      | nil => exact h.elim
      | cons s r =>
        obtain ⟨x, hx, he, hc⟩ := h
        obtain ⟨l1, h1⟩ := ih hc m
        exact ⟨l1, x, hx, he, h1⟩
/-- A sector of another number ends the journal. -/
theorem jnGo_cut {ts : List ByteArray} {es : List Ev} {L M : List ByteArray} {l l' : Int} (h : Chain ts L 0 l es l') {m q : Nat} (hm : m < es.length) (hq : q < es.length) (hne : q ≠ m) (hag : M.take m = L.take m) (hat : M.getD m ⟨#[]⟩ = L.getD q ⟨#[]⟩) : (jnGo ts M 0 l).1 = es.take m := by
  obtain ⟨l1, h1⟩ := h.cut m
  have hl : (es.take m).length = m := by rw [List.length_take]; omega
  have h2 : Chain ts M 0 l (es.take m) l1 := h1.on (by rw [hl]; exact hag)
  rw [jnGo_of h2]
  intro s hs
  rw [hl] at hs ⊢
  have hsm : s = L.getD q ⟨#[]⟩ := by
    rw [← hat]
    rw [List.head?_drop] at hs
    simp [List.getD, hs]
  obtain ⟨x, l0, hx⟩ := h.at hq
  cases hy : rgOk ts s (((0 + m : Nat) : Int) + 1) l1 with
  | none => rfl
  | some y =>
    exfalso
    obtain ⟨r, own⟩ := x
    obtain ⟨r2, own2⟩ := y
    obtain ⟨a1, a2, a3, a4, a5, a6⟩ := (rgOk_iff _ _ _ _ _ _).1 hx
    obtain ⟨b1, b2, b3, b4, b5, b6⟩ := (rgOk_iff _ _ _ _ _ _).1 hy
    have f1 := (rcFind_iff _ _ _ _).2 ⟨a1, a2, a3, a4⟩
    have f2 := (rcFind_iff _ _ _ _).2 ⟨b1, b2, b3, b4⟩
    rw [hsm, f1] at f2
    simp only [Option.some.injEq, Prod.mk.injEq] at f2
    rw [f2.1] at a5
    omega
theorem take_of_getD {L M : List ByteArray} (hl : M.length = L.length) {m : Nat} (h : ∀ x, x < m → M.getD x ⟨#[]⟩ = L.getD x ⟨#[]⟩) : M.take m = L.take m := by
  refine List.ext_getElem (by simp [hl]) fun x h1 h2 => ?_
  simp only [List.getElem_take]
  have hx : x < m ∧ x < M.length := by rw [List.length_take] at h1; omega
  have := h x hx.1
  rw [List.getD, List.getD, List.getElem?_eq_getElem hx.2, List.getElem?_eq_getElem (by omega)] at this
  simpa using this
/-- Two sectors change places, and come back. -/
theorem Safe.swapped {ts : List ByteArray} {d : Dk} {J : Jn} (h : Safe ts d J) {most : Int} (hr : (ts.length : Int) + 1 < most) (hb : J.boot = 1) (hl : ts.length ≤ 1000) {p q : Nat} (hp : p < J.all.length) (hq : q < J.all.length) {s t : ByteArray} (hs : d.kept.getD (2 + p) ⟨#[]⟩ = s) (ht : d.kept.getD (2 + q) ⟨#[]⟩ = t) {D1 : Dk} (h1 : (d.wr ((2 + p : Nat) : Int) t).wr ((2 + q : Nat) : Int) s = D1) :
    D1.Ok ∧ D1.waits.length ≤ 2 ∧ D1.kept.length = d.kept.length ∧ (d.wr ((2 + p : Nat) : Int) t).waits.length ≤ 1 ∧ joE most ts D1 = 0 ∧ (joT most ts D1).length ≤ 1001 ∧ (joD most ts D1).waits.length = 0 ∧ (joD most ts D1).kept.length = d.kept.length ∧ (joJ most ts D1).all = J.all.take (if p = q then J.all.length else min p q) ∧
      ∀ D3, ((joD most ts D1).wr ((2 + p : Nat) : Int) s).wr ((2 + q : Nat) : Int) t = D3 → D3.Ok ∧ D3.waits.length ≤ 2 ∧ D3.kept.length = d.kept.length ∧ ((joD most ts D1).wr ((2 + p : Nat) : Int) s).waits.length ≤ 1 ∧ joE most (joT most ts D1) D3 = 0 ∧ (joJ most (joT most ts D1) D3).all = J.all := by
  subst h1
  have hf := h.fits
  have hsz : s.size = 64 := by rw [← hs]; exact getD_sz h.calm.sz (by omega)
  have htz : t.size = 64 := by rw [← ht]; exact getD_sz h.calm.sz (by omega)
  obtain ⟨a1, a2, a3, a4, a5, a6, a7, a8, a9, a10⟩ := h.calm.wrote (most := most) (by omega) (by omega) (by omega) (i := 2 + p) (j := 2 + q) (by omega) (by omega) (by omega) (by omega) htz hsz
  have hT := suT_len (most := most) (ts := ts) (J.boot + 1)
  have hgo : jnGo ts (d.kept.drop 2) 0 0 = (J.all, J.last) := jnGo_of h.chain (by
    rw [List.drop_drop, Nat.zero_add]
    exact h.stop)
  refine ⟨a1, a2, a3, a4, a5, by rw [a6]; omega, by rw [a7.dry]; rfl, a8, ?_, ?_⟩
  · rw [a10]
    by_cases hpq : p = q
    · rw [if_pos hpq]
      subst hpq
      have est : s = t := hs.symm.trans ht
      subst est
      have e : (d.kept.set (2 + p) s).set (2 + p) s = d.kept := by
        rw [List.set_set, ← hs]
        refine List.ext_getElem (by simp) fun x g1 g2 => ?_
        rw [List.getElem_set]
        split
        · rename_i c
          subst c
          rw [List.getD, List.getElem?_eq_getElem g2]; rfl
        · rfl
      rw [e, hgo, List.take_length]
    · rw [if_neg hpq]
      have hlen : ((d.kept.set (2 + p) t).set (2 + q) s).length = d.kept.length := by rw [List.length_set, List.length_set]
      have hat : ∀ x, (((d.kept.set (2 + p) t).set (2 + q) s).drop 2).getD x ⟨#[]⟩ = if x = q then s else if x = p then t else (d.kept.drop 2).getD x ⟨#[]⟩ := fun x => by
        rw [getD_drop, getD_drop]
        split
        · rename_i c
          subst c
          exact getD_set_eq (by rw [List.length_set]; omega)
        · rename_i c
          rw [getD_set_ne (by omega)]
          split
          · rename_i c2
            subst c2
            exact getD_set_eq (by omega)
          · rw [getD_set_ne (by omega)]
      have hL : (((d.kept.set (2 + p) t).set (2 + q) s).drop 2).length = (d.kept.drop 2).length := by rw [List.length_drop, List.length_drop, hlen]
      by_cases hlt : p < q
      · rw [Nat.min_eq_left (by omega)]
        refine jnGo_cut h.chain hp hq (by omega) (take_of_getD hL fun x hx => ?_) ?_
        · rw [hat x, if_neg (by omega), if_neg (by omega)]
        · rw [hat p, if_neg hpq, if_pos rfl, getD_drop]; exact ht.symm
      · rw [Nat.min_eq_right (by omega)]
        refine jnGo_cut h.chain hq hp hpq (take_of_getD hL fun x hx => ?_) ?_
        · rw [hat x, if_neg (by omega), if_neg (by omega)]
        · rw [hat q, if_pos rfl, getD_drop]; exact hs.symm
  · intro D3 h3
    subst h3
    rw [a6]
    obtain ⟨b1, b2, b3, b4, b5, b6, b7, b8, b9, b10⟩ := a7.wrote (most := most) (by omega) (by omega) (by omega) (i := 2 + p) (j := 2 + q) (by omega) (by omega) (by omega) (by omega) hsz htz
    refine ⟨b1, b2, by rw [b3, a8], b4, b5, ?_⟩
    rw [b10, jnGo_su]
    have e : (((joD most ts ((d.wr ((2 + p : Nat) : Int) t).wr ((2 + q : Nat) : Int) s)).kept.set (2 + p) s).set (2 + q) t).drop 2 = d.kept.drop 2 := by
      rw [← List.take_length (l := d.kept.drop 2), ← List.take_of_length_le (Nat.le_refl _) (l := (((joD most ts ((d.wr ((2 + p : Nat) : Int) t).wr ((2 + q : Nat) : Int) s)).kept.set (2 + p) s).set (2 + q) t).drop 2)]
      have hL : ((((joD most ts ((d.wr ((2 + p : Nat) : Int) t).wr ((2 + q : Nat) : Int) s)).kept.set (2 + p) s).set (2 + q) t).drop 2).length = (d.kept.drop 2).length := by rw [List.length_drop, List.length_drop, List.length_set, List.length_set, a8]
      rw [hL]
      refine take_of_getD hL fun x _ => ?_
      rw [getD_drop, getD_drop]
      by_cases c1 : x = q
      · subst c1
        rw [getD_set_eq (by rw [List.length_set, a8]; omega)]; exact ht.symm
      · rw [getD_set_ne (by omega)]
        by_cases c2 : x = p
        · subst c2
          rw [getD_set_eq (by rw [a8]; omega)]; exact hs.symm
        · rw [getD_set_ne (by omega), a9 (2 + x) (by omega), getD_set_ne (by omega), getD_set_ne (by omega)]
    rw [e, hgo]
end Go.Proofs.YtbfpfmidjdonjaaGreatDoor

namespace Go.Proofs.YtbfpfmidjdonjaaGreatDoor
open Go

/-- A disk that opens, as the so-manieth boot, with these events. -/
structure Rdy (T : List ByteArray) (D : Dk) (b : Int) (n : Nat) (L : List Ev) (t : Nat) : Prop where
  e : joE 65536 T D = 0
  up : D.down = false
  ok : D.Ok
  dry : D.waits.length = 0
  len : D.kept.length = n
  safe : Safe (joT 65536 T D) (joD 65536 T D) (joJ 65536 T D)
  boot : (joJ 65536 T D).boot = b
  all : (joJ 65536 T D).all = L
  dlen : (joD 65536 T D).kept.length = n
  tl : T.length ≤ t
  tl2 : (joT 65536 T D).length ≤ t + 1
theorem Rdy.of_calm {T : List ByteArray} {D : Dk} {b : Int} {n t : Nat} {L : List Ev} (h : Calm T D b) (ht : T.length ≤ t) (ht2 : t ≤ 1000) (hb : b + 1 ≤ 1023) (hn : D.kept.length = n) (hL : (jnGo T (D.kept.drop 2) 0 0).1 = L)
    (hh : ∀ m, (jnGo T (D.kept.drop 2) 0 0).1.length ≤ m → 2 + m < D.kept.length → Hdr (D.kept.getD (2 + m) ⟨#[]⟩) m (b + 1)) : Rdy T D (b + 1) n L t := by
  obtain ⟨q1, q2, q3, q4, q5, q6, q7, q8⟩ := h.opened (most := 65536) (by omega) hb (by omega)
  have hs := h.safe (most := 65536) (by omega) hb (by omega) hh
  have hl := suT_len (most := 65536) (ts := T) (b + 1)
  refine ⟨q1, h.up, ⟨by have := h.three; omega, h.few, h.sz, fun x hx => by rw [h.dry] at hx; cases hx⟩, by rw [h.dry]; rfl, hn, by rw [q3, q8]; exact hs, by rw [q8], by rw [q8]; exact hL, by rw [q4, hn], ht, by rw [q3]; omega⟩
theorem Rdy.next {T : List ByteArray} {D : Dk} {b : Int} {n t : Nat} {L : List Ev} (h : Rdy T D b n L t) (y : Ev) (hy : y.may = true) (hroom : L.length + 3 ≤ n) (ht : t ≤ 900) (hb : b + 1 ≤ 1023) :
    jpE 65536 (joT 65536 T D) (joJ 65536 T D) (joD 65536 T D) [y] = 0 ∧ Rdy (jpT 65536 (joT 65536 T D) (joJ 65536 T D) (joD 65536 T D) [y]) (apD 65536 (joT 65536 T D) (joJ 65536 T D) (joD 65536 T D) [y]) (b + 1) n (L ++ [y]) (t + 2) := by
  obtain ⟨z1, z2, z3, z4, z5, z6, z7, z8, z9, z10, z11⟩ := h
  obtain ⟨e1, e2, e3, e4, e5, e6, _⟩ := z6.append (most := 65536) [y] (fun e he => by simp at he; subst he; exact hy) (by rw [z8, z9]; show 2 + L.length + 1 ≤ n; omega) (by show (((joT 65536 T D).length + 1 : Nat) : Int) ≤ 65536; omega) (by show (joT 65536 T D).length + 1 ≤ _; omega) (by omega)
  have e5' : (jpT 65536 (joT 65536 T D) (joJ 65536 T D) (joD 65536 T D) [y]).length = (joT 65536 T D).length + 1 := e5
  obtain ⟨r1, r2, r3, r4, r5, r6⟩ := e6.reopen (most := 65536) (by omega) (by rw [e3, z7]; omega) (by omega)
  refine ⟨e1, r1, e6.calm.up, ⟨by have := e6.calm.three; omega, e6.calm.few, e6.calm.sz, fun x hx => by rw [e6.calm.dry] at hx; cases hx⟩, by rw [e6.calm.dry]; rfl, by rw [e4, z9], r6, by rw [r2]; show _ + 1 = _; rw [e3, z7], by rw [r2]; show (apJ _ _ _ _ _).all = _; rw [e2, z8], by rw [r4, e4, z9], by omega, by omega⟩
theorem zer_ne {r : Rc} {own : Int} {m : Nat} (hr : r.may = true) (h1 : r.seq = (m : Int) + 1) (hm : m + 1 ≤ 255) (h2 : r.boot ≤ 255) : zer64 ≠ r.sec own := fun h => by
  have h3 := by4_sec (own := own) hr h1 hm h2
  rw [← h, show by4 zer64 = [0, 0, 0, 0] by decide] at h3
  simp at h3
/-- Written, crashed but for the c-th, started again. -/
theorem Safe.lost {T : List ByteArray} {D : Dk} {J : Jn} (h : Safe T D J) (hJ : J = ⟨1, 0, [], false⟩) (hT : T.length ≤ 1) (hD : D.kept.length = 40) (hz : ∀ i, 2 ≤ i → i < 40 → D.kept.getD i ⟨#[]⟩ = zer64) {es : List Ev} {k c : Nat} (hl : es.length = k) (hk : k ≤ 10) (hc : c < k) (hmay : ∀ e ∈ es, e.may = true) :
    jpE 65536 T J D es = 0 ∧ ∀ mv : Int, 0 ≤ mv → (∀ q, q < k → bitK mv.toNat q = !decide (q = c)) → Rdy (jpT 65536 T J D es) ((wtD 65536 T J D es).cr mv 0).rs 2 40 (es.take c) 20 := by
  subst hJ
  obtain ⟨ss, l', p⟩ := h.put (most := 65536) es hmay (by show 2 + 0 + es.length ≤ _; omega) (by omega) (by omega) (by decide)
  have hne : es ≠ [] := fun e => by rw [e] at hl; simp at hl; omega
  refine ⟨p.ok, fun mv hmv hb => ?_⟩
  have hssl := p.ssl
  have hW : wtD 65536 T ⟨1, 0, [], false⟩ D es = ⟨D.kept, wtsOf 2 ss, false⟩ := by
    unfold wtD
    rw [if_pos p.ok, p.s]
    have := wrAll_waits ss D 2 h.calm.up (by omega) p.ssz
    rw [h.calm.dry, List.nil_append] at this
    have hup := h.calm.up
    obtain ⟨k0, w0, d0⟩ := D
    cases hup
    exact this
  have hM : ((wtD 65536 T ⟨1, 0, [], false⟩ D es).cr mv 0).rs = ⟨crk mv.toNat 0 0 false D.kept (wtsOf 2 ss), [], false⟩ := by
    rw [hW]
    unfold Dk.cr
    rw [if_neg (by simp), if_pos (by simp [hmv])]
    rfl
  rw [hM]
  have hlen := crk_len mv.toNat 0 0 false D.kept (wtsOf 2 ss)
  have hat := fun q (hq : q < ss.length) => crk_at mv.toNat 0 ss 0 2 false D.kept (by omega) q hq
  have hout := fun x hx => crk_out mv.toNat 0 ss 0 2 false D.kept x hx
  generalize crk mv.toNat 0 0 false D.kept (wtsOf 2 ss) = M at *
  obtain ⟨c1, c2, c3⟩ := h.crash p hne hmay (by show 2 + 0 + es.length ≤ _; omega) (by omega) (by omega) (by decide) (by omega) (M := M) hlen (t := 0) (by omega) (fun x hx => hout x (by rw [hssl]; exact hx)) (fun q hq => by
    rcases hat q (by omega) with ⟨_, a⟩ | ⟨_, a | a⟩
    · exact .inl a
    · exact .inr (.inl a)
    · exact .inr (.inr a))
  have hlead : lead ss (M.drop 2) = c := by
    refine lead_is (fun q hq => ?_) (by omega) (by rw [List.length_drop]; omega) ?_
    · rw [getD_drop]
      rcases hat q (by omega) with ⟨_, a⟩ | ⟨b, _⟩
      · exact a
      · rw [Nat.zero_add, hb q (by omega)] at b
        simp at b
        omega
    · rw [getD_drop]
      have hold : M.getD (2 + c) ⟨#[]⟩ = zer64 := by
        rcases hat c (by omega) with ⟨b, _⟩ | ⟨_, a | a⟩
        · rw [Nat.zero_add, hb c hc] at b
          simp at b
        · rw [a]; exact hz _ (by omega) (by omega)
        · rw [a, mix_zero (getD_sz h.calm.sz (by omega))]; exact hz _ (by omega) (by omega)
      obtain ⟨r, own, r1, r2, r3, r4⟩ := jpGo_heads es T 0 0 p.run c (by omega)
      rw [hold, r2]
      exact zer_ne (m := 0 + c) r1 r3 (by omega) (by rw [r4]; decide)
  have hgo : (jnGo (jpT 65536 T ⟨1, 0, [], false⟩ D es) (M.drop 2) 0 0).1 = es.take c := by
    rw [p.t]
    refine c2.trans ?_
    show [] ++ es.take (lead ss (M.drop 2)) = _
    rw [hlead]; rfl
  have hTl : (jpT 65536 T ⟨1, 0, [], false⟩ D es).length ≤ 20 := by rw [p.t, p.len]; omega
  refine Rdy.of_calm (b := 1) (D := ⟨M, [], false⟩) (by rw [p.t]; exact c1) hTl (by omega) (by decide) (by show M.length = 40; omega) hgo (fun m _ hm => (c3 m (Nat.zero_le _) hm).more (by decide))
end Go.Proofs.YtbfpfmidjdonjaaGreatDoor

namespace Go.Proofs.YtbfpfmidjdonjaaGreatDoor
open Go

/-- Written, crashed, started again: a beginning of what was written stands behind what stood. -/
theorem Safe.cut {T : List ByteArray} {D : Dk} {J : Jn} (h : Safe T D J) {n : Nat} (hn : D.kept.length = n) (hn2 : n ≤ 255) {es : List Ev} (hne : es ≠ []) (hmay : ∀ e ∈ es, e.may = true) (hroom : 2 + J.all.length + es.length ≤ n) {t0 : Nat} (hT : T.length + es.length ≤ t0) (ht0 : t0 ≤ 1000) (hb : J.boot ≤ 250) :
    jpE 65536 T J D es = 0 ∧ ∀ mv tv : Int, 0 ≤ mv → 0 ≤ tv → ∃ q, q ≤ es.length ∧ Rdy (jpT 65536 T J D es) ((wtD 65536 T J D es).cr mv tv).rs (J.boot + 1) n (J.all ++ es.take q) t0 := by
  obtain ⟨ss, l', p⟩ := h.put (most := 65536) es hmay (by omega) (by omega) (by omega) (by omega)
  refine ⟨p.ok, fun mv tv hmv htv => ?_⟩
  have hssl := p.ssl
  have hW : wtD 65536 T J D es = ⟨D.kept, wtsOf (2 + J.all.length) ss, false⟩ := by
    unfold wtD
    rw [if_pos p.ok, p.s]
    have := wrAll_waits ss D (2 + J.all.length) h.calm.up (by omega) p.ssz
    rw [h.calm.dry, List.nil_append] at this
    have hup := h.calm.up
    obtain ⟨k0, w0, d0⟩ := D
    cases hup
    exact this
  have hM : ((wtD 65536 T J D es).cr mv tv).rs = ⟨crk mv.toNat (min tv.toNat 64) 0 false D.kept (wtsOf (2 + J.all.length) ss), [], false⟩ := by
    rw [hW]
    unfold Dk.cr
    rw [if_neg (by simp), if_pos (by simp [hmv, htv])]
    rfl
  rw [hM]
  have ht64 : min tv.toNat 64 ≤ 64 := Nat.min_le_right _ _
  generalize min tv.toNat 64 = t at *
  have hlen := crk_len mv.toNat t 0 false D.kept (wtsOf (2 + J.all.length) ss)
  have hat := fun q (hq : q < ss.length) => crk_at mv.toNat t ss 0 (2 + J.all.length) false D.kept (by omega) q hq
  have hout := fun x hx => crk_out mv.toNat t ss 0 (2 + J.all.length) false D.kept x hx
  generalize crk mv.toNat t 0 false D.kept (wtsOf (2 + J.all.length) ss) = M at *
  obtain ⟨c1, c2, c3⟩ := h.crash p hne hmay (by omega) (by omega) (by omega) (by omega) (by omega) (M := M) hlen (t := t) ht64 (fun x hx => hout x (by rw [hssl]; exact hx)) (fun q hq => by
    rcases hat q (by omega) with ⟨_, a⟩ | ⟨_, a | a⟩
    · exact .inl a
    · exact .inr (.inl a)
    · exact .inr (.inr a))
  have hle : lead ss (M.drop (2 + J.all.length)) ≤ es.length := by rw [← hssl]; exact lead_le _ _
  refine ⟨lead ss (M.drop (2 + J.all.length)), hle, ?_⟩
  rw [p.t]
  exact Rdy.of_calm (b := J.boot) (D := ⟨M, [], false⟩) c1 (by rw [p.len]; omega) ht0 (by omega) (by show M.length = n; omega) c2 (fun m hm hm2 => (c3 m (by
    rw [c2, List.length_append] at hm
    omega) hm2).more (by omega))
end Go.Proofs.YtbfpfmidjdonjaaGreatDoor

