
/- What package craft answers over a book: Atom, Hash, Mac, Seal, IsHash, IsMac, Open. No condition but that the book is one. -/
import Derived.Test.YtgafgmcdbpdpgaaSArg
import Derived.Test.YtgafgmcdbpdpgaaFnum
import Derived.Test.YtgafgmcdbpdpgaaCplain
namespace Go.Proofs.Ytgafgmcdbpdpgaa
open Go Go.RowKit Go.Maps

/-- The keys that the makers come with. -/
def KeyIn (w : World) (v : Value) (ko : Option Int) : Prop :=
  (v = .slice none 0 0 ∧ ko = none) ∨ ∃ g k, v = .slice (some ⟨g, 0, none⟩) 1 1 ∧ ko = some k ∧ w.cell? ⟨g, 0, none⟩ = some (.int .i64 k) ∧ -9223372036854775808 ≤ k ∧ k ≤ 9223372036854775807
def hdA (c : ByteArray) (ko : Option Int) : ByteArray := if okK ko then hdK c ko else ⟨#[]⟩

theorem chead (c : ByteArray) (v : Value) (ko : Option Int) (w : World) (hc : c.size = 1) (hk : KeyIn w v ko) :
    Calls Try.prog 46 #[.string c, v] w fun e w' => e = .returned (.tuple #[.string (hdA c ko), .bool (okK ko)]) ∧ Below w.heap.size w w' := by
  rcases hk with ⟨rfl, rfl⟩ | ⟨g, k, rfl, rfl, hcell, h0, h1⟩
  · rw [show hdA c none = c from rfl, show okK none = true from rfl]
    go_enter Try.func46, Try.ntmps46
    go_wp2
    refine wp_loop_rounds 1 ?_
    rw [rounds_succ]
    go_wp2
    go_ret2
    exact ⟨rfl, Below.refl _ _⟩
  · have hn := numS_size5 k
    have Hn := Lib.hid (fun W => fnum k W h0 h1)
    by_cases hok : okNum k = true
    · rw [show hdA c (some k) = c ++ numS k by unfold hdA; rw [if_pos (show okK (some k) = true from hok)]; rfl, show okK (some k) = true from hok]
      have he : numE k = 0 := by unfold numE; rw [if_pos hok]
      rw [he] at Hn
      have HN := Lib.hid Hn.out
      clear Hn he hok
      go_enter Try.func46, Try.ntmps46
      go_wp2
      refine wp_loop_rounds 2 ?_
      rw [rounds_succ]
      go_wp2_with (go_at_call 34; (with_reducible refine (HN.out _).mono ?_); rintro e w1 ⟨rfl, hb⟩)
      rw [rounds_succ]
      go_wp2
      go_ret2
      exact ⟨rfl, hb⟩
    · have hok' : okNum k = false := by simpa using hok
      rw [show hdA c (some k) = ⟨#[]⟩ by unfold hdA; rw [show okK (some k) = false from hok']; rfl, show okK (some k) = false from hok']
      have he : numE k = 100 := by unfold numE; rw [if_neg hok]
      rw [he] at Hn
      have HN := Lib.hid Hn.out
      clear Hn he hok hok'
      go_enter Try.func46, Try.ntmps46
      go_wp2
      refine wp_loop_rounds 2 ?_
      rw [rounds_succ]
      go_wp2_with (go_at_call 34; (with_reducible refine (HN.out _).mono ?_); rintro e w1 ⟨rfl, hb⟩)
      go_ret2
      exact ⟨rfl, hb⟩

/-- What makeTerm answers. -/
def mkB (c : ByteArray) (ko : Option Int) (s : ByteArray) : Bool := okK ko && decide ((tmK c ko s).size ≤ 512)
def mkS (c : ByteArray) (ko : Option Int) (s : ByteArray) : ByteArray := if mkB c ko s then tmK c ko s else ⟨#[]⟩
theorem cmake (s c : ByteArray) (v : Value) (ko : Option Int) (w : World) (hc : c.size = 1) (hk : KeyIn w v ko) :
    Calls Try.prog 42 #[.string s, .string c, v] w fun e w' => e = .returned (.tuple #[.string (mkS c ko s), .bool (mkB c ko s)]) ∧ Below w.heap.size w w' := by
  have hh := chead c v ko w hc hk
  obtain ⟨hd1, hd2⟩ := hdK_size hc ko
  have hsz := tmK_size c ko s
  by_cases hok : okK ko = true
  · rw [hok, show hdA c ko = hdK c ko by unfold hdA; rw [if_pos hok]] at hh
    by_cases h5 : (tmK c ko s).size ≤ 512
    · have hb : mkB c ko s = true := by unfold mkB; rw [hok]; simpa using h5
      rw [show mkS c ko s = tmK c ko s by unfold mkS; rw [if_pos hb], hb, tmK]
      generalize hdK c ko = hd at *
      have HH := Lib.hid hh
      rw [hsz] at h5
      clear hh hok hb hsz
      go_enter Try.func42, Try.ntmps42
      go_wp2_with (go_at_call 46; (with_reducible refine HH.out.mono ?_); rintro e w1 ⟨rfl, hb⟩)
      go_ret2
      exact ⟨rfl, hb⟩
    · have hb : mkB c ko s = false := by unfold mkB; rw [hok]; simpa using h5
      rw [show mkS c ko s = ⟨#[]⟩ by unfold mkS; rw [hb]; rfl, hb]
      generalize hdK c ko = hd at *
      have HH := Lib.hid hh
      rw [hsz] at h5
      clear hh hok hb hsz
      go_enter Try.func42, Try.ntmps42
      go_wp2_with (go_at_call 46; (with_reducible refine HH.out.mono ?_); rintro e w1 ⟨rfl, hb⟩)
      go_ret2
      exact ⟨rfl, hb⟩
  · have hok' : okK ko = false := by simpa using hok
    have hb : mkB c ko s = false := by unfold mkB; rw [hok']; rfl
    rw [show mkS c ko s = ⟨#[]⟩ by unfold mkS; rw [hb]; rfl, hb]
    rw [hok', show hdA c ko = ⟨#[]⟩ by unfold hdA; rw [hok']; rfl] at hh
    have HH := Lib.hid hh
    clear hh hok hok' hb hsz
    go_enter Try.func42, Try.ntmps42
    go_wp2_with (go_at_call 46; (with_reducible refine HH.out.mono ?_); rintro e w1 ⟨rfl, hb⟩)
    go_ret2
    exact ⟨rfl, hb⟩

theorem Becomes.pre {F : List Nat} {A : Ass} {w w1 w' : World} (hb : Below w.heap.size w w1) (h : Becomes F A w1 w') : Becomes F A w w' := by
  obtain ⟨F', g1, g2, g3⟩ := h
  exact ⟨F', g1, (Tn.ofBelow hb F).trans g2 (fun x hx => .inl hx), fun k hk => (g3 k hk).imp id (fun e => Nat.le_trans hb.size e)⟩

theorem bookA_ok {p : Nat} {most : Int} {ts : List ByteArray} {w : World} {F : List Nat} (h : bookA p most ts w F) : ∀ t ∈ ts, okT t = true := by
  obtain ⟨_, _, _, hb, _⟩ := h; exact hb.ok

/-- craft.name. -/
theorem cname (p : Nat) (most : Int) (ts : List ByteArray) (s c : ByteArray) (v : Value) (ko : Option Int) (w : World) (F : List Nat) (hc : c.size = 1) (hk : KeyIn w v ko) (h : bookA p most ts w F) :
    Calls Try.prog 35 #[.pointer (some ⟨p, 0, none⟩), .string s, .string c, v] w fun e w' => e = .returned (.tuple #[.int .i64 (ckX most ts (okK ko) (tmK c ko s)), .int .i64 (ckE most ts (okK ko) (tmK c ko s))]) ∧ Becomes F (bookA p most (ckT most ts (okK ko) (tmK c ko s))) w w' := by
  have hm := cmake s c v ko w hc hk
  have hg := bookA_good p most ts
  by_cases hb : mkB c ko s = true
  · obtain ⟨hok, h5⟩ : okK ko = true ∧ (tmK c ko s).size ≤ 512 := by simpa [mkB] using hb
    rw [hb, show mkS c ko s = tmK c ko s by unfold mkS; rw [if_pos hb]] at hm
    rw [hok]
    generalize tmK c ko s = t at *
    have hn : ∀ w1, Below w.heap.size w w1 → Calls Try.prog 20 #[.pointer (some ⟨p, 0, none⟩), .string t] w1 fun e w' => e = .returned (.tuple #[.int .i64 (nmX most ts t), .int .i64 (nmE most ts t)]) ∧ Becomes F (bookA p most (nmT most ts t)) w w' := fun w1 hb1 =>
      (bname p most ts t w1 F (hg.below h hb1) (by unfold maxLen; omega)).mono fun e w' ⟨a, b⟩ => ⟨a, b.pre hb1⟩
    rw [show ckT most ts true t = nmT most ts t from rfl]
    by_cases he : nmE most ts t = 0
    · obtain ⟨k1, k2⟩ := ckX_ok (most := most) (ts := ts) he
      rw [k1, k2]
      rw [he] at hn
      generalize nmX most ts t = x at *
      generalize nmT most ts t = ts' at *
      have HM := Lib.hid hm
      have HN := Lib.hid hn
      clear hm hn hb hok he k1 k2 h hg hk
      go_enter Try.func35, Try.ntmps35
      go_wp2_with (first
        | (go_at_call 42; (with_reducible refine HM.out.mono ?_); rintro e w1 ⟨rfl, hb⟩)
        | (go_at_call 20; (with_reducible refine (HN.out _ (by assumption)).mono ?_); rintro e w1 ⟨rfl, hbec⟩))
      go_ret2
      exact ⟨rfl, hbec⟩
    · obtain ⟨k1, k2⟩ := ckX_bad (most := most) (ts := ts) (ok := true) (t := t) (.inr he)
      rw [k1, k2]
      rw [nmE_X he] at hn
      have he' : (nmE most ts t == 0) = false := by simpa using he
      generalize nmE most ts t = ee at *
      generalize nmT most ts t = ts' at *
      have HM := Lib.hid hm
      have HN := Lib.hid hn
      clear hm hn hb hok k1 k2 h hg hk
      go_enter Try.func35, Try.ntmps35
      go_wp2_with (first
        | (go_at_call 42; (with_reducible refine HM.out.mono ?_); rintro e w1 ⟨rfl, hb⟩)
        | (go_at_call 20; (with_reducible refine (HN.out _ (by assumption)).mono ?_); rintro e w1 ⟨rfl, hbec⟩))
      go_ret2
      exact ⟨rfl, hbec⟩
  · have hb' : mkB c ko s = false := by simpa using hb
    rw [hb', show mkS c ko s = ⟨#[]⟩ by unfold mkS; rw [hb']; rfl] at hm
    have hT : ckX most ts (okK ko) (tmK c ko s) = 0 ∧ ckE most ts (okK ko) (tmK c ko s) = 300 ∧ ckT most ts (okK ko) (tmK c ko s) = ts := by
      by_cases hok : okK ko = true
      · have h5 : 512 < (tmK c ko s).size := by
          unfold mkB at hb'; rw [hok] at hb'; simp at hb'; exact hb'
        obtain ⟨k1, k2⟩ := big_no (bookA_ok h) h5
        obtain ⟨k3, k4⟩ := big_nm most ts k1
        obtain ⟨k5, k6⟩ := ckX_bad (most := most) (ts := ts) (ok := okK ko) (t := tmK c ko s) (.inr (by rw [k3]; decide))
        exact ⟨k5, k6, by unfold ckT; rw [k4]; split <;> rfl⟩
      · have hok' : okK ko = false := by simpa using hok
        obtain ⟨k5, k6⟩ := ckX_bad (most := most) (ts := ts) (ok := okK ko) (t := tmK c ko s) (.inl hok')
        exact ⟨k5, k6, by unfold ckT; rw [hok']; rfl⟩
    obtain ⟨k1, k2, k3⟩ := hT
    rw [k1, k2, k3]
    have HS := Lib.hid (fun w' => bookA_same (w' := w') h)
    have HM := Lib.hid hm
    clear hm hb hb' k1 k2 k3 h hg hk
    go_enter Try.func35, Try.ntmps35
    go_wp2_with (go_at_call 42; (with_reducible refine HM.out.mono ?_); rintro e w1 ⟨rfl, hb⟩)
    go_ret2
    exact ⟨rfl, HS.out _ hb⟩

/-- craft.isName. -/
theorem cisname (p : Nat) (most : Int) (ts : List ByteArray) (tag : Int) (s c : ByteArray) (v : Value) (ko : Option Int) (w : World) (F : List Nat) (hc : c.size = 1) (hk : KeyIn w v ko) (h : bookA p most ts w F) :
    Calls Try.prog 39 #[.pointer (some ⟨p, 0, none⟩), .int .i64 tag, .string s, .string c, v] w fun e w' => e = .returned (.bool (ckI ts (okK ko) (tmK c ko s) tag)) ∧ Below w.heap.size w w' := by
  have hm := cmake s c v ko w hc hk
  have hg := bookA_good p most ts
  by_cases hb : mkB c ko s = true
  · obtain ⟨hok, h5⟩ : okK ko = true ∧ (tmK c ko s).size ≤ 512 := by simpa [mkB] using hb
    rw [hb, show mkS c ko s = tmK c ko s by unfold mkS; rw [if_pos hb]] at hm
    rw [hok]
    generalize tmK c ko s = t at *
    have hn : ∀ w1, Below w.heap.size w w1 → Calls Try.prog 43 #[.pointer (some ⟨p, 0, none⟩), .string t] w1 fun e w' => e = .returned (.tuple #[.int .i64 (fnd ts t), .bool (isB ts t)]) ∧ Below w.heap.size w w' := fun w1 hb1 =>
      (bfind p most ts t w1 F (hg.below h hb1) (by unfold maxLen; omega)).mono fun e w' ⟨a, b⟩ => ⟨a, b ▸ hb1⟩
    by_cases hi : isB ts t = true
    · rw [show ckI ts true t tag = decide (fnd ts t = tag) by unfold ckI; rw [hi]; rfl]
      rw [hi] at hn
      generalize fnd ts t = x at *
      have hx : (x == tag) = decide (x = tag) := by rw [Bool.eq_iff_iff]; simp
      generalize decide (x = tag) = bb at *
      have HM := Lib.hid hm
      have HN := Lib.hid hn
      clear hm hn hb hok h hg hk hi
      go_enter Try.func39, Try.ntmps39
      go_wp2_with (first
        | (go_at_call 42; (with_reducible refine HM.out.mono ?_); rintro e w1 ⟨rfl, hb⟩)
        | (go_at_call 43; (with_reducible refine (HN.out _ (by assumption)).mono ?_); rintro e w1 ⟨rfl, hb2⟩))
      go_ret
      exact ⟨rfl, hb2⟩
    · have hi' : isB ts t = false := by simpa using hi
      rw [show ckI ts true t tag = false by unfold ckI; rw [hi']; rfl]
      rw [hi'] at hn
      generalize fnd ts t = x at *
      have HM := Lib.hid hm
      have HN := Lib.hid hn
      clear hm hn hb hok h hg hk hi hi'
      go_enter Try.func39, Try.ntmps39
      go_wp2_with (first
        | (go_at_call 42; (with_reducible refine HM.out.mono ?_); rintro e w1 ⟨rfl, hb⟩)
        | (go_at_call 43; (with_reducible refine (HN.out _ (by assumption)).mono ?_); rintro e w1 ⟨rfl, hb2⟩))
      go_ret
      exact ⟨rfl, hb2⟩
  · have hb' : mkB c ko s = false := by simpa using hb
    rw [hb', show mkS c ko s = ⟨#[]⟩ by unfold mkS; rw [hb']; rfl] at hm
    have hT : ckI ts (okK ko) (tmK c ko s) tag = false := by
      by_cases hok : okK ko = true
      · have h5 : 512 < (tmK c ko s).size := by
          unfold mkB at hb'; rw [hok] at hb'; simp at hb'; exact hb'
        obtain ⟨k1, k2⟩ := big_no (bookA_ok h) h5
        unfold ckI; rw [k2]; simp
      · have hok' : okK ko = false := by simpa using hok
        unfold ckI; rw [hok']; rfl
    rw [hT]
    have HM := Lib.hid hm
    clear hm hb hb' hT h hg hk
    go_enter Try.func39, Try.ntmps39
    go_wp2_with (go_at_call 42; (with_reducible refine HM.out.mono ?_); rintro e w1 ⟨rfl, hb⟩)
    go_ret
    exact ⟨rfl, hb⟩

theorem key0 (w : World) : KeyIn w (.slice none 0 0) none := .inl ⟨rfl, rfl⟩
theorem key1 (w : World) (k : Int) (t : Nat) (h0 : -9223372036854775808 ≤ k) (h1 : k ≤ 9223372036854775807) : KeyIn (w.alloc (.cells #[.int .i64 k] t)) (.slice (some ⟨w.heap.size, 0, none⟩) 1 1) (some k) :=
  .inr ⟨_, k, rfl, rfl, by simp, h0, h1⟩

theorem dmacL (p : Nat) (most : Int) (ts : List ByteArray) (key : Int) (s : ByteArray) (k0 : -9223372036854775808 ≤ key) (k1 : key ≤ 9223372036854775807) : Does Try.prog (bookA p most ts) 23 #[.pointer (some ⟨p, 0, none⟩), .int .i64 key, .string s] (.returned (.tuple #[.int .i64 (ckX most ts (okK (some key)) (tmK cM (some key) s)), .int .i64 (ckE most ts (okK (some key)) (tmK cM (some key) s))])) (bookA p most (ckT most ts (okK (some key)) (tmK cM (some key) s))) := by
  intro w F h
  have hg := bookA_good p most ts
  have hb0 : Below w.heap.size w (w.alloc (.cells #[.int .i64 key] 3)) := (Below.refl _ _).alloc (Nat.le_refl _) _
  have hn := (cname p most ts s ⟨#[77]⟩ _ (some key) (w.alloc (.cells #[.int .i64 key] 3)) F rfl (key1 w key 3 k0 k1) (hg.below h hb0)).mono (fun e w' ⟨a, b⟩ => (⟨a, b.pre hb0⟩ : _ ∧ Becomes F _ w w'))
  rw [show (⟨#[77]⟩ : ByteArray) = cM from rfl] at hn
  generalize ckX most ts (okK (some key)) (tmK cM (some key) s) = x at *
  generalize ckE most ts (okK (some key)) (tmK cM (some key) s) = y at *
  generalize ckT most ts (okK (some key)) (tmK cM (some key) s) = ts' at *
  rw [show cM = ⟨#[77]⟩ from rfl] at hn
  have HN := Lib.hid hn
  clear hn h
  go_enter Try.func23, Try.ntmps23
  go_wp2_with (go_at_call 35; (with_reducible refine HN.out.mono ?_); rintro e w1 ⟨rfl, hbec⟩)
  go_ret2
  exact ⟨rfl, hbec⟩
theorem dmac (p : Nat) (most : Int) (ts : List ByteArray) (key : Int) (s : ByteArray) (_hs : s.size ≤ 9223372036854770000) (k0 : -9223372036854775808 ≤ key) (k1 : key ≤ 9223372036854775807) : Does Try.prog (bookA p most ts) 23 #[.pointer (some ⟨p, 0, none⟩), .int .i64 key, .string s] (.returned (.tuple #[.int .i64 (ckX most ts (okK (some key)) (tmK cM (some key) s)), .int .i64 (ckE most ts (okK (some key)) (tmK cM (some key) s))])) (bookA p most (ckT most ts (okK (some key)) (tmK cM (some key) s))) :=
  dmacL p most ts key s k0 k1

theorem dismacL (p : Nat) (most : Int) (ts : List ByteArray) (key : Int) (s : ByteArray) (tag : Int) (k0 : -9223372036854775808 ≤ key) (k1 : key ≤ 9223372036854775807) : Does Try.prog (bookA p most ts) 27 #[.pointer (some ⟨p, 0, none⟩), .int .i64 key, .string s, .int .i64 tag] (.returned (.bool (ckI ts (okK (some key)) (tmK cM (some key) s) tag))) (bookA p most ts) := by
  intro w F h
  have hg := bookA_good p most ts
  have hb0 : Below w.heap.size w (w.alloc (.cells #[.int .i64 key] 3)) := (Below.refl _ _).alloc (Nat.le_refl _) _
  have hn := (cisname p most ts tag s ⟨#[77]⟩ _ (some key) (w.alloc (.cells #[.int .i64 key] 3)) F rfl (key1 w key 3 k0 k1) (hg.below h hb0)).mono (fun e w' ⟨a, b⟩ => (⟨a, hb0.trans (b.mono hb0.size)⟩ : _ ∧ Below w.heap.size w w'))
  rw [show (⟨#[77]⟩ : ByteArray) = cM from rfl] at hn
  generalize ckI ts (okK (some key)) (tmK cM (some key) s) tag = x at *
  rw [show cM = ⟨#[77]⟩ from rfl] at hn
  have HN := Lib.hid hn
  have HS := Lib.hid (fun w' => bookA_same (w' := w') h)
  clear hn h
  go_enter Try.func27, Try.ntmps27
  go_wp2_with (go_at_call 39; (with_reducible refine HN.out.mono ?_); rintro e w1 ⟨rfl, hb⟩)
  go_ret
  exact ⟨rfl, HS.out _ hb⟩
theorem dismac (p : Nat) (most : Int) (ts : List ByteArray) (key : Int) (s : ByteArray) (tag : Int) (_hs : s.size ≤ 9223372036854770000) (k0 : -9223372036854775808 ≤ key) (k1 : key ≤ 9223372036854775807) : Does Try.prog (bookA p most ts) 27 #[.pointer (some ⟨p, 0, none⟩), .int .i64 key, .string s, .int .i64 tag] (.returned (.bool (ckI ts (okK (some key)) (tmK cM (some key) s) tag))) (bookA p most ts) :=
  dismacL p most ts key s tag k0 k1

theorem pfx_name {t h : ByteArray} : Lib.hasPrefix t.data.toList h.data.toList = pfx t h := rfl
/- A nil book. -/
theorem cname_nil (s c : ByteArray) (v : Value) (w : World) : Calls Try.prog 35 #[.pointer none, .string s, .string c, v] w fun e w' => e = .returned (.tuple #[.int .i64 0, .int .i64 1]) ∧ w = w' := by
  go_enter Try.func35, Try.ntmps35
  go_wp2
  go_ret2
  exact ⟨rfl, rfl⟩
theorem bfind_nil (t : ByteArray) (w : World) : Calls Try.prog 43 #[.pointer none, .string t] w fun e w' => e = .returned (.tuple #[.int .i64 0, .bool false]) ∧ w = w' := by
  go_enter Try.func43, Try.ntmps43
  go_wp2
  go_ret2
  exact ⟨rfl, rfl⟩
theorem cisname_nil (tag : Int) (s c : ByteArray) (v : Value) (ko : Option Int) (w : World) (hc : c.size = 1) (hk : KeyIn w v ko) :
    Calls Try.prog 39 #[.pointer none, .int .i64 tag, .string s, .string c, v] w fun e w' => e = .returned (.bool false) ∧ Below w.heap.size w w' := by
  have hm := cmake s c v ko w hc hk
  generalize mkS c ko s = t at *
  have HM := Lib.hid hm
  by_cases hb : mkB c ko s = true
  · rw [hb] at hm
    replace HM := Lib.hid hm
    clear hm hb hk
    go_enter Try.func39, Try.ntmps39
    go_wp2_with (first
      | (go_at_call 42; (with_reducible refine HM.out.mono ?_); rintro e w1 ⟨rfl, hb⟩)
      | (go_at_call 43; (with_reducible refine (bfind_nil _ _).mono ?_); rintro e w1 ⟨rfl, rfl⟩))
    go_ret
    exact ⟨rfl, hb⟩
  · have hb' : mkB c ko s = false := by simpa using hb
    rw [hb'] at hm
    replace HM := Lib.hid hm
    clear hm hb hb' hk
    go_enter Try.func39, Try.ntmps39
    go_wp2_with (go_at_call 42; (with_reducible refine HM.out.mono ?_); rintro e w1 ⟨rfl, hb⟩)
    go_ret
    exact ⟨rfl, hb⟩
theorem cismac_nil (key : Int) (s : ByteArray) (tag : Int) (w : World) (_hs : s.size ≤ 9223372036854770000) (k0 : -9223372036854775808 ≤ key) (k1 : key ≤ 9223372036854775807) : Calls Try.prog 27 #[.pointer none, .int .i64 key, .string s, .int .i64 tag] w fun e w' => e = .returned (.bool false) ∧ Below w.heap.size w w' := by
  have hb0 : Below w.heap.size w (w.alloc (.cells #[.int .i64 key] 3)) := (Below.refl _ _).alloc (Nat.le_refl _) _
  have HN := Lib.hid ((cisname_nil tag s ⟨#[77]⟩ _ (some key) (w.alloc (.cells #[.int .i64 key] 3)) rfl (key1 w key 3 k0 k1)).mono (fun e w' ⟨a, b⟩ => (⟨a, hb0.trans (b.mono hb0.size)⟩ : _ ∧ Below w.heap.size w w')))
  clear hb0
  go_enter Try.func27, Try.ntmps27
  go_wp2_with (go_at_call 39; (with_reducible refine HN.out.mono ?_); rintro e w1 ⟨rfl, hb⟩)
  go_ret
  exact ⟨rfl, hb⟩
end Go.Proofs.Ytgafgmcdbpdpgaa
