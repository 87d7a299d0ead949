
/- What package craft answers over a book: Atom, Hash, Mac, Seal, IsHash, IsMac, Open. No condition but that the book is one. -/
import Derived.Test.YtcfibjfhmfdmkaaSArg
import Derived.Test.YtcfibjfhmfdmkaaFnum
import Derived.Test.YtcfibjfhmfdmkaaCplain
namespace Go.Proofs.Ytcfibjfhmfdmkaa
open Go Go.RowKit Go.Maps

/-- The keys that the makers come with. -/
def KeyIn (w : World) (v : Value) (ko : Option Int) : Prop :=
  (v = .slice none 0 0 ∧ ko = none) ∨ ∃ g k, v = .slice (some ⟨g, 0, none⟩) 1 1 ∧ ko = some k ∧ w.cell? ⟨g, 0, none⟩ = some (.int .i64 k) ∧ -9223372036854775808 ≤ k ∧ k ≤ 9223372036854775807
def hdA (c : ByteArray) (ko : Option Int) : ByteArray := if okK ko then hdK c ko else ⟨#[]⟩

theorem chead (c : ByteArray) (v : Value) (ko : Option Int) (w : World) (hc : c.size = 1) (hk : KeyIn w v ko) :
    Calls Try.prog 38 #[.string c, v] w fun e w' => e = .returned (.tuple #[.string (hdA c ko), .bool (okK ko)]) ∧ Below w.heap.size w w' := by
  rcases hk with ⟨rfl, rfl⟩ | ⟨g, k, rfl, rfl, hcell, h0, h1⟩
  · rw [show hdA c none = c from rfl, show okK none = true from rfl]
    go_enter Try.func38, Try.ntmps38
    go_wp2
    refine wp_loop_rounds 1 ?_
    rw [rounds_succ]
    go_wp2
    go_ret2
    exact ⟨rfl, Below.refl _ _⟩
  · have hn := numS_size5 k
    have Hn := Lib.hid (fun W => fnum k W h0 h1)
    by_cases hok : okNum k = true
    · rw [show hdA c (some k) = c ++ numS k by unfold hdA; rw [if_pos (show okK (some k) = true from hok)]; rfl, show okK (some k) = true from hok]
      have he : numE k = 0 := by unfold numE; rw [if_pos hok]
      rw [he] at Hn
      have HN := Lib.hid Hn.out
      clear Hn he hok
      go_enter Try.func38, Try.ntmps38
      go_wp2
      refine wp_loop_rounds 2 ?_
      rw [rounds_succ]
      go_wp2_with (go_at_call 17; (with_reducible refine (HN.out _).mono ?_); rintro e w1 ⟨rfl, hb⟩)
      rw [rounds_succ]
      go_wp2
      go_ret2
      exact ⟨rfl, hb⟩
    · have hok' : okNum k = false := by simpa using hok
      rw [show hdA c (some k) = ⟨#[]⟩ by unfold hdA; rw [show okK (some k) = false from hok']; rfl, show okK (some k) = false from hok']
      have he : numE k = 100 := by unfold numE; rw [if_neg hok]
      rw [he] at Hn
      have HN := Lib.hid Hn.out
      clear Hn he hok hok'
      go_enter Try.func38, Try.ntmps38
      go_wp2
      refine wp_loop_rounds 2 ?_
      rw [rounds_succ]
      go_wp2_with (go_at_call 17; (with_reducible refine (HN.out _).mono ?_); rintro e w1 ⟨rfl, hb⟩)
      go_ret2
      exact ⟨rfl, hb⟩

/-- What makeTerm answers. -/
def mkB (c : ByteArray) (ko : Option Int) (s : ByteArray) : Bool := okK ko && decide ((tmK c ko s).size ≤ 512)
def mkS (c : ByteArray) (ko : Option Int) (s : ByteArray) : ByteArray := if mkB c ko s then tmK c ko s else ⟨#[]⟩
theorem cmake (s c : ByteArray) (v : Value) (ko : Option Int) (w : World) (hc : c.size = 1) (hk : KeyIn w v ko) :
    Calls Try.prog 33 #[.string s, .string c, v] w fun e w' => e = .returned (.tuple #[.string (mkS c ko s), .bool (mkB c ko s)]) ∧ Below w.heap.size w w' := by
  have hh := chead c v ko w hc hk
  obtain ⟨hd1, hd2⟩ := hdK_size hc ko
  have hsz := tmK_size c ko s
  by_cases hok : okK ko = true
  · rw [hok, show hdA c ko = hdK c ko by unfold hdA; rw [if_pos hok]] at hh
    by_cases h5 : (tmK c ko s).size ≤ 512
    · have hb : mkB c ko s = true := by unfold mkB; rw [hok]; simpa using h5
      rw [show mkS c ko s = tmK c ko s by unfold mkS; rw [if_pos hb], hb, tmK]
      generalize hdK c ko = hd at *
      have HH := Lib.hid hh
      rw [hsz] at h5
      clear hh hok hb hsz
      go_enter Try.func33, Try.ntmps33
      go_wp2_with (go_at_call 38; (with_reducible refine HH.out.mono ?_); rintro e w1 ⟨rfl, hb⟩)
      go_ret2
      exact ⟨rfl, hb⟩
    · have hb : mkB c ko s = false := by unfold mkB; rw [hok]; simpa using h5
      rw [show mkS c ko s = ⟨#[]⟩ by unfold mkS; rw [hb]; rfl, hb]
      generalize hdK c ko = hd at *
      have HH := Lib.hid hh
      rw [hsz] at h5
      clear hh hok hb hsz
      go_enter Try.func33, Try.ntmps33
      go_wp2_with (go_at_call 38; (with_reducible refine HH.out.mono ?_); rintro e w1 ⟨rfl, hb⟩)
      go_ret2
      exact ⟨rfl, hb⟩
  · have hok' : okK ko = false := by simpa using hok
    have hb : mkB c ko s = false := by unfold mkB; rw [hok']; rfl
    rw [show mkS c ko s = ⟨#[]⟩ by unfold mkS; rw [hb]; rfl, hb]
    rw [hok', show hdA c ko = ⟨#[]⟩ by unfold hdA; rw [hok']; rfl] at hh
    have HH := Lib.hid hh
    clear hh hok hok' hb hsz
    go_enter Try.func33, Try.ntmps33
    go_wp2_with (go_at_call 38; (with_reducible refine HH.out.mono ?_); rintro e w1 ⟨rfl, hb⟩)
    go_ret2
    exact ⟨rfl, hb⟩

theorem Becomes.pre {F : List Nat} {A : Ass} {w w1 w' : World} (hb : Below w.heap.size w w1) (h : Becomes F A w1 w') : Becomes F A w w' := by
  obtain ⟨F', g1, g2, g3⟩ := h
  exact ⟨F', g1, (Tn.ofBelow hb F).trans g2 (fun x hx => .inl hx), fun k hk => (g3 k hk).imp id (fun e => Nat.le_trans hb.size e)⟩

theorem bookA_ok {p : Nat} {most : Int} {ts : List ByteArray} {w : World} {F : List Nat} (h : bookA p most ts w F) : ∀ t ∈ ts, okT t = true := by
  obtain ⟨_, _, _, hb, _⟩ := h; exact hb.ok

/-- craft.name. -/
theorem cname (p : Nat) (most : Int) (ts : List ByteArray) (s c : ByteArray) (v : Value) (ko : Option Int) (w : World) (F : List Nat) (hc : c.size = 1) (hk : KeyIn w v ko) (h : bookA p most ts w F) :
    Calls Try.prog 28 #[.pointer (some ⟨p, 0, none⟩), .string s, .string c, v] w fun e w' => e = .returned (.tuple #[.int .i64 (ckX most ts (okK ko) (tmK c ko s)), .int .i64 (ckE most ts (okK ko) (tmK c ko s))]) ∧ Becomes F (bookA p most (ckT most ts (okK ko) (tmK c ko s))) w w' := by
  have hm := cmake s c v ko w hc hk
  have hg := bookA_good p most ts
  by_cases hb : mkB c ko s = true
  · obtain ⟨hok, h5⟩ : okK ko = true ∧ (tmK c ko s).size ≤ 512 := by simpa [mkB] using hb
    rw [hb, show mkS c ko s = tmK c ko s by unfold mkS; rw [if_pos hb]] at hm
    rw [hok]
    generalize tmK c ko s = t at *
    have hn : ∀ w1, Below w.heap.size w w1 → Calls Try.prog 15 #[.pointer (some ⟨p, 0, none⟩), .string t] w1 fun e w' => e = .returned (.tuple #[.int .i64 (nmX most ts t), .int .i64 (nmE most ts t)]) ∧ Becomes F (bookA p most (nmT most ts t)) w w' := fun w1 hb1 =>
      (bname p most ts t w1 F (hg.below h hb1) (by unfold maxLen; omega)).mono fun e w' ⟨a, b⟩ => ⟨a, b.pre hb1⟩
    rw [show ckT most ts true t = nmT most ts t from rfl]
    by_cases he : nmE most ts t = 0
    · obtain ⟨k1, k2⟩ := ckX_ok (most := most) (ts := ts) he
      rw [k1, k2]
      rw [he] at hn
      generalize nmX most ts t = x at *
      generalize nmT most ts t = ts' at *
      have HM := Lib.hid hm
      have HN := Lib.hid hn
      clear hm hn hb hok he k1 k2 h hg hk
      go_enter Try.func28, Try.ntmps28
      go_wp2_with (first
        | (go_at_call 33; (with_reducible refine HM.out.mono ?_); rintro e w1 ⟨rfl, hb⟩)
        | (go_at_call 15; (with_reducible refine (HN.out _ (by assumption)).mono ?_); rintro e w1 ⟨rfl, hbec⟩))
      go_ret2
      exact ⟨rfl, hbec⟩
    · obtain ⟨k1, k2⟩ := ckX_bad (most := most) (ts := ts) (ok := true) (t := t) (.inr he)
      rw [k1, k2]
      rw [nmE_X he] at hn
      have he' : (nmE most ts t == 0) = false := by simpa using he
      generalize nmE most ts t = ee at *
      generalize nmT most ts t = ts' at *
      have HM := Lib.hid hm
      have HN := Lib.hid hn
      clear hm hn hb hok k1 k2 h hg hk
      go_enter Try.func28, Try.ntmps28
      go_wp2_with (first
        | (go_at_call 33; (with_reducible refine HM.out.mono ?_); rintro e w1 ⟨rfl, hb⟩)
        | (go_at_call 15; (with_reducible refine (HN.out _ (by assumption)).mono ?_); rintro e w1 ⟨rfl, hbec⟩))
      go_ret2
      exact ⟨rfl, hbec⟩
  · have hb' : mkB c ko s = false := by simpa using hb
    rw [hb', show mkS c ko s = ⟨#[]⟩ by unfold mkS; rw [hb']; rfl] at hm
    have hT : ckX most ts (okK ko) (tmK c ko s) = 0 ∧ ckE most ts (okK ko) (tmK c ko s) = 300 ∧ ckT most ts (okK ko) (tmK c ko s) = ts := by
      by_cases hok : okK ko = true
      · have h5 : 512 < (tmK c ko s).size := by
          unfold mkB at hb'; rw [hok] at hb'; simp at hb'; exact hb'
        obtain ⟨k1, k2⟩ := big_no (bookA_ok h) h5
        obtain ⟨k3, k4⟩ := big_nm most ts k1
        obtain ⟨k5, k6⟩ := ckX_bad (most := most) (ts := ts) (ok := okK ko) (t := tmK c ko s) (.inr (by rw [k3]; decide))
        exact ⟨k5, k6, by unfold ckT; rw [k4]; split <;> rfl⟩
      · have hok' : okK ko = false := by simpa using hok
        obtain ⟨k5, k6⟩ := ckX_bad (most := most) (ts := ts) (ok := okK ko) (t := tmK c ko s) (.inl hok')
        exact ⟨k5, k6, by unfold ckT; rw [hok']; rfl⟩
    obtain ⟨k1, k2, k3⟩ := hT
    rw [k1, k2, k3]
    have HS := Lib.hid (fun w' => bookA_same (w' := w') h)
    have HM := Lib.hid hm
    clear hm hb hb' k1 k2 k3 h hg hk
    go_enter Try.func28, Try.ntmps28
    go_wp2_with (go_at_call 33; (with_reducible refine HM.out.mono ?_); rintro e w1 ⟨rfl, hb⟩)
    go_ret2
    exact ⟨rfl, HS.out _ hb⟩

theorem key0 (w : World) : KeyIn w (.slice none 0 0) none := .inl ⟨rfl, rfl⟩
theorem key1 (w : World) (k : Int) (t : Nat) (h0 : -9223372036854775808 ≤ k) (h1 : k ≤ 9223372036854775807) : KeyIn (w.alloc (.cells #[.int .i64 k] t)) (.slice (some ⟨w.heap.size, 0, none⟩) 1 1) (some k) :=
  .inr ⟨_, k, rfl, rfl, by simp, h0, h1⟩

theorem datomL (p : Nat) (most : Int) (ts : List ByteArray) (s : ByteArray) : Does Try.prog (bookA p most ts) 18 #[.pointer (some ⟨p, 0, none⟩), .string s] (.returned (.tuple #[.int .i64 (ckX most ts (okK none) (tmK cA none s)), .int .i64 (ckE most ts (okK none) (tmK cA none s))])) (bookA p most (ckT most ts (okK none) (tmK cA none s))) := by
  intro w F h
  have hn := cname p most ts s ⟨#[65]⟩ _ none w F rfl (key0 w) h
  rw [show (⟨#[65]⟩ : ByteArray) = cA from rfl] at hn
  generalize ckX most ts (okK none) (tmK cA none s) = x at *
  generalize ckE most ts (okK none) (tmK cA none s) = y at *
  generalize ckT most ts (okK none) (tmK cA none s) = ts' at *
  rw [show cA = ⟨#[65]⟩ from rfl] at hn
  have HN := Lib.hid hn
  clear hn h
  go_enter Try.func18, Try.ntmps18
  go_wp2_with (go_at_call 28; (with_reducible refine HN.out.mono ?_); rintro e w1 ⟨rfl, hbec⟩)
  go_ret2
  exact ⟨rfl, hbec⟩
theorem datom (p : Nat) (most : Int) (ts : List ByteArray) (s : ByteArray) (_hs : s.size ≤ 9223372036854770000) : Does Try.prog (bookA p most ts) 18 #[.pointer (some ⟨p, 0, none⟩), .string s] (.returned (.tuple #[.int .i64 (ckX most ts (okK none) (tmK cA none s)), .int .i64 (ckE most ts (okK none) (tmK cA none s))])) (bookA p most (ckT most ts (okK none) (tmK cA none s))) :=
  datomL p most ts s

theorem pfx_name {t h : ByteArray} : Lib.hasPrefix t.data.toList h.data.toList = pfx t h := rfl
/- A nil book. -/
theorem cname_nil (s c : ByteArray) (v : Value) (w : World) : Calls Try.prog 28 #[.pointer none, .string s, .string c, v] w fun e w' => e = .returned (.tuple #[.int .i64 0, .int .i64 1]) ∧ w = w' := by
  go_enter Try.func28, Try.ntmps28
  go_wp2
  go_ret2
  exact ⟨rfl, rfl⟩
theorem catom_nil (s : ByteArray) (w : World) : Calls Try.prog 18 #[.pointer none, .string s] w fun e w' => e = .returned (.tuple #[.int .i64 0, .int .i64 1]) ∧ w = w' := by
  go_enter Try.func18, Try.ntmps18
  go_wp2_with (go_at_call 28; (with_reducible refine (cname_nil _ _ _ _).mono ?_); rintro e w1 ⟨rfl, rfl⟩)
  go_ret2
  exact ⟨rfl, rfl⟩
end Go.Proofs.Ytcfibjfhmfdmkaa
