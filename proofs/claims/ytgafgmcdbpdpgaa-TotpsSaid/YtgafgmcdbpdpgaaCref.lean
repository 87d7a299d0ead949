
/- What the reference's Atom, Hash, Mac, Seal, IsHash, IsMac and Open answer. No condition but that the book is one. -/
import Derived.Test.YtgafgmcdbpdpgaaSArg
import Derived.Test.YtgafgmcdbpdpgaaRnums
import Derived.Test.YtgafgmcdbpdpgaaCplain
namespace Go.Proofs.Ytgafgmcdbpdpgaa
open Go Go.RowKit Go.Maps

theorem rmade (p : Nat) (most : Int) (ts : List ByteArray) (t : ByteArray) (w : World) (F : List Nat) (h : refA p most ts w F) (ht : t.size ≤ maxLen) :
    Calls Try.prog 37 #[.pointer (some ⟨p, 0, none⟩), .string t] w fun e w' => e = .returned (.tuple #[.int .i64 (ckX most ts true t), .int .i64 (ckE most ts true t)]) ∧ Becomes F (refA p most (nmT most ts t)) w w' := by
  have hn := rname p most ts t w F h ht
  by_cases he : nmE most ts t = 0
  · obtain ⟨k1, k2⟩ := ckX_ok (most := most) (ts := ts) he
    rw [k1, k2]
    rw [he] at hn
    generalize nmX most ts t = x at *
    generalize nmT most ts t = ts' at *
    have HN := Lib.hid hn
    clear hn he k1 k2 h
    go_enter Try.func37, Try.ntmps37
    go_wp2_with (go_at_call 21; (with_reducible refine HN.out.mono ?_); rintro e w1 ⟨rfl, hbec⟩)
    go_ret2
    exact ⟨rfl, hbec⟩
  · obtain ⟨k1, k2⟩ := ckX_bad (most := most) (ts := ts) (ok := true) (t := t) (.inr he)
    rw [k1, k2]
    rw [nmE_X he] at hn
    have he' : (nmE most ts t == 0) = false := by simpa using he
    generalize nmE most ts t = ee at *
    generalize nmT most ts t = ts' at *
    have HN := Lib.hid hn
    clear hn k1 k2 h
    go_enter Try.func37, Try.ntmps37
    go_wp2_with (go_at_call 21; (with_reducible refine HN.out.mono ?_); rintro e w1 ⟨rfl, hbec⟩)
    go_ret2
    exact ⟨rfl, hbec⟩

theorem refA_becomes_pre {F : List Nat} {A : Ass} {w w1 w' : World} (hb : Below w.heap.size w w1) (h : Becomes F A w1 w') : Becomes F A w w' := by
  obtain ⟨F', g1, g2, g3⟩ := h
  exact ⟨F', g1, (Tn.ofBelow hb F).trans g2 (fun x hx => .inl hx), fun k hk => (g3 k hk).imp id (fun e => Nat.le_trans hb.size e)⟩

theorem rnums1 (k : Int) (w : World) (h0 : -9223372036854775808 ≤ k) (h1 : k ≤ 9223372036854775807) (t : Nat) :
    Calls Try.prog 25 #[.slice (some ⟨w.heap.size, 0, none⟩) 1 1] (w.alloc (.cells #[.int .i64 k] t)) fun e w' => e = .returned (.string (numS k)) ∧ Below w.heap.size w w' := by
  have hb0 : Below w.heap.size w (w.alloc (.cells #[.int .i64 k] t)) := (Below.refl _ _).alloc (Nat.le_refl _) _
  have e0 : ∀ j, j < 1 → j = 0 := fun j hj => by omega
  have := rnums [k] w.heap.size 1 (w.alloc (.cells #[.int .i64 k] t)) rfl (by omega) (fun j hj => by rw [e0 j hj]; simp) (fun j hj => by rw [e0 j hj]; exact ⟨h0, h1⟩) (by simp)
  rw [show numsB [k] = numS k from ba_nil _] at this
  exact this.mono fun e w' ⟨a, b⟩ => ⟨a, hb0.trans (b.mono hb0.size)⟩

theorem drmac (p : Nat) (most : Int) (ts : List ByteArray) (key : Int) (s : ByteArray) (hs : s.size ≤ 9223372036854770000) (k0 : -9223372036854775808 ≤ key) (k1 : key ≤ 9223372036854775807) : Does Try.prog (refA p most ts) 24 #[.pointer (some ⟨p, 0, none⟩), .int .i64 key, .string s] (.returned (.tuple #[.int .i64 (ckX most ts (okK (some key)) (tmK cM (some key) s)), .int .i64 (ckE most ts (okK (some key)) (tmK cM (some key) s))])) (refA p most (ckT most ts (okK (some key)) (tmK cM (some key) s))) := by
  intro w F h
  have hsz5 := numS_size5 key
  have hsz : (tmK cM (some key) s).size ≤ maxLen := by rw [tmK_size]; have := (hdK_size (c := cM) rfl (some key)).2; unfold maxLen; omega
  have hg := refA_good p most ts
  have hk := rnum0 key
  have hnn := fun w => rnums1 key w k0 k1 3
  have HS := Lib.hid (fun w' => refA_same (w' := w') h)
  by_cases hok : okNum key = true
  · have hn : ∀ w1, Below w.heap.size w w1 → Calls Try.prog 37 #[.pointer (some ⟨p, 0, none⟩), .string (tmK cM (some key) s)] w1 fun e w' => e = .returned (.tuple #[.int .i64 (ckX most ts true (tmK cM (some key) s)), .int .i64 (ckE most ts true (tmK cM (some key) s))]) ∧ Becomes F (refA p most (nmT most ts (tmK cM (some key) s))) w w' := fun w1 hb1 =>
      (rmade p most ts (tmK cM (some key) s) w1 F (hg.below h hb1) hsz).mono fun e w' ⟨a, b⟩ => ⟨a, refA_becomes_pre hb1 b⟩
    rw [show okK (some key) = true from hok, show ckT most ts true (tmK cM (some key) s) = nmT most ts (tmK cM (some key) s) from rfl]
    rw [hok] at hk
    generalize ckX most ts true (tmK cM (some key) s) = x at *
    generalize ckE most ts true (tmK cM (some key) s) = y at *
    generalize nmT most ts (tmK cM (some key) s) = ts' at *
    rw [show tmK cM (some key) s = ⟨#[77]⟩ ++ numS key ++ s from rfl] at hn
    have HK := Lib.hid hk
    have HN := Lib.hid hn
    have HNN := Lib.hid hnn
    clear hn hk hnn h hg hok hsz
    go_enter Try.func24, Try.ntmps24
    go_wp2_with (first
      | (go_at_call 36; (with_reducible refine (HK.out _).mono ?_); rintro e w1 ⟨rfl, rfl⟩)
      | (go_at_call 25; (with_reducible refine (HNN.out _).mono ?_); rintro e w1 ⟨rfl, hb⟩)
      | (go_at_call 37; (with_reducible refine (HN.out _ (by assumption)).mono ?_); rintro e w1 ⟨rfl, hbec⟩))
    go_ret2
    exact ⟨rfl, hbec⟩
  · have hok' : okNum key = false := by simpa using hok
    obtain ⟨k5, k6⟩ := ckX_bad (most := most) (ts := ts) (ok := okK (some key)) (t := (tmK cM (some key) s)) (.inl hok')
    rw [k5, k6, show ckT most ts (okK (some key)) (tmK cM (some key) s) = ts by unfold ckT; rw [show okK (some key) = false from hok']; rfl]
    rw [hok'] at hk
    have HK := Lib.hid hk
    clear hk hnn h hg hok hok' hsz k5 k6
    go_enter Try.func24, Try.ntmps24
    go_wp2_with (go_at_call 36; (with_reducible refine (HK.out _).mono ?_); rintro e w1 ⟨rfl, rfl⟩)
    go_ret2
    exact ⟨rfl, HS.out _ (Below.refl _ _)⟩

theorem drismac (p : Nat) (most : Int) (ts : List ByteArray) (key : Int) (s : ByteArray) (tag : Int) (hs : s.size ≤ 9223372036854770000) (k0 : -9223372036854775808 ≤ key) (k1 : key ≤ 9223372036854775807) : Does Try.prog (refA p most ts) 29 #[.pointer (some ⟨p, 0, none⟩), .int .i64 key, .string s, .int .i64 tag] (.returned (.bool (ckI ts (okK (some key)) (tmK cM (some key) s) tag))) (refA p most ts) := by
  intro w F h
  have hsz5 := numS_size5 key
  have hg := refA_good p most ts
  have hn : ∀ w1, Below w.heap.size w w1 → Calls Try.prog 33 #[.pointer (some ⟨p, 0, none⟩), .string (tmK cM (some key) s)] w1 fun e w' => e = .returned (.tuple #[.int .i64 (fnd ts (tmK cM (some key) s)), .bool (isB ts (tmK cM (some key) s))]) ∧ Below w.heap.size w w' := fun w1 hb1 =>
    (rfind p most ts (tmK cM (some key) s) w1 F (hg.below h hb1)).mono fun e w' ⟨a, b⟩ => ⟨a, b ▸ hb1⟩
  have hk := rnum0 key
  have HNN := Lib.hid (fun w => rnums1 key w k0 k1 3)
  have HS := Lib.hid (fun w' => refA_same (w' := w') h)
  by_cases hok : okNum key = true
  · rw [show okK (some key) = true from hok]
    rw [hok] at hk
    by_cases hi : isB ts (tmK cM (some key) s) = true
    · rw [show ckI ts true (tmK cM (some key) s) tag = decide (fnd ts (tmK cM (some key) s) = tag) by unfold ckI; rw [hi]; rfl]
      rw [hi] at hn
      generalize fnd ts (tmK cM (some key) s) = x at *
      have hx : (x == tag) = decide (x = tag) := by rw [Bool.eq_iff_iff]; simp
      generalize decide (x = tag) = bb at *
      rw [show tmK cM (some key) s = ⟨#[77]⟩ ++ numS key ++ s from rfl] at hn
      have HN := Lib.hid hn
      have HK := Lib.hid hk
      clear hn h hi hk hg hok
      go_enter Try.func29, Try.ntmps29
      go_wp2_with (first
        | (go_at_call 36; (with_reducible refine (HK.out _).mono ?_); rintro e w1 ⟨rfl, rfl⟩)
        | (go_at_call 25; (with_reducible refine (HNN.out _).mono ?_); rintro e w1 ⟨rfl, hb⟩)
        | (go_at_call 33; (with_reducible refine (HN.out _ (by assumption)).mono ?_); rintro e w1 ⟨rfl, hb2⟩))
      go_ret
      exact ⟨rfl, HS.out _ hb2⟩
    · have hi' : isB ts (tmK cM (some key) s) = false := by simpa using hi
      rw [show ckI ts true (tmK cM (some key) s) tag = false by unfold ckI; rw [hi']; rfl]
      rw [hi'] at hn
      generalize fnd ts (tmK cM (some key) s) = x at *
      rw [show tmK cM (some key) s = ⟨#[77]⟩ ++ numS key ++ s from rfl] at hn
      have HN := Lib.hid hn
      have HK := Lib.hid hk
      clear hn h hi hi' hk hg hok
      go_enter Try.func29, Try.ntmps29
      go_wp2_with (first
        | (go_at_call 36; (with_reducible refine (HK.out _).mono ?_); rintro e w1 ⟨rfl, rfl⟩)
        | (go_at_call 25; (with_reducible refine (HNN.out _).mono ?_); rintro e w1 ⟨rfl, hb⟩)
        | (go_at_call 33; (with_reducible refine (HN.out _ (by assumption)).mono ?_); rintro e w1 ⟨rfl, hb2⟩))
      go_ret
      exact ⟨rfl, HS.out _ hb2⟩
  · have hok' : okNum key = false := by simpa using hok
    rw [show ckI ts (okK (some key)) (tmK cM (some key) s) tag = false by unfold ckI; rw [show okK (some key) = false from hok']; rfl]
    rw [hok'] at hk
    generalize fnd ts (tmK cM (some key) s) = x at *
    generalize isB ts (tmK cM (some key) s) = y at *
    rw [show tmK cM (some key) s = ⟨#[77]⟩ ++ numS key ++ s from rfl] at hn
    have HN := Lib.hid hn
    have HK := Lib.hid hk
    clear hn h hk hg hok hok'
    go_enter Try.func29, Try.ntmps29
    go_wp2_with (first
      | (go_at_call 36; (with_reducible refine (HK.out _).mono ?_); rintro e w1 ⟨rfl, rfl⟩)
      | (go_at_call 25; (with_reducible refine (HNN.out _).mono ?_); rintro e w1 ⟨rfl, hb⟩)
      | (go_at_call 33; (with_reducible refine (HN.out _ (by assumption)).mono ?_); rintro e w1 ⟨rfl, hb2⟩))
    go_ret
    exact ⟨rfl, HS.out _ hb2⟩

end Go.Proofs.Ytgafgmcdbpdpgaa
