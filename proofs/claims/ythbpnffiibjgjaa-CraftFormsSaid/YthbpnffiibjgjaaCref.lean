/- What the reference's Atom, Hash, Mac, Seal, IsHash, IsMac and Open answer. No condition but that the book is one. -/
import Derived.Test.YthbpnffiibjgjaaSArg
import Derived.Test.YthbpnffiibjgjaaRnums
import Derived.Test.YthbpnffiibjgjaaCplain
namespace Go.Proofs.Ythbpnffiibjgjaa
open Go Go.RowKit Go.Maps

theorem rmade (p : Nat) (most : Int) (ts : List ByteArray) (t : ByteArray) (w : World) (F : List Nat) (h : refA p most ts w F) (ht : t.size ≤ maxLen) :
    Calls Try.prog 41 #[.pointer (some ⟨p, 0, none⟩), .string t] w fun e w' => e = .returned (.tuple #[.int .i64 (ckX most ts true t), .int .i64 (ckE most ts true t)]) ∧ Becomes F (refA p most (nmT most ts t)) w w' := by
  have hn := rname p most ts t w F h ht
  by_cases he : nmE most ts t = 0
  · obtain ⟨k1, k2⟩ := ckX_ok (most := most) (ts := ts) he
    rw [k1, k2]
    rw [he] at hn
    generalize nmX most ts t = x at *
    generalize nmT most ts t = ts' at *
    have HN := Lib.hid hn
    clear hn he k1 k2 h
    go_enter Try.func41, Try.ntmps41
    go_wp2_with (go_at_call 32; (with_reducible refine HN.out.mono ?_); rintro e w1 ⟨rfl, hbec⟩)
    go_ret2
    exact ⟨rfl, hbec⟩
  · obtain ⟨k1, k2⟩ := ckX_bad (most := most) (ts := ts) (ok := true) (t := t) (.inr he)
    rw [k1, k2]
    rw [nmE_X he] at hn
    have he' : (nmE most ts t == 0) = false := by simpa using he
    generalize nmE most ts t = ee at *
    generalize nmT most ts t = ts' at *
    have HN := Lib.hid hn
    clear hn k1 k2 h
    go_enter Try.func41, Try.ntmps41
    go_wp2_with (go_at_call 32; (with_reducible refine HN.out.mono ?_); rintro e w1 ⟨rfl, hbec⟩)
    go_ret2
    exact ⟨rfl, hbec⟩

theorem refA_becomes_pre {F : List Nat} {A : Ass} {w w1 w' : World} (hb : Below w.heap.size w w1) (h : Becomes F A w1 w') : Becomes F A w w' := by
  obtain ⟨F', g1, g2, g3⟩ := h
  exact ⟨F', g1, (Tn.ofBelow hb F).trans g2 (fun x hx => .inl hx), fun k hk => (g3 k hk).imp id (fun e => Nat.le_trans hb.size e)⟩

theorem rnums1 (k : Int) (w : World) (h0 : -9223372036854775808 ≤ k) (h1 : k ≤ 9223372036854775807) (t : Nat) :
    Calls Try.prog 37 #[.slice (some ⟨w.heap.size, 0, none⟩) 1 1] (w.alloc (.cells #[.int .i64 k] t)) fun e w' => e = .returned (.string (numS k)) ∧ Below w.heap.size w w' := by
  have hb0 : Below w.heap.size w (w.alloc (.cells #[.int .i64 k] t)) := (Below.refl _ _).alloc (Nat.le_refl _) _
  have e0 : ∀ j, j < 1 → j = 0 := fun j hj => by omega
  have := rnums [k] w.heap.size 1 (w.alloc (.cells #[.int .i64 k] t)) rfl (by omega) (fun j hj => by rw [e0 j hj]; simp) (fun j hj => by rw [e0 j hj]; exact ⟨h0, h1⟩) (by simp)
  rw [show numsB [k] = numS k from ba_nil _] at this
  exact this.mono fun e w' ⟨a, b⟩ => ⟨a, hb0.trans (b.mono hb0.size)⟩

theorem dratom (p : Nat) (most : Int) (ts : List ByteArray) (s : ByteArray) (hs : s.size ≤ 9223372036854770000) : Does Try.prog (refA p most ts) 19 #[.pointer (some ⟨p, 0, none⟩), .string s] (.returned (.tuple #[.int .i64 (ckX most ts (okK none) (tmK cA none s)), .int .i64 (ckE most ts (okK none) (tmK cA none s))])) (refA p most (ckT most ts (okK none) (tmK cA none s))) := by
  intro w F h
  have hsz : (tmK cA none s).size ≤ maxLen := by rw [tmK_size]; have : (hdK cA none).size = 1 := rfl; unfold maxLen; omega
  have hn := rmade p most ts (tmK cA none s) w F h hsz
  rw [show okK none = true from rfl, show ckT most ts true (tmK cA none s) = nmT most ts (tmK cA none s) from rfl]
  generalize ckX most ts true (tmK cA none s) = x at *
  generalize ckE most ts true (tmK cA none s) = y at *
  generalize nmT most ts (tmK cA none s) = ts' at *
  rw [show tmK cA none s = ⟨#[65]⟩ ++ s from rfl] at hn
  have HN := Lib.hid hn
  clear hn h hsz
  go_enter Try.func19, Try.ntmps19
  go_wp2_with (go_at_call 41; (with_reducible refine HN.out.mono ?_); rintro e w1 ⟨rfl, hbec⟩)
  go_ret2
  exact ⟨rfl, hbec⟩

theorem drhash (p : Nat) (most : Int) (ts : List ByteArray) (s : ByteArray) (hs : s.size ≤ 9223372036854770000) : Does Try.prog (refA p most ts) 21 #[.pointer (some ⟨p, 0, none⟩), .string s] (.returned (.tuple #[.int .i64 (ckX most ts (okK none) (tmK cH none s)), .int .i64 (ckE most ts (okK none) (tmK cH none s))])) (refA p most (ckT most ts (okK none) (tmK cH none s))) := by
  intro w F h
  have hsz : (tmK cH none s).size ≤ maxLen := by rw [tmK_size]; have : (hdK cH none).size = 1 := rfl; unfold maxLen; omega
  have hn := rmade p most ts (tmK cH none s) w F h hsz
  rw [show okK none = true from rfl, show ckT most ts true (tmK cH none s) = nmT most ts (tmK cH none s) from rfl]
  generalize ckX most ts true (tmK cH none s) = x at *
  generalize ckE most ts true (tmK cH none s) = y at *
  generalize nmT most ts (tmK cH none s) = ts' at *
  rw [show tmK cH none s = ⟨#[72]⟩ ++ s from rfl] at hn
  have HN := Lib.hid hn
  clear hn h hsz
  go_enter Try.func21, Try.ntmps21
  go_wp2_with (go_at_call 41; (with_reducible refine HN.out.mono ?_); rintro e w1 ⟨rfl, hbec⟩)
  go_ret2
  exact ⟨rfl, hbec⟩

theorem drmac (p : Nat) (most : Int) (ts : List ByteArray) (key : Int) (s : ByteArray) (hs : s.size ≤ 9223372036854770000) (k0 : -9223372036854775808 ≤ key) (k1 : key ≤ 9223372036854775807) : Does Try.prog (refA p most ts) 23 #[.pointer (some ⟨p, 0, none⟩), .int .i64 key, .string s] (.returned (.tuple #[.int .i64 (ckX most ts (okK (some key)) (tmK cM (some key) s)), .int .i64 (ckE most ts (okK (some key)) (tmK cM (some key) s))])) (refA p most (ckT most ts (okK (some key)) (tmK cM (some key) s))) := by
  intro w F h
  have hsz5 := numS_size5 key
  have hsz : (tmK cM (some key) s).size ≤ maxLen := by rw [tmK_size]; have := (hdK_size (c := cM) rfl (some key)).2; unfold maxLen; omega
  have hg := refA_good p most ts
  have hk := rnum0 key
  have hnn := fun w => rnums1 key w k0 k1 3
  have HS := Lib.hid (fun w' => refA_same (w' := w') h)
  by_cases hok : okNum key = true
  · have hn : ∀ w1, Below w.heap.size w w1 → Calls Try.prog 41 #[.pointer (some ⟨p, 0, none⟩), .string (tmK cM (some key) s)] w1 fun e w' => e = .returned (.tuple #[.int .i64 (ckX most ts true (tmK cM (some key) s)), .int .i64 (ckE most ts true (tmK cM (some key) s))]) ∧ Becomes F (refA p most (nmT most ts (tmK cM (some key) s))) w w' := fun w1 hb1 =>
      (rmade p most ts (tmK cM (some key) s) w1 F (hg.below h hb1) hsz).mono fun e w' ⟨a, b⟩ => ⟨a, refA_becomes_pre hb1 b⟩
    rw [show okK (some key) = true from hok, show ckT most ts true (tmK cM (some key) s) = nmT most ts (tmK cM (some key) s) from rfl]
    rw [hok] at hk
    generalize ckX most ts true (tmK cM (some key) s) = x at *
    generalize ckE most ts true (tmK cM (some key) s) = y at *
    generalize nmT most ts (tmK cM (some key) s) = ts' at *
    rw [show tmK cM (some key) s = ⟨#[77]⟩ ++ numS key ++ s from rfl] at hn
    have HK := Lib.hid hk
    have HN := Lib.hid hn
    have HNN := Lib.hid hnn
    clear hn hk hnn h hg hok hsz
    go_enter Try.func23, Try.ntmps23
    go_wp2_with (first
      | (go_at_call 38; (with_reducible refine (HK.out _).mono ?_); rintro e w1 ⟨rfl, rfl⟩)
      | (go_at_call 37; (with_reducible refine (HNN.out _).mono ?_); rintro e w1 ⟨rfl, hb⟩)
      | (go_at_call 41; (with_reducible refine (HN.out _ (by assumption)).mono ?_); rintro e w1 ⟨rfl, hbec⟩))
    go_ret2
    exact ⟨rfl, hbec⟩
  · have hok' : okNum key = false := by simpa using hok
    obtain ⟨k5, k6⟩ := ckX_bad (most := most) (ts := ts) (ok := okK (some key)) (t := (tmK cM (some key) s)) (.inl hok')
    rw [k5, k6, show ckT most ts (okK (some key)) (tmK cM (some key) s) = ts by unfold ckT; rw [show okK (some key) = false from hok']; rfl]
    rw [hok'] at hk
    have HK := Lib.hid hk
    clear hk hnn h hg hok hok' hsz k5 k6
    go_enter Try.func23, Try.ntmps23
    go_wp2_with (go_at_call 38; (with_reducible refine (HK.out _).mono ?_); rintro e w1 ⟨rfl, rfl⟩)
    go_ret2
    exact ⟨rfl, HS.out _ (Below.refl _ _)⟩

theorem drseal (p : Nat) (most : Int) (ts : List ByteArray) (key : Int) (s : ByteArray) (hs : s.size ≤ 9223372036854770000) (k0 : -9223372036854775808 ≤ key) (k1 : key ≤ 9223372036854775807) : Does Try.prog (refA p most ts) 25 #[.pointer (some ⟨p, 0, none⟩), .int .i64 key, .string s] (.returned (.tuple #[.int .i64 (ckX most ts (okK (some key)) (tmK cS (some key) s)), .int .i64 (ckE most ts (okK (some key)) (tmK cS (some key) s))])) (refA p most (ckT most ts (okK (some key)) (tmK cS (some key) s))) := by
  intro w F h
  have hsz5 := numS_size5 key
  have hsz : (tmK cS (some key) s).size ≤ maxLen := by rw [tmK_size]; have := (hdK_size (c := cS) rfl (some key)).2; unfold maxLen; omega
  have hg := refA_good p most ts
  have hk := rnum0 key
  have hnn := fun w => rnums1 key w k0 k1 3
  have HS := Lib.hid (fun w' => refA_same (w' := w') h)
  by_cases hok : okNum key = true
  · have hn : ∀ w1, Below w.heap.size w w1 → Calls Try.prog 41 #[.pointer (some ⟨p, 0, none⟩), .string (tmK cS (some key) s)] w1 fun e w' => e = .returned (.tuple #[.int .i64 (ckX most ts true (tmK cS (some key) s)), .int .i64 (ckE most ts true (tmK cS (some key) s))]) ∧ Becomes F (refA p most (nmT most ts (tmK cS (some key) s))) w w' := fun w1 hb1 =>
      (rmade p most ts (tmK cS (some key) s) w1 F (hg.below h hb1) hsz).mono fun e w' ⟨a, b⟩ => ⟨a, refA_becomes_pre hb1 b⟩
    rw [show okK (some key) = true from hok, show ckT most ts true (tmK cS (some key) s) = nmT most ts (tmK cS (some key) s) from rfl]
    rw [hok] at hk
    generalize ckX most ts true (tmK cS (some key) s) = x at *
    generalize ckE most ts true (tmK cS (some key) s) = y at *
    generalize nmT most ts (tmK cS (some key) s) = ts' at *
    rw [show tmK cS (some key) s = ⟨#[83]⟩ ++ numS key ++ s from rfl] at hn
    have HK := Lib.hid hk
    have HN := Lib.hid hn
    have HNN := Lib.hid hnn
    clear hn hk hnn h hg hok hsz
    go_enter Try.func25, Try.ntmps25
    go_wp2_with (first
      | (go_at_call 38; (with_reducible refine (HK.out _).mono ?_); rintro e w1 ⟨rfl, rfl⟩)
      | (go_at_call 37; (with_reducible refine (HNN.out _).mono ?_); rintro e w1 ⟨rfl, hb⟩)
      | (go_at_call 41; (with_reducible refine (HN.out _ (by assumption)).mono ?_); rintro e w1 ⟨rfl, hbec⟩))
    go_ret2
    exact ⟨rfl, hbec⟩
  · have hok' : okNum key = false := by simpa using hok
    obtain ⟨k5, k6⟩ := ckX_bad (most := most) (ts := ts) (ok := okK (some key)) (t := (tmK cS (some key) s)) (.inl hok')
    rw [k5, k6, show ckT most ts (okK (some key)) (tmK cS (some key) s) = ts by unfold ckT; rw [show okK (some key) = false from hok']; rfl]
    rw [hok'] at hk
    have HK := Lib.hid hk
    clear hk hnn h hg hok hok' hsz k5 k6
    go_enter Try.func25, Try.ntmps25
    go_wp2_with (go_at_call 38; (with_reducible refine (HK.out _).mono ?_); rintro e w1 ⟨rfl, rfl⟩)
    go_ret2
    exact ⟨rfl, HS.out _ (Below.refl _ _)⟩

theorem drishash (p : Nat) (most : Int) (ts : List ByteArray) (s : ByteArray) (tag : Int) (hs : s.size ≤ 9223372036854770000) : Does Try.prog (refA p most ts) 14 #[.pointer (some ⟨p, 0, none⟩), .string s, .int .i64 tag] (.returned (.bool (ckI ts (okK none) (tmK cH none s) tag))) (refA p most ts) := by
  intro w F h
  have hn := rfind p most ts (tmK cH none s) w F h
  have HS := Lib.hid (fun w' => refA_same (w' := w') h)
  by_cases hi : isB ts (tmK cH none s) = true
  · rw [show ckI ts (okK none) (tmK cH none s) tag = decide (fnd ts (tmK cH none s) = tag) by unfold ckI; rw [hi]; rfl]
    rw [hi] at hn
    generalize fnd ts (tmK cH none s) = x at *
    have hx : (x == tag) = decide (x = tag) := by rw [Bool.eq_iff_iff]; simp
    generalize decide (x = tag) = bb at *
    rw [show tmK cH none s = ⟨#[72]⟩ ++ s from rfl] at hn
    have HN := Lib.hid hn
    clear hn h hi
    go_enter Try.func14, Try.ntmps14
    go_wp2_with (go_at_call 39; (with_reducible refine HN.out.mono ?_); rintro e w1 ⟨rfl, rfl⟩)
    go_ret
    exact ⟨rfl, HS.out _ (Below.refl _ _)⟩
  · have hi' : isB ts (tmK cH none s) = false := by simpa using hi
    rw [show ckI ts (okK none) (tmK cH none s) tag = false by unfold ckI; rw [hi']; rfl]
    rw [hi'] at hn
    generalize fnd ts (tmK cH none s) = x at *
    rw [show tmK cH none s = ⟨#[72]⟩ ++ s from rfl] at hn
    have HN := Lib.hid hn
    clear hn h hi hi'
    go_enter Try.func14, Try.ntmps14
    go_wp2_with (go_at_call 39; (with_reducible refine HN.out.mono ?_); rintro e w1 ⟨rfl, rfl⟩)
    go_ret
    exact ⟨rfl, HS.out _ (Below.refl _ _)⟩

theorem drismac (p : Nat) (most : Int) (ts : List ByteArray) (key : Int) (s : ByteArray) (tag : Int) (hs : s.size ≤ 9223372036854770000) (k0 : -9223372036854775808 ≤ key) (k1 : key ≤ 9223372036854775807) : Does Try.prog (refA p most ts) 15 #[.pointer (some ⟨p, 0, none⟩), .int .i64 key, .string s, .int .i64 tag] (.returned (.bool (ckI ts (okK (some key)) (tmK cM (some key) s) tag))) (refA p most ts) := by
  intro w F h
  have hsz5 := numS_size5 key
  have hg := refA_good p most ts
  have hn : ∀ w1, Below w.heap.size w w1 → Calls Try.prog 39 #[.pointer (some ⟨p, 0, none⟩), .string (tmK cM (some key) s)] w1 fun e w' => e = .returned (.tuple #[.int .i64 (fnd ts (tmK cM (some key) s)), .bool (isB ts (tmK cM (some key) s))]) ∧ Below w.heap.size w w' := fun w1 hb1 =>
    (rfind p most ts (tmK cM (some key) s) w1 F (hg.below h hb1)).mono fun e w' ⟨a, b⟩ => ⟨a, b ▸ hb1⟩
  have hk := rnum0 key
  have HNN := Lib.hid (fun w => rnums1 key w k0 k1 3)
  have HS := Lib.hid (fun w' => refA_same (w' := w') h)
  by_cases hok : okNum key = true
  · rw [show okK (some key) = true from hok]
    rw [hok] at hk
    by_cases hi : isB ts (tmK cM (some key) s) = true
    · rw [show ckI ts true (tmK cM (some key) s) tag = decide (fnd ts (tmK cM (some key) s) = tag) by unfold ckI; rw [hi]; rfl]
      rw [hi] at hn
      generalize fnd ts (tmK cM (some key) s) = x at *
      have hx : (x == tag) = decide (x = tag) := by rw [Bool.eq_iff_iff]; simp
      generalize decide (x = tag) = bb at *
      rw [show tmK cM (some key) s = ⟨#[77]⟩ ++ numS key ++ s from rfl] at hn
      have HN := Lib.hid hn
      have HK := Lib.hid hk
      clear hn h hi hk hg hok
      go_enter Try.func15, Try.ntmps15
      go_wp2_with (first
        | (go_at_call 38; (with_reducible refine (HK.out _).mono ?_); rintro e w1 ⟨rfl, rfl⟩)
        | (go_at_call 37; (with_reducible refine (HNN.out _).mono ?_); rintro e w1 ⟨rfl, hb⟩)
        | (go_at_call 39; (with_reducible refine (HN.out _ (by assumption)).mono ?_); rintro e w1 ⟨rfl, hb2⟩))
      go_ret
      exact ⟨rfl, HS.out _ hb2⟩
    · have hi' : isB ts (tmK cM (some key) s) = false := by simpa using hi
      rw [show ckI ts true (tmK cM (some key) s) tag = false by unfold ckI; rw [hi']; rfl]
      rw [hi'] at hn
      generalize fnd ts (tmK cM (some key) s) = x at *
      rw [show tmK cM (some key) s = ⟨#[77]⟩ ++ numS key ++ s from rfl] at hn
      have HN := Lib.hid hn
      have HK := Lib.hid hk
      clear hn h hi hi' hk hg hok
      go_enter Try.func15, Try.ntmps15
      go_wp2_with (first
        | (go_at_call 38; (with_reducible refine (HK.out _).mono ?_); rintro e w1 ⟨rfl, rfl⟩)
        | (go_at_call 37; (with_reducible refine (HNN.out _).mono ?_); rintro e w1 ⟨rfl, hb⟩)
        | (go_at_call 39; (with_reducible refine (HN.out _ (by assumption)).mono ?_); rintro e w1 ⟨rfl, hb2⟩))
      go_ret
      exact ⟨rfl, HS.out _ hb2⟩
  · have hok' : okNum key = false := by simpa using hok
    rw [show ckI ts (okK (some key)) (tmK cM (some key) s) tag = false by unfold ckI; rw [show okK (some key) = false from hok']; rfl]
    rw [hok'] at hk
    generalize fnd ts (tmK cM (some key) s) = x at *
    generalize isB ts (tmK cM (some key) s) = y at *
    rw [show tmK cM (some key) s = ⟨#[77]⟩ ++ numS key ++ s from rfl] at hn
    have HN := Lib.hid hn
    have HK := Lib.hid hk
    clear hn h hk hg hok hok'
    go_enter Try.func15, Try.ntmps15
    go_wp2_with (first
      | (go_at_call 38; (with_reducible refine (HK.out _).mono ?_); rintro e w1 ⟨rfl, rfl⟩)
      | (go_at_call 37; (with_reducible refine (HNN.out _).mono ?_); rintro e w1 ⟨rfl, hb⟩)
      | (go_at_call 39; (with_reducible refine (HN.out _ (by assumption)).mono ?_); rintro e w1 ⟨rfl, hb2⟩))
    go_ret
    exact ⟨rfl, HS.out _ hb2⟩

/-- The reference's Open. -/
theorem dropen (p : Nat) (most : Int) (ts : List ByteArray) (key tag : Int) (k0 : -9223372036854775808 ≤ key) (k1 : key ≤ 9223372036854775807) : Does Try.prog (refA p most ts) 13 #[.pointer (some ⟨p, 0, none⟩), .int .i64 key, .int .i64 tag] (.returned (.tuple #[.string (opS ts key tag), .int .i64 (opE ts key tag)])) (refA p most ts) := by
  intro w F h
  have hsz5 := numS_size5 key
  have ht := rbterm p most ts tag w F h
  have hk := rnum0 key
  have HNN := Lib.hid (fun w => rnums1 key w k0 k1 3)
  have HS := Lib.hid (fun w' => refA_same (w' := w') h)
  have hhz : (cS ++ numS key).size = 1 + (numS key).size := by rw [ByteArray.size_append]; rfl
  have hval : (opB ts key tag = true → opS ts key tag = (tmS ts tag).extract (1 + (numS key).size) (tmS ts tag).size ∧ opE ts key tag = 0) ∧ (opB ts key tag = false → opS ts key tag = ⟨#[]⟩ ∧ opE ts key tag = 301) := by
    unfold opS opE
    rw [hhz]
    exact ⟨fun e => by rw [e]; exact ⟨rfl, rfl⟩, fun e => by rw [e]; exact ⟨rfl, rfl⟩⟩
  have hop : opB ts key tag = (okNum key && decide (tmE ts tag = 0) && (decide (1 + (numS key).size ≤ (tmS ts tag).size) && (((tmS ts tag).extract 0 (1 + (numS key).size)).toList == (⟨#[83]⟩ ++ numS key).toList))) := by
    unfold opB; rw [pfx_ref, hhz]; rfl
  clear hhz
  generalize opS ts key tag = os at *
  generalize opE ts key tag = oe at *
  generalize opB ts key tag = ob at *
  generalize tmS ts tag = t at *
  generalize tmE ts tag = te at *
  clear h
  have HT := Lib.hid ht
  clear ht
  by_cases he : te = 0
  · subst he
    by_cases hok : okNum key = true
    · rw [hok] at hk
      have HK := Lib.hid hk
      clear hk
      by_cases hs : 1 + (numS key).size ≤ t.size
      · have hds : decide ((t.size : Int) < 1 + ((numS key).size : Int)) = false := by simp; omega
        by_cases hq : ((t.extract 0 (1 + (numS key).size)).toList == (⟨#[83]⟩ ++ numS key).toList) = true
        · have hob : ob = true := by rw [hop, hok, hq]; simp [hs]
          obtain ⟨rfl, rfl⟩ := hval.1 hob
          clear hval hop hok hob
          go_enter Try.func13, Try.ntmps13
          go_wp2_with (first
            | (go_at_call 38; (with_reducible refine (HK.out _).mono ?_); rintro e w1 ⟨rfl, rfl⟩)
            | (go_at_call 37; (with_reducible refine (HNN.out _).mono ?_); rintro e w1 ⟨rfl, hb⟩)
            | (go_at_call 36; (with_reducible refine HT.out.mono ?_); rintro e w1 ⟨rfl, rfl⟩))
          go_ret2
          exact ⟨rfl, HS.out _ hb⟩
        · have hq' : ((t.extract 0 (1 + (numS key).size)).toList == (⟨#[83]⟩ ++ numS key).toList) = false := by simpa using hq
          have hob : ob = false := by rw [hop, hok, hq']; simp
          obtain ⟨rfl, rfl⟩ := hval.2 hob
          clear hval hop hok hob hq
          go_enter Try.func13, Try.ntmps13
          go_wp2_with (first
            | (go_at_call 38; (with_reducible refine (HK.out _).mono ?_); rintro e w1 ⟨rfl, rfl⟩)
            | (go_at_call 37; (with_reducible refine (HNN.out _).mono ?_); rintro e w1 ⟨rfl, hb⟩)
            | (go_at_call 36; (with_reducible refine HT.out.mono ?_); rintro e w1 ⟨rfl, rfl⟩))
          go_ret2
          exact ⟨rfl, HS.out _ hb⟩
      · have hds : decide ((t.size : Int) < 1 + ((numS key).size : Int)) = true := by simp; omega
        have hob : ob = false := by rw [hop]; simp [hs]
        obtain ⟨rfl, rfl⟩ := hval.2 hob
        clear hval hop hok hob
        go_enter Try.func13, Try.ntmps13
        go_wp2_with (first
          | (go_at_call 38; (with_reducible refine (HK.out _).mono ?_); rintro e w1 ⟨rfl, rfl⟩)
          | (go_at_call 37; (with_reducible refine (HNN.out _).mono ?_); rintro e w1 ⟨rfl, hb⟩)
          | (go_at_call 36; (with_reducible refine HT.out.mono ?_); rintro e w1 ⟨rfl, rfl⟩))
        go_ret2
        exact ⟨rfl, HS.out _ hb⟩
    · have hok' : okNum key = false := by simpa using hok
      rw [hok'] at hk
      have HK := Lib.hid hk
      have hob : ob = false := by rw [hop, hok']; rfl
      obtain ⟨rfl, rfl⟩ := hval.2 hob
      clear hval hop hok hok' hob hk
      go_enter Try.func13, Try.ntmps13
      go_wp2_with (first
        | (go_at_call 38; (with_reducible refine (HK.out _).mono ?_); rintro e w1 ⟨rfl, rfl⟩)
        | (go_at_call 37; (with_reducible refine (HNN.out _).mono ?_); rintro e w1 ⟨rfl, hb⟩)
        | (go_at_call 36; (with_reducible refine HT.out.mono ?_); rintro e w1 ⟨rfl, rfl⟩))
      go_ret2
      exact ⟨rfl, HS.out _ hb⟩
  · have he' : (te == 0) = false := by simpa using he
    have he2 : (te != 0) = true := by simpa using he
    have hob : ob = false := by rw [hop]; simp [he]
    obtain ⟨rfl, rfl⟩ := hval.2 hob
    have HK := Lib.hid hk
    clear hval hop hob hk he
    go_enter Try.func13, Try.ntmps13
    go_wp2_with (first
      | (go_at_call 38; (with_reducible refine (HK.out _).mono ?_); rintro e w1 ⟨rfl, rfl⟩)
      | (go_at_call 37; (with_reducible refine (HNN.out _).mono ?_); rintro e w1 ⟨rfl, hb⟩)
      | (go_at_call 36; (with_reducible refine HT.out.mono ?_); rintro e w1 ⟨rfl, rfl⟩))
    go_ret2
    exact ⟨rfl, HS.out _ hb⟩
end Go.Proofs.Ythbpnffiibjgjaa
