
/- What the reference's Atom, Hash, Mac, Seal, IsHash, IsMac and Open answer. No condition but that the book is one. -/
import Derived.Test.YtcfibjfhmfdmkaaSArg
import Derived.Test.YtcfibjfhmfdmkaaRnums
import Derived.Test.YtcfibjfhmfdmkaaCplain
namespace Go.Proofs.Ytcfibjfhmfdmkaa
open Go Go.RowKit Go.Maps

theorem rmade (p : Nat) (most : Int) (ts : List ByteArray) (t : ByteArray) (w : World) (F : List Nat) (h : refA p most ts w F) (ht : t.size ≤ maxLen) :
    Calls Try.prog 29 #[.pointer (some ⟨p, 0, none⟩), .string t] w fun e w' => e = .returned (.tuple #[.int .i64 (ckX most ts true t), .int .i64 (ckE most ts true t)]) ∧ Becomes F (refA p most (nmT most ts t)) w w' := by
  have hn := rname p most ts t w F h ht
  by_cases he : nmE most ts t = 0
  · obtain ⟨k1, k2⟩ := ckX_ok (most := most) (ts := ts) he
    rw [k1, k2]
    rw [he] at hn
    generalize nmX most ts t = x at *
    generalize nmT most ts t = ts' at *
    have HN := Lib.hid hn
    clear hn he k1 k2 h
    go_enter Try.func29, Try.ntmps29
    go_wp2_with (go_at_call 16; (with_reducible refine HN.out.mono ?_); rintro e w1 ⟨rfl, hbec⟩)
    go_ret2
    exact ⟨rfl, hbec⟩
  · obtain ⟨k1, k2⟩ := ckX_bad (most := most) (ts := ts) (ok := true) (t := t) (.inr he)
    rw [k1, k2]
    rw [nmE_X he] at hn
    have he' : (nmE most ts t == 0) = false := by simpa using he
    generalize nmE most ts t = ee at *
    generalize nmT most ts t = ts' at *
    have HN := Lib.hid hn
    clear hn k1 k2 h
    go_enter Try.func29, Try.ntmps29
    go_wp2_with (go_at_call 16; (with_reducible refine HN.out.mono ?_); rintro e w1 ⟨rfl, hbec⟩)
    go_ret2
    exact ⟨rfl, hbec⟩

theorem refA_becomes_pre {F : List Nat} {A : Ass} {w w1 w' : World} (hb : Below w.heap.size w w1) (h : Becomes F A w1 w') : Becomes F A w w' := by
  obtain ⟨F', g1, g2, g3⟩ := h
  exact ⟨F', g1, (Tn.ofBelow hb F).trans g2 (fun x hx => .inl hx), fun k hk => (g3 k hk).imp id (fun e => Nat.le_trans hb.size e)⟩

theorem rnums1 (k : Int) (w : World) (h0 : -9223372036854775808 ≤ k) (h1 : k ≤ 9223372036854775807) (t : Nat) :
    Calls Try.prog 21 #[.slice (some ⟨w.heap.size, 0, none⟩) 1 1] (w.alloc (.cells #[.int .i64 k] t)) fun e w' => e = .returned (.string (numS k)) ∧ Below w.heap.size w w' := by
  have hb0 : Below w.heap.size w (w.alloc (.cells #[.int .i64 k] t)) := (Below.refl _ _).alloc (Nat.le_refl _) _
  have e0 : ∀ j, j < 1 → j = 0 := fun j hj => by omega
  have := rnums [k] w.heap.size 1 (w.alloc (.cells #[.int .i64 k] t)) rfl (by omega) (fun j hj => by rw [e0 j hj]; simp) (fun j hj => by rw [e0 j hj]; exact ⟨h0, h1⟩) (by simp)
  rw [show numsB [k] = numS k from ba_nil _] at this
  exact this.mono fun e w' ⟨a, b⟩ => ⟨a, hb0.trans (b.mono hb0.size)⟩

theorem dratom (p : Nat) (most : Int) (ts : List ByteArray) (s : ByteArray) (hs : s.size ≤ 9223372036854770000) : Does Try.prog (refA p most ts) 20 #[.pointer (some ⟨p, 0, none⟩), .string s] (.returned (.tuple #[.int .i64 (ckX most ts (okK none) (tmK cA none s)), .int .i64 (ckE most ts (okK none) (tmK cA none s))])) (refA p most (ckT most ts (okK none) (tmK cA none s))) := by
  intro w F h
  have hsz : (tmK cA none s).size ≤ maxLen := by rw [tmK_size]; have : (hdK cA none).size = 1 := rfl; unfold maxLen; omega
  have hn := rmade p most ts (tmK cA none s) w F h hsz
  rw [show okK none = true from rfl, show ckT most ts true (tmK cA none s) = nmT most ts (tmK cA none s) from rfl]
  generalize ckX most ts true (tmK cA none s) = x at *
  generalize ckE most ts true (tmK cA none s) = y at *
  generalize nmT most ts (tmK cA none s) = ts' at *
  rw [show tmK cA none s = ⟨#[65]⟩ ++ s from rfl] at hn
  have HN := Lib.hid hn
  clear hn h hsz
  go_enter Try.func20, Try.ntmps20
  go_wp2_with (go_at_call 29; (with_reducible refine HN.out.mono ?_); rintro e w1 ⟨rfl, hbec⟩)
  go_ret2
  exact ⟨rfl, hbec⟩

end Go.Proofs.Ytcfibjfhmfdmkaa
