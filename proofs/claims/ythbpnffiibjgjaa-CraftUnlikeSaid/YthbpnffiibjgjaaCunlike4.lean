/- The walk of CraftUnlike: of unlike makers, keys and texts the names are unlike. No condition. -/
import Derived.Test.YthbpnffiibjgjaaCunlike3
namespace Go.Proofs.Ythbpnffiibjgjaa
open Go Go.RowKit Go.Maps

set_option maxRecDepth 100000 in
set_option maxHeartbeats 8000000 in
theorem unlike_yt (a b x y : Int) (s t : ByteArray) (w : World) (hs : s.size ≤ 100) (ht : t.size ≤ 100) (x0 : 0 ≤ x) (x1 : x ≤ 1073741823) (y0 : 0 ≤ y) (y1 : y ≤ 1073741823) (ha : bits .and .i64 a 1073741823 = x) (hb : bits .and .i64 b 1073741823 = y) (hxy : x ≠ y) (hst : s ≠ t) :
    Calls Try.prog 4 #[.int .i64 a, .int .i64 b, .string s, .string t] w fun e w' => e = .returned (.bool true) ∧ Below w.heap.size w w' := by
  have hs' : s.size ≤ 9223372036854770000 := by omega
  have k0 : -9223372036854775808 ≤ x := by omega
  have k1 : x ≤ 9223372036854775807 := by omega
  have hok : okK (some x) = true := (okNum_iff x).2 ⟨x0, x1⟩
  have ht' : t.size ≤ 9223372036854770000 := by omega
  have l0 : -9223372036854775808 ≤ y := by omega
  have l1 : y ≤ 9223372036854775807 := by omega
  have hok2 : okK (some y) = true := (okNum_iff y).2 ⟨y0, y1⟩
  have dm1 := fun p => dmac p 100 [] x s hs' k0 k1
  have dm2 := fun p => dmac p 100 [tmK cM (some x) s] y t ht' l0 l1
  have ds1 := fun p => dseal p 100 [tmK cM (some x) s, tmK cM (some y) t] x s hs' k0 k1
  have ds2 := fun p => dseal p 100 [tmK cM (some x) s, tmK cM (some y) t, tmK cS (some x) s] y t ht' l0 l1
  have dh := fun p => dhash p 100 [tmK cM (some x) s, tmK cM (some y) t, tmK cS (some x) s, tmK cS (some y) t] s hs'
  have da := fun p => datom p 100 [tmK cM (some x) s, tmK cM (some y) t, tmK cS (some x) s, tmK cS (some y) t, tmK cH none s] s hs'
  have do1 := fun p => dopen p 100 [tmK cM (some x) s, tmK cM (some y) t, tmK cS (some x) s, tmK cS (some y) t, tmK cH none s, tmK cA none s] x 2 k0 k1
  have di1 := fun p => dismac p 100 [tmK cM (some x) s, tmK cM (some y) t, tmK cS (some x) s, tmK cS (some y) t, tmK cH none s, tmK cA none s] x s 0 hs' k0 k1
  have di2 := fun p => dismac p 100 [tmK cM (some x) s, tmK cM (some y) t, tmK cS (some x) s, tmK cS (some y) t, tmK cH none s, tmK cA none s] y t 0 ht' l0 l1
  have di3 := fun p => dismac p 100 [tmK cM (some x) s, tmK cM (some y) t, tmK cS (some x) s, tmK cS (some y) t, tmK cH none s, tmK cA none s] x s 2 hs' k0 k1
  have dj1 := fun p => dishash p 100 [tmK cM (some x) s, tmK cM (some y) t, tmK cS (some x) s, tmK cS (some y) t, tmK cH none s, tmK cA none s] s 4 hs'
  obtain ⟨_, g2, g3⟩ := op_seal (ts := [tmK cM (some x) s, tmK cM (some y) t, tmK cS (some x) s, tmK cS (some y) t, tmK cH none s, tmK cA none s]) (tag := 2) (s := s) x0 x1 x0 x1 rfl rfl
  rw [if_pos rfl] at g2 g3
  rw [g2, g3] at do1
  have do2 := fun p => dopen p 100 [tmK cM (some x) s, tmK cM (some y) t, tmK cS (some x) s, tmK cS (some y) t, tmK cH none s, tmK cA none s] y 2 l0 l1
  obtain ⟨_, g4, g5⟩ := op_seal (ts := [tmK cM (some x) s, tmK cM (some y) t, tmK cS (some x) s, tmK cS (some y) t, tmK cH none s, tmK cA none s]) (tag := 2) (s := s) x0 x1 y0 y1 rfl rfl
  rw [if_neg hxy] at g4 g5
  rw [g4, g5] at do2
  have dj2 := fun p => dishash p 100 [tmK cM (some x) s, tmK cM (some y) t, tmK cS (some x) s, tmK cS (some y) t, tmK cH none s, tmK cA none s] t 4 ht'
  have hin : tmK cH none t ∉ [tmK cM (some x) s, tmK cM (some y) t, tmK cS (some x) s, tmK cS (some y) t, tmK cH none s, tmK cA none s] := by
    intro c
    simp only [List.mem_cons, List.not_mem_nil, or_false] at c
    rcases c with c | c | c | c | c | c
    · exact tm_kind (by decide) _ _ _ _ c
    · exact tm_kind (by decide) _ _ _ _ c
    · exact tm_kind (by decide) _ _ _ _ c
    · exact tm_kind (by decide) _ _ _ _ c
    · exact hst (tm_inj0 c).symm
    · exact tm_kind (by decide) _ _ _ _ c
  rw [ckI_no hin] at dj2
  have oM := tm_ok (c := cM) rfl (some x) (s := s) (by omega)
  have oM2 := tm_ok (c := cM) rfl (some y) (s := t) (by omega)
  have oS := tm_ok (c := cS) rfl (some x) (s := s) (by omega)
  have oS2 := tm_ok (c := cS) rfl (some y) (s := t) (by omega)
  have oH := tm_ok (c := cH) rfl none (s := s) (by omega)
  have oA := tm_ok (c := cA) rfl none (s := s) (by omega)
  have n1 : tmK cM (some x) s ≠ tmK cM (some y) t := fun c => hxy (tm_inj1 x0 x1 y0 y1 c).1
  have n2 : tmK cM (some x) s ≠ tmK cS (some x) s := tm_kind (by decide) _ _ _ _
  have n3 : tmK cM (some x) s ≠ tmK cS (some y) t := tm_kind (by decide) _ _ _ _
  have n4 : tmK cM (some x) s ≠ tmK cH none s := tm_kind (by decide) _ _ _ _
  have n5 : tmK cM (some x) s ≠ tmK cA none s := tm_kind (by decide) _ _ _ _
  have n6 : tmK cM (some y) t ≠ tmK cS (some x) s := tm_kind (by decide) _ _ _ _
  have n7 : tmK cM (some y) t ≠ tmK cS (some y) t := tm_kind (by decide) _ _ _ _
  have n8 : tmK cM (some y) t ≠ tmK cH none s := tm_kind (by decide) _ _ _ _
  have n9 : tmK cM (some y) t ≠ tmK cA none s := tm_kind (by decide) _ _ _ _
  have n10 : tmK cS (some x) s ≠ tmK cS (some y) t := fun c => hxy (tm_inj1 x0 x1 y0 y1 c).1
  have n11 : tmK cS (some x) s ≠ tmK cH none s := tm_kind (by decide) _ _ _ _
  have n12 : tmK cS (some x) s ≠ tmK cA none s := tm_kind (by decide) _ _ _ _
  have n13 : tmK cS (some y) t ≠ tmK cH none s := tm_kind (by decide) _ _ _ _
  have n14 : tmK cS (some y) t ≠ tmK cA none s := tm_kind (by decide) _ _ _ _
  have n15 : tmK cH none s ≠ tmK cA none s := tm_kind (by decide) _ _ _ _
  rw [hok] at dm1 ds1 di1 di3
  rw [hok2] at dm2 ds2 di2
  rw [show okK none = true from rfl] at dh da dj1
  generalize tmK cM (some x) s = M at *
  generalize tmK cM (some y) t = M2 at *
  generalize tmK cS (some x) s = S at *
  generalize tmK cS (some y) t = S2 at *
  generalize tmK cH none s = H at *
  generalize tmK cA none s = A at *
  have nd := ne6 n1 n2 n3 n4 n5 n6 n7 n8 n9 n10 n11 n12 n13 n14 n15
  obtain ⟨e1, e2, e3⟩ := ck_new (most := 100) (ts := []) oM (by simp) (by simp)
  rw [e1, e2, e3] at dm1
  obtain ⟨e1, e2, e3⟩ := ck_new (most := 100) (ts := [M]) oM2 (by simp [n1.symm]) (by simp)
  rw [e1, e2, e3] at dm2
  obtain ⟨e1, e2, e3⟩ := ck_new (most := 100) (ts := [M, M2]) oS (by simp [n2.symm, n6.symm]) (by simp)
  rw [e1, e2, e3] at ds1
  obtain ⟨e1, e2, e3⟩ := ck_new (most := 100) (ts := [M, M2, S]) oS2 (by simp [n3.symm, n7.symm, n10.symm]) (by simp)
  rw [e1, e2, e3] at ds2
  obtain ⟨e1, e2, e3⟩ := ck_new (most := 100) (ts := [M, M2, S, S2]) oH (by simp [n4.symm, n8.symm, n11.symm, n13.symm]) (by simp)
  rw [e1, e2, e3] at dh
  obtain ⟨e1, e2, e3⟩ := ck_new (most := 100) (ts := [M, M2, S, S2, H]) oA (by simp [n5.symm, n9.symm, n12.symm, n14.symm, n15.symm]) (by simp)
  rw [e1, e2, e3] at da
  rw [ckI_at nd (i := 0) rfl] at di1 di3
  rw [ckI_at nd (i := 1) rfl] at di2
  rw [ckI_at nd (i := 4) rfl] at dj1
  have hxy1 : (x == y) = false := by simpa using hxy
  have hst1 : (s.toList == t.toList) = false := by
    cases c : (s.toList == t.toList)
    · rfl
    · exact absurd (str_eq c) hst
  have hst2 : (t.toList == s.toList) = false := by
    cases c : (t.toList == s.toList)
    · rfl
    · exact absurd (str_eq c).symm hst
  have D1 := Lib.hid dm1
  have D2 := Lib.hid dm2
  have D3 := Lib.hid ds1
  have D4 := Lib.hid ds2
  have D5 := Lib.hid dh
  have D6 := Lib.hid da
  have D7 := Lib.hid do1
  have D8 := Lib.hid di1
  have D9 := Lib.hid di2
  have D10 := Lib.hid di3
  have D11 := Lib.hid dj1
  have D12 := Lib.hid do2
  have D13 := Lib.hid dj2
  clear dm1 dm2 ds1 ds2 dh da do1 di1 di2 di3 dj1 do2 dj2 g2 g3 e1 e2 e3 nd oM oM2 oS oS2 oH oA hok n1 n2 n3 n4 n5 n6 n7 n8 n9 n10 n11 n12 n13 n14 n15 g4 g5 hok2 hxy hin hst
  go_enter Try.func4, Try.ntmps4
  go_wp2_with (first
    | (go_at_call 9; (with_reducible refine (awake3 _).mono ?_); rintro e w1 ⟨rfl, hb1⟩; have hS0 := At.none hb1; clear hb1)
    | (go_at_call 8; (with_reducible refine (twin_none 100 _ (by omega) (by omega)).mono ?_); rintro e w1 ⟨p, q, rfl, hb⟩; have hS := At.under hS0.bel (At.start hb); clear hb)
    | (go_at_call 16; refine (lnum _ _).mono ?_; rintro e w1 ⟨rfl, rfl⟩)
    | (go_at_call 22; first | ((with_reducible refine (At.op1 (D1.out _) (refA_good _ _ _) emp_good hS).mono ?_); rintro e w1 ⟨rfl, hS1⟩; replace hS := hS1; clear hS1) | ((with_reducible refine (At.op1 (D2.out _) (refA_good _ _ _) emp_good hS).mono ?_); rintro e w1 ⟨rfl, hS1⟩; replace hS := hS1; clear hS1))
    | (go_at_call 24; first | ((with_reducible refine (At.op1 (D3.out _) (refA_good _ _ _) emp_good hS).mono ?_); rintro e w1 ⟨rfl, hS1⟩; replace hS := hS1; clear hS1) | ((with_reducible refine (At.op1 (D4.out _) (refA_good _ _ _) emp_good hS).mono ?_); rintro e w1 ⟨rfl, hS1⟩; replace hS := hS1; clear hS1))
    | (go_at_call 20; ((with_reducible refine (At.op1 (D5.out _) (refA_good _ _ _) emp_good hS).mono ?_); rintro e w1 ⟨rfl, hS1⟩; replace hS := hS1; clear hS1))
    | (go_at_call 18; ((with_reducible refine (At.op1 (D6.out _) (refA_good _ _ _) emp_good hS).mono ?_); rintro e w1 ⟨rfl, hS1⟩; replace hS := hS1; clear hS1))
    | (go_at_call 12; first | ((with_reducible refine (At.op1 (D7.out _) (refA_good _ _ _) emp_good hS).mono ?_); rintro e w1 ⟨rfl, hS1⟩; replace hS := hS1; clear hS1) | ((with_reducible refine (At.op1 (D12.out _) (refA_good _ _ _) emp_good hS).mono ?_); rintro e w1 ⟨rfl, hS1⟩; replace hS := hS1; clear hS1))
    | (go_at_call 11; first | ((with_reducible refine (At.op1 (D8.out _) (refA_good _ _ _) emp_good hS).mono ?_); rintro e w1 ⟨rfl, hS1⟩; replace hS := hS1; clear hS1) | ((with_reducible refine (At.op1 (D9.out _) (refA_good _ _ _) emp_good hS).mono ?_); rintro e w1 ⟨rfl, hS1⟩; replace hS := hS1; clear hS1) | ((with_reducible refine (At.op1 (D10.out _) (refA_good _ _ _) emp_good hS).mono ?_); rintro e w1 ⟨rfl, hS1⟩; replace hS := hS1; clear hS1))
    | (go_at_call 10; first | ((with_reducible refine (At.op1 (D11.out _) (refA_good _ _ _) emp_good hS).mono ?_); rintro e w1 ⟨rfl, hS1⟩; replace hS := hS1; clear hS1) | ((with_reducible refine (At.op1 (D13.out _) (refA_good _ _ _) emp_good hS).mono ?_); rintro e w1 ⟨rfl, hS1⟩; replace hS := hS1; clear hS1)))
  go_ret
  exact ⟨rfl, hS.bel⟩

theorem unlike_walk (a b : Int) (s t : ByteArray) (w : World) (hs : s.size ≤ 140737488351232) (ht : t.size ≤ 140737488351232) :
    Calls Try.prog 4 #[.int .i64 a, .int .i64 b, .string s, .string t] w fun e w' => e = .returned (.bool true) ∧ Below w.heap.size w w' := by
  by_cases hl : 100 < s.size ∨ 100 < t.size
  · exact unlike_long a b s t w hl hs ht
  have hl1 : s.size ≤ 100 := by omega
  have hl2 : t.size ≤ 100 := by omega
  have ha := i64_mask a 30 (by omega)
  have hb := i64_mask b 30 (by omega)
  rw [show ((2 ^ 30 - 1 : Nat) : Int) = 1073741823 from by decide, show ((2 ^ 30 : Nat) : Int) = 1073741824 from by decide] at ha hb
  obtain ⟨x, hx⟩ : ∃ x, a % 1073741824 = x := ⟨_, rfl⟩
  obtain ⟨y, hy⟩ : ∃ y, b % 1073741824 = y := ⟨_, rfl⟩
  have x0 : 0 ≤ x := by omega
  have x1 : x ≤ 1073741823 := by omega
  have y0 : 0 ≤ y := by omega
  have y1 : y ≤ 1073741823 := by omega
  rw [hx] at ha
  rw [hy] at hb
  by_cases e : x = y
  · subst e
    by_cases f : s = t
    · subst f; exact unlike_same a b x s w hl1 x0 x1 ha hb
    · exact unlike_t a b x s t w hl1 hl2 x0 x1 ha hb f
  · by_cases f : s = t
    · subst f; exact unlike_y a b x y s w hl1 x0 x1 y0 y1 ha hb e
    · exact unlike_yt a b x y s t w hl1 hl2 x0 x1 y0 y1 ha hb e f
end Go.Proofs.Ythbpnffiibjgjaa
