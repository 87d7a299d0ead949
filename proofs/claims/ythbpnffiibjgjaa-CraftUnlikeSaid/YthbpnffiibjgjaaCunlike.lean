/- The walk of CraftUnlike: of unlike makers, keys and texts the names are unlike, and each is right for its own parts alone. No condition. -/
import Derived.Test.YthbpnffiibjgjaaClaw
import Derived.Test.YthbpnffiibjgjaaCplain2
import Derived.Test.YthbpnffiibjgjaaFplain3
namespace Go.Proofs.Ythbpnffiibjgjaa
open Go Go.RowKit Go.Maps

theorem ne6 {a b c d e f : ByteArray} (h1 : a ≠ b) (h2 : a ≠ c) (h3 : a ≠ d) (h4 : a ≠ e) (h5 : a ≠ f) (h6 : b ≠ c) (h7 : b ≠ d) (h8 : b ≠ e) (h9 : b ≠ f) (h10 : c ≠ d) (h11 : c ≠ e) (h12 : c ≠ f) (h13 : d ≠ e) (h14 : d ≠ f) (h15 : e ≠ f) : [a, b, c, d, e, f].Nodup := by
  simp [h1, h2, h3, h4, h5, h6, h7, h8, h9, h10, h11, h12, h13, h14, h15]
theorem ne4 {a b c d : ByteArray} (h1 : a ≠ b) (h2 : a ≠ c) (h3 : a ≠ d) (h4 : b ≠ c) (h5 : b ≠ d) (h6 : c ≠ d) : [a, b, c, d].Nodup := by
  simp [h1, h2, h3, h4, h5, h6]

set_option maxRecDepth 100000 in
set_option maxHeartbeats 4000000 in
theorem unlike_long (a b : Int) (s t : ByteArray) (w : World) (h : 100 < s.size ∨ 100 < t.size) (hs : s.size ≤ 140737488351232) (ht : t.size ≤ 140737488351232) :
    Calls Try.prog 4 #[.int .i64 a, .int .i64 b, .string s, .string t] w fun e w' => e = .returned (.bool true) ∧ Below w.heap.size w w' := by
  by_cases h1 : 100 < s.size
  · go_enter Try.func4, Try.ntmps4
    go_wp2_with (go_at_call 9; (with_reducible refine (awake3 _).mono ?_); rintro e w1 ⟨rfl, hb1⟩)
    go_ret
    exact ⟨rfl, hb1⟩
  · have h2 : 100 < t.size := by omega
    have h3 : s.size ≤ 100 := by omega
    clear h h1
    go_enter Try.func4, Try.ntmps4
    go_wp2_with (go_at_call 9; (with_reducible refine (awake3 _).mono ?_); rintro e w1 ⟨rfl, hb1⟩)
    go_ret
    exact ⟨rfl, hb1⟩


set_option maxRecDepth 100000 in
set_option maxHeartbeats 8000000 in
theorem unlike_same (a b x : Int) (s : ByteArray) (w : World) (hs : s.size ≤ 100) (x0 : 0 ≤ x) (x1 : x ≤ 1073741823) (ha : bits .and .i64 a 1073741823 = x) (hb : bits .and .i64 b 1073741823 = x) :
    Calls Try.prog 4 #[.int .i64 a, .int .i64 b, .string s, .string s] w fun e w' => e = .returned (.bool true) ∧ Below w.heap.size w w' := by
  have hs' : s.size ≤ 9223372036854770000 := by omega
  have k0 : -9223372036854775808 ≤ x := by omega
  have k1 : x ≤ 9223372036854775807 := by omega
  have hok : okK (some x) = true := (okNum_iff x).2 ⟨x0, x1⟩
  have dm1 := fun p => dmac p 100 [] x s hs' k0 k1
  have dm2 := fun p => dmac p 100 [tmK cM (some x) s] x s hs' k0 k1
  have ds1 := fun p => dseal p 100 [tmK cM (some x) s] x s hs' k0 k1
  have ds2 := fun p => dseal p 100 [tmK cM (some x) s, tmK cS (some x) s] x s hs' k0 k1
  have dh := fun p => dhash p 100 [tmK cM (some x) s, tmK cS (some x) s] s hs'
  have da := fun p => datom p 100 [tmK cM (some x) s, tmK cS (some x) s, tmK cH none s] s hs'
  have dop := fun p => dopen p 100 [tmK cM (some x) s, tmK cS (some x) s, tmK cH none s, tmK cA none s] x 1 k0 k1
  have di0 := fun p => dismac p 100 [tmK cM (some x) s, tmK cS (some x) s, tmK cH none s, tmK cA none s] x s 0 hs' k0 k1
  have di1 := fun p => dismac p 100 [tmK cM (some x) s, tmK cS (some x) s, tmK cH none s, tmK cA none s] x s 1 hs' k0 k1
  have dih := fun p => dishash p 100 [tmK cM (some x) s, tmK cS (some x) s, tmK cH none s, tmK cA none s] s 2 hs'
  obtain ⟨g1, g2, g3⟩ := op_seal (ts := [tmK cM (some x) s, tmK cS (some x) s, tmK cH none s, tmK cA none s]) (tag := 1) (s := s) x0 x1 x0 x1 rfl rfl
  rw [if_pos rfl] at g2 g3
  have oM := tm_ok (c := cM) rfl (some x) (s := s) (by omega)
  have oS := tm_ok (c := cS) rfl (some x) (s := s) (by omega)
  have oH := tm_ok (c := cH) rfl none (s := s) (by omega)
  have oA := tm_ok (c := cA) rfl none (s := s) (by omega)
  have n1 : tmK cM (some x) s ≠ tmK cS (some x) s := tm_kind (by decide) _ _ _ _
  have n2 : tmK cM (some x) s ≠ tmK cH none s := tm_kind (by decide) _ _ _ _
  have n3 : tmK cM (some x) s ≠ tmK cA none s := tm_kind (by decide) _ _ _ _
  have n4 : tmK cS (some x) s ≠ tmK cH none s := tm_kind (by decide) _ _ _ _
  have n5 : tmK cS (some x) s ≠ tmK cA none s := tm_kind (by decide) _ _ _ _
  have n6 : tmK cH none s ≠ tmK cA none s := tm_kind (by decide) _ _ _ _
  rw [hok] at dm1 dm2 ds1 ds2 di0 di1
  rw [show okK none = true from rfl] at dh da dih
  rw [g2, g3] at dop
  generalize tmK cM (some x) s = M at *
  generalize tmK cS (some x) s = S at *
  generalize tmK cH none s = H at *
  generalize tmK cA none s = A at *
  have nd := ne4 n1 n2 n3 n4 n5 n6
  obtain ⟨e1, e2, e3⟩ := ck_new (most := 100) (ts := []) oM (by simp) (by simp)
  rw [e1, e2, e3] at dm1
  obtain ⟨e1, e2, e3⟩ := ck_old (most := 100) (ts := [M]) oM (by simp)
  rw [e1, e2, e3] at dm2
  obtain ⟨e1, e2, e3⟩ := ck_new (most := 100) (ts := [M]) oS (by simpa using n1.symm) (by simp)
  rw [e1, e2, e3] at ds1
  obtain ⟨e1, e2, e3⟩ := ck_old (most := 100) (ts := [M, S]) oS (by simp)
  rw [e1, e2, e3] at ds2
  obtain ⟨e1, e2, e3⟩ := ck_new (most := 100) (ts := [M, S]) oH (by simp [n2.symm, n4.symm]) (by simp)
  rw [e1, e2, e3] at dh
  obtain ⟨e1, e2, e3⟩ := ck_new (most := 100) (ts := [M, S, H]) oA (by simp [n3.symm, n5.symm, n6.symm]) (by simp)
  rw [e1, e2, e3] at da
  rw [ckI_at nd (i := 0) rfl] at di0 di1
  rw [ckI_at nd (i := 2) rfl] at dih
  have i1 : idx [M] M = 0 := by simp [idx]
  have i2 : idx [M, S] S = 1 := by simp [idx, n1]
  rw [i1] at dm2
  rw [i2] at ds2
  have D1 := Lib.hid dm1
  have D2 := Lib.hid dm2
  have D3 := Lib.hid ds1
  have D4 := Lib.hid ds2
  have D5 := Lib.hid dh
  have D6 := Lib.hid da
  have D7 := Lib.hid dop
  have D8 := Lib.hid di0
  have D9 := Lib.hid di1
  have D10 := Lib.hid dih
  clear dm1 dm2 ds1 ds2 dh da dop di0 di1 dih g1 g2 g3 n1 n2 n3 n4 n5 n6 nd e1 e2 e3 i1 i2 oM oS oH oA hok
  go_enter Try.func4, Try.ntmps4
  go_wp2_with (first
    | (go_at_call 9; (with_reducible refine (awake3 _).mono ?_); rintro e w1 ⟨rfl, hb1⟩; have hS0 := At.none hb1; clear hb1)
    | (go_at_call 8; (with_reducible refine (twin_none 100 _ (by omega) (by omega)).mono ?_); rintro e w1 ⟨p, q, rfl, hb⟩; have hS := At.under hS0.bel (At.start hb); clear hb)
    | (go_at_call 16; refine (lnum _ _).mono ?_; rintro e w1 ⟨rfl, rfl⟩)
    | (go_at_call 22; first | ((with_reducible refine (At.op1 (D1.out _) (refA_good _ _ _) emp_good hS).mono ?_); rintro e w1 ⟨rfl, hS1⟩; replace hS := hS1; clear hS1) | ((with_reducible refine (At.op1 (D2.out _) (refA_good _ _ _) emp_good hS).mono ?_); rintro e w1 ⟨rfl, hS1⟩; replace hS := hS1; clear hS1))
    | (go_at_call 24; first | ((with_reducible refine (At.op1 (D3.out _) (refA_good _ _ _) emp_good hS).mono ?_); rintro e w1 ⟨rfl, hS1⟩; replace hS := hS1; clear hS1) | ((with_reducible refine (At.op1 (D4.out _) (refA_good _ _ _) emp_good hS).mono ?_); rintro e w1 ⟨rfl, hS1⟩; replace hS := hS1; clear hS1))
    | (go_at_call 20; ((with_reducible refine (At.op1 (D5.out _) (refA_good _ _ _) emp_good hS).mono ?_); rintro e w1 ⟨rfl, hS1⟩; replace hS := hS1; clear hS1))
    | (go_at_call 18; ((with_reducible refine (At.op1 (D6.out _) (refA_good _ _ _) emp_good hS).mono ?_); rintro e w1 ⟨rfl, hS1⟩; replace hS := hS1; clear hS1))
    | (go_at_call 12; ((with_reducible refine (At.op1 (D7.out _) (refA_good _ _ _) emp_good hS).mono ?_); rintro e w1 ⟨rfl, hS1⟩; replace hS := hS1; clear hS1))
    | (go_at_call 11; first | ((with_reducible refine (At.op1 (D8.out _) (refA_good _ _ _) emp_good hS).mono ?_); rintro e w1 ⟨rfl, hS1⟩; replace hS := hS1; clear hS1) | ((with_reducible refine (At.op1 (D9.out _) (refA_good _ _ _) emp_good hS).mono ?_); rintro e w1 ⟨rfl, hS1⟩; replace hS := hS1; clear hS1))
    | (go_at_call 10; ((with_reducible refine (At.op1 (D10.out _) (refA_good _ _ _) emp_good hS).mono ?_); rintro e w1 ⟨rfl, hS1⟩; replace hS := hS1; clear hS1)))
  go_ret
  exact ⟨rfl, hS.bel⟩
end Go.Proofs.Ythbpnffiibjgjaa
