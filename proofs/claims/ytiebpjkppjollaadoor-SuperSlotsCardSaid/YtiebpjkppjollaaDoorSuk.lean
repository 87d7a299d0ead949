/- Package super's Pick: what it answers and leaves. Conditions: the texts' sizes, the handle of the type error. -/
import Derived.Test.YtiebpjkppjollaaDoorSuq
import Derived.LoopN
namespace Go.Proofs.YtiebpjkppjollaaDoor
open Go Go.RowKit

theorem idx2a (s t : ByteArray) (w : World) : (Instr.index 102 (.agg #[.string s, .string t]) (.int .i64 0)).run Tryd.prog w = .ok (.string s) w := by
  show (_ : Result _) = _
  kernel_rfl
theorem idx2b (s t : ByteArray) (w : World) : (Instr.index 102 (.agg #[.string s, .string t]) (.int .i64 1)).run Tryd.prog w = .ok (.string t) w := by
  show (_ : Result _) = _
  kernel_rfl
set_option maxRecDepth 100000 in
set_option maxHeartbeats 4000000 in
theorem spick_none (p : Nat) (most : Int) (ts : List ByteArray) (s t : ByteArray)
    (h1 : ReadsG Tryd.prog (bookA p most ts) 26 #[.pointer (some ⟨p, 0, none⟩), .string s] (.returned (.tuple #[.int .i64 0, .int .i64 1000])))
    (h2 : ReadsG Tryd.prog (bookA p most ts) 26 #[.pointer (some ⟨p, 0, none⟩), .string t] (.returned (.tuple #[.int .i64 0, .int .i64 1000]))) :
    ReadsG Tryd.prog (bookA p most ts) 28 #[.pointer (some ⟨p, 0, none⟩), .string s, .string t] (.returned (.tuple #[.int .i64 0, .int .i64 0, .int .i64 1001])) := by
  intro w F h hg
  have H1 := Lib.hid (fun W hb => h1.at (bookA_good _ _ _) (W := W) h hg hb)
  have H2 := Lib.hid (fun W hb => h2.at (bookA_good _ _ _) (W := W) h hg hb)
  have hb := Below.refl w.heap.size w
  have i0 := fun w => idx2a s t w
  have i1 := fun w => idx2b s t w
  clear h h1 h2 hg
  go_enter Tryd.func28, Tryd.ntmps28
  go_wp2
  refine wp_loop_rounds 3 ?_
  rw [rounds_succ]
  go_wp2_with (go_at_call 26; (with_reducible refine (H1.out _ hb).mono ?_); rintro e w1 ⟨rfl, hb1⟩)
  rw [rounds_succ]
  go_wp2_with (go_at_call 26; (with_reducible refine (H2.out _ hb1).mono ?_); rintro e w2 ⟨rfl, hb2⟩)
  rw [rounds_succ]
  go_wp2
  go_ret3
  exact ⟨rfl, hb2⟩
set_option maxRecDepth 100000 in
set_option maxHeartbeats 4000000 in
theorem spick_one (p : Nat) (most : Int) (ts : List ByteArray) (s t : ByteArray) {x : Int} (hx : 1 ≤ x)
    (h1 : ReadsG Tryd.prog (bookA p most ts) 26 #[.pointer (some ⟨p, 0, none⟩), .string s] (.returned (.tuple #[.int .i64 x, .int .i64 0])))
    (h2 : ReadsG Tryd.prog (bookA p most ts) 26 #[.pointer (some ⟨p, 0, none⟩), .string t] (.returned (.tuple #[.int .i64 0, .int .i64 1000]))) :
    ReadsG Tryd.prog (bookA p most ts) 28 #[.pointer (some ⟨p, 0, none⟩), .string s, .string t] (.returned (.tuple #[.int .i64 x, .int .i64 1, .int .i64 0])) := by
  intro w F h hg
  have H1 := Lib.hid (fun W hb => h1.at (bookA_good _ _ _) (W := W) h hg hb)
  have H2 := Lib.hid (fun W hb => h2.at (bookA_good _ _ _) (W := W) h hg hb)
  have hb := Below.refl w.heap.size w
  have i0 := fun w => idx2a s t w
  have i1 := fun w => idx2b s t w
  have d1 : 0 < x := by omega
  have d2 : ¬ x = 0 := by omega
  have d3 : (x == 0) = false := by simpa using d2
  clear hx
  clear h h1 h2 hg
  go_enter Tryd.func28, Tryd.ntmps28
  go_wp2
  refine wp_loop_rounds 3 ?_
  rw [rounds_succ]
  go_wp2_with (go_at_call 26; (with_reducible refine (H1.out _ hb).mono ?_); rintro e w1 ⟨rfl, hb1⟩)
  rw [rounds_succ]
  go_wp2_with (go_at_call 26; (with_reducible refine (H2.out _ hb1).mono ?_); rintro e w2 ⟨rfl, hb2⟩)
  rw [rounds_succ]
  go_wp2
  go_ret3
  exact ⟨rfl, hb2⟩
set_option maxRecDepth 100000 in
set_option maxHeartbeats 4000000 in
theorem spick_two (p : Nat) (most : Int) (ts : List ByteArray) (s t : ByteArray) {x : Int} (hx : 1 ≤ x)
    (h1 : ReadsG Tryd.prog (bookA p most ts) 26 #[.pointer (some ⟨p, 0, none⟩), .string s] (.returned (.tuple #[.int .i64 0, .int .i64 1000])))
    (h2 : ReadsG Tryd.prog (bookA p most ts) 26 #[.pointer (some ⟨p, 0, none⟩), .string t] (.returned (.tuple #[.int .i64 x, .int .i64 0]))) :
    ReadsG Tryd.prog (bookA p most ts) 28 #[.pointer (some ⟨p, 0, none⟩), .string s, .string t] (.returned (.tuple #[.int .i64 x, .int .i64 0, .int .i64 0])) := by
  intro w F h hg
  have H1 := Lib.hid (fun W hb => h1.at (bookA_good _ _ _) (W := W) h hg hb)
  have H2 := Lib.hid (fun W hb => h2.at (bookA_good _ _ _) (W := W) h hg hb)
  have hb := Below.refl w.heap.size w
  have i0 := fun w => idx2a s t w
  have i1 := fun w => idx2b s t w
  have d1 : 0 < x := by omega
  have d2 : ¬ x = 0 := by omega
  have d3 : (x == 0) = false := by simpa using d2
  clear hx
  clear h h1 h2 hg
  go_enter Tryd.func28, Tryd.ntmps28
  go_wp2
  refine wp_loop_rounds 3 ?_
  rw [rounds_succ]
  go_wp2_with (go_at_call 26; (with_reducible refine (H1.out _ hb).mono ?_); rintro e w1 ⟨rfl, hb1⟩)
  rw [rounds_succ]
  go_wp2_with (go_at_call 26; (with_reducible refine (H2.out _ hb1).mono ?_); rintro e w2 ⟨rfl, hb2⟩)
  rw [rounds_succ]
  go_wp2
  go_ret3
  exact ⟨rfl, hb2⟩
set_option maxRecDepth 100000 in
set_option maxHeartbeats 4000000 in
theorem spick_ge (p : Nat) (most : Int) (ts : List ByteArray) (s t : ByteArray) {x y : Int} (hx : 1 ≤ x) (hxy : y ≤ x)
    (h1 : ReadsG Tryd.prog (bookA p most ts) 26 #[.pointer (some ⟨p, 0, none⟩), .string s] (.returned (.tuple #[.int .i64 x, .int .i64 0])))
    (h2 : ReadsG Tryd.prog (bookA p most ts) 26 #[.pointer (some ⟨p, 0, none⟩), .string t] (.returned (.tuple #[.int .i64 y, .int .i64 0]))) :
    ReadsG Tryd.prog (bookA p most ts) 28 #[.pointer (some ⟨p, 0, none⟩), .string s, .string t] (.returned (.tuple #[.int .i64 x, .int .i64 1, .int .i64 0])) := by
  intro w F h hg
  have H1 := Lib.hid (fun W hb => h1.at (bookA_good _ _ _) (W := W) h hg hb)
  have H2 := Lib.hid (fun W hb => h2.at (bookA_good _ _ _) (W := W) h hg hb)
  have hb := Below.refl w.heap.size w
  have i0 := fun w => idx2a s t w
  have i1 := fun w => idx2b s t w
  have d1 : 0 < x := by omega
  have d2 : ¬ x = 0 := by omega
  have d3 : (x == 0) = false := by simpa using d2
  have d4 : ¬ x < y := by omega
  clear hx hxy
  clear h h1 h2 hg
  go_enter Tryd.func28, Tryd.ntmps28
  go_wp2
  refine wp_loop_rounds 3 ?_
  rw [rounds_succ]
  go_wp2_with (go_at_call 26; (with_reducible refine (H1.out _ hb).mono ?_); rintro e w1 ⟨rfl, hb1⟩)
  rw [rounds_succ]
  go_wp2_with (go_at_call 26; (with_reducible refine (H2.out _ hb1).mono ?_); rintro e w2 ⟨rfl, hb2⟩)
  rw [rounds_succ]
  go_wp2
  go_ret3
  exact ⟨rfl, hb2⟩
set_option maxRecDepth 100000 in
set_option maxHeartbeats 4000000 in
theorem spick_lt (p : Nat) (most : Int) (ts : List ByteArray) (s t : ByteArray) {x y : Int} (hx : 1 ≤ x) (hxy : x < y)
    (h1 : ReadsG Tryd.prog (bookA p most ts) 26 #[.pointer (some ⟨p, 0, none⟩), .string s] (.returned (.tuple #[.int .i64 x, .int .i64 0])))
    (h2 : ReadsG Tryd.prog (bookA p most ts) 26 #[.pointer (some ⟨p, 0, none⟩), .string t] (.returned (.tuple #[.int .i64 y, .int .i64 0]))) :
    ReadsG Tryd.prog (bookA p most ts) 28 #[.pointer (some ⟨p, 0, none⟩), .string s, .string t] (.returned (.tuple #[.int .i64 y, .int .i64 0, .int .i64 0])) := by
  intro w F h hg
  have H1 := Lib.hid (fun W hb => h1.at (bookA_good _ _ _) (W := W) h hg hb)
  have H2 := Lib.hid (fun W hb => h2.at (bookA_good _ _ _) (W := W) h hg hb)
  have hb := Below.refl w.heap.size w
  have i0 := fun w => idx2a s t w
  have i1 := fun w => idx2b s t w
  have d1 : 0 < x := by omega
  have d2 : ¬ y = 0 := by omega
  have d3 : (y == 0) = false := by simpa using d2
  clear hx
  clear h h1 h2 hg
  go_enter Tryd.func28, Tryd.ntmps28
  go_wp2
  refine wp_loop_rounds 3 ?_
  rw [rounds_succ]
  go_wp2_with (go_at_call 26; (with_reducible refine (H1.out _ hb).mono ?_); rintro e w1 ⟨rfl, hb1⟩)
  rw [rounds_succ]
  go_wp2_with (go_at_call 26; (with_reducible refine (H2.out _ hb1).mono ?_); rintro e w2 ⟨rfl, hb2⟩)
  rw [rounds_succ]
  go_wp2
  go_ret3
  exact ⟨rfl, hb2⟩
/-- Pick. -/
theorem dspickR (p : Nat) (most : Int) (ts : List ByteArray) (s t : ByteArray) (hs : s.size ≤ 9223372036854770000) (ht : t.size ≤ 9223372036854770000) : ReadsG Tryd.prog (bookA p most ts) 28 #[.pointer (some ⟨p, 0, none⟩), .string s, .string t] (.returned (.tuple #[.int .i64 (pkX ts s t), .int .i64 (pkP ts s t), .int .i64 (pkE ts s t)])) := by
  have h1 := dsgetR p most ts s hs
  have h2 := dsgetR p most ts t ht
  rcases sg_cases ts s with ⟨a, a1, _⟩ | ⟨a, a1⟩ <;> rcases sg_cases ts t with ⟨b, b1, _⟩ | ⟨b, b1⟩
  · by_cases hc : sgX ts t ≤ sgX ts s
    · obtain ⟨q1, q2, q3⟩ := pk_ge a b hc
      rw [q1, q2, q3]
      rw [a] at h1; rw [b] at h2
      exact spick_ge p most ts s t a1 hc h1 h2
    · obtain ⟨q1, q2, q3⟩ := pk_lt a b (by omega)
      rw [q1, q2, q3]
      rw [a] at h1; rw [b] at h2
      exact spick_lt p most ts s t a1 (by omega) h1 h2
  · obtain ⟨q1, q2, q3⟩ := pk_one a b
    rw [q1, q2, q3]
    rw [a] at h1; rw [b, b1] at h2
    exact spick_one p most ts s t a1 h1 h2
  · obtain ⟨q1, q2, q3⟩ := pk_two a b
    rw [q1, q2, q3]
    rw [a, a1] at h1; rw [b] at h2
    exact spick_two p most ts s t b1 h1 h2
  · obtain ⟨q1, q2, q3⟩ := pk_none a b
    rw [q1, q2, q3]
    rw [a, a1] at h1; rw [b, b1] at h2
    exact spick_none p most ts s t h1 h2
theorem dspick (p : Nat) (most : Int) (ts : List ByteArray) (s t : ByteArray) (hs : s.size ≤ 9223372036854770000) (ht : t.size ≤ 9223372036854770000) : DoesG Tryd.prog (bookA p most ts) 28 #[.pointer (some ⟨p, 0, none⟩), .string s, .string t] (.returned (.tuple #[.int .i64 (pkX ts s t), .int .i64 (pkP ts s t), .int .i64 (pkE ts s t)])) (bookA p most ts) := (dspickR p most ts s t hs ht).does (bookA_good _ _ _)
end Go.Proofs.YtiebpjkppjollaaDoor
