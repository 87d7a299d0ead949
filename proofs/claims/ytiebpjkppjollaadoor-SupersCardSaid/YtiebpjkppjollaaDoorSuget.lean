/- The reference's GetSuper and Pick, whole. Condition: the texts' sizes. -/
import Derived.Test.YtiebpjkppjollaaDoorSuge
import Derived.Test.YtiebpjkppjollaaDoorSugE
import Derived.Test.YtiebpjkppjollaaDoorSugF
import Derived.Test.YtiebpjkppjollaaDoorSugG
namespace Go.Proofs.YtiebpjkppjollaaDoor
open Go Go.RowKit

theorem bneS {s t : ByteArray} (h : s ≠ t) : (s.toList == t.toList) = false := by
  cases c : (s.toList == t.toList)
  · rfl
  · exfalso
    refine h ?_
    have h1 : s.toList = t.toList := by simpa using c
    obtain ⟨⟨a⟩⟩ := s
    obtain ⟨⟨b⟩⟩ := t
    rw [ByteArray.toList_mk, ByteArray.toList_mk] at h1
    exact congrArg (fun l => (⟨⟨l⟩⟩ : ByteArray)) h1
theorem drsget (p : Nat) (most : Int) (ts : List ByteArray) (s : ByteArray) (hs : s.size ≤ 9223372036854770000) : Does Tryd.prog (refA p most ts) 27 #[.pointer (some ⟨p, 0, none⟩), .string s] (.returned (.tuple #[.int .i64 (sgX ts s), .int .i64 (sgE ts s)])) (refA p most ts) := by
  intro w F h
  have HS := Lib.hid (fun n c1 => sg_start h n c1)
  clear h
  have hv := suv s
  have h1 := fun X q => rdnum2 s 0 false 88 hs (by omega) (by omega) X q
  obtain ⟨x1, y1⟩ := rnA_bd (s := s) (a := 0) (b := false) (by omega) (by omega)
  generalize rnX s 0 false = v1 at *
  generalize rnA s 0 false = a1 at *
  generalize rnB s 0 false = b1 at *
  have h2 := fun X q => rdnum2 s a1 b1 88 hs x1 y1 X q
  obtain ⟨x2, y2⟩ := rnA_bd (s := s) (a := a1) (b := b1) x1 y1
  generalize rnX s a1 b1 = v2 at *
  generalize rnA s a1 b1 = a2 at *
  generalize rnB s a1 b1 = b2 at *
  have H1 := Lib.hid h1
  have H2 := Lib.hid h2
  clear h1 h2
  by_cases c1 : s.size = 64
  · cases b2 with
    | true =>
      obtain ⟨q1, q2⟩ := sg_no (hv.none (.inr (.inl rfl)) ts)
      rw [q1, q2]
      exact drsget_bad p most ts s HS H1 H2 c1
    | false =>
      by_cases d1 : v1 < 1
      · obtain ⟨q1, q2⟩ := sg_no (hv.none (.inr (.inr (.inl (by cases hm : suMay v1; rfl; have := (suMay_iff v1).1 hm; omega)))) ts)
        rw [q1, q2]
        exact drsget_low p most ts s HS H1 H2 c1 d1
      · by_cases d2 : 1023 < v1
        · obtain ⟨q1, q2⟩ := sg_no (hv.none (.inr (.inr (.inl (by cases hm : suMay v1; rfl; have := (suMay_iff v1).1 hm; omega)))) ts)
          rw [q1, q2]
          exact drsget_high p most ts s HS H1 H2 c1 d2
        · obtain ⟨n5, rfl⟩ := Int.eq_ofNat_of_zero_le x2
          have hn5 : n5 ≤ 64 := by omega
          have hm : suMay v1 = true := (suMay_iff v1).2 ⟨by omega, by omega⟩
          by_cases hz : s.extract n5 64 = zerN (64 - n5)
          · have hfd := hv.find c1 hm (by rw [Int.toNat_natCast]; exact hz) ts
            have h5 := numS_size5 v1
            have hI := drishash p most ts (markS ++ numS v1) v2 (by rw [ByteArray.size_append, show markS.size = 5 from rfl]; omega)
            rw [show okK none = true from rfl, show tmK cH none (markS ++ numS v1) = suTm v1 from rfl] at hI
            have hN := fun w => rn1 v1 3 w (by omega) (by omega)
            rw [numsB_one] at hN
            have HN := Lib.hid hN
            cases hk : ckI ts true (suTm v1) v2 with
            | false =>
              rw [hk] at hfd hI
              obtain ⟨q1, q2⟩ := sg_no hfd
              rw [q1, q2]
              exact drsget_F p most ts s HS H1 H2 c1 d1 d2 hn5 rfl hz (by omega) HN (Lib.hid hI)
            | true =>
              rw [hk] at hfd hI
              obtain ⟨q1, q2⟩ : sgX ts s = v1 ∧ sgE ts s = 0 := sg_yes hfd
              rw [q1, q2]
              exact drsget_G p most ts s HS H1 H2 c1 d1 d2 hn5 rfl hz (by omega) HN (Lib.hid hI)
          · obtain ⟨q1, q2⟩ := sg_no (hv.none (.inr (.inr (.inr (by rw [Int.toNat_natCast]; exact hz)))) ts)
            rw [q1, q2]
            exact drsget_E p most ts s HS H1 H2 c1 d1 d2 hn5 rfl (bneS hz)
  · obtain ⟨q1, q2⟩ := sg_no (hv.none (.inl c1) ts)
    rw [q1, q2]
    exact drsget_size p most ts s HS H1 H2 c1
theorem rpick_of (p : Nat) (most : Int) (ts : List ByteArray) (s t : ByteArray) (x e y f X Q E : Int)
    (h1 : Does Tryd.prog (refA p most ts) 27 #[.pointer (some ⟨p, 0, none⟩), .string s] (.returned (.tuple #[.int .i64 x, .int .i64 e])) (refA p most ts))
    (h2 : Does Tryd.prog (refA p most ts) 27 #[.pointer (some ⟨p, 0, none⟩), .string t] (.returned (.tuple #[.int .i64 y, .int .i64 f])) (refA p most ts))
    (hc : (e = 1000 ∧ f = 1000 ∧ X = 0 ∧ Q = 0 ∧ E = 1001) ∨ (e = 0 ∧ f = 1000 ∧ X = x ∧ Q = 1 ∧ E = 0) ∨ (e = 1000 ∧ f = 0 ∧ X = y ∧ Q = 0 ∧ E = 0) ∨ (e = 0 ∧ f = 0 ∧ y ≤ x ∧ X = x ∧ Q = 1 ∧ E = 0) ∨ (e = 0 ∧ f = 0 ∧ x < y ∧ X = y ∧ Q = 0 ∧ E = 0)) :
    Does Tryd.prog (refA p most ts) 29 #[.pointer (some ⟨p, 0, none⟩), .string s, .string t] (.returned (.tuple #[.int .i64 X, .int .i64 Q, .int .i64 E])) (refA p most ts) := by
  intro w F h
  have hS := Becomes.refl h
  clear h
  rcases hc with ⟨rfl, rfl, rfl, rfl, rfl⟩ | ⟨rfl, rfl, rfl, rfl, rfl⟩ | ⟨rfl, rfl, rfl, rfl, rfl⟩ | ⟨rfl, rfl, hc, rfl, rfl, rfl⟩ | ⟨rfl, rfl, hc, rfl, rfl, rfl⟩
  case' inr.inr.inr.inr => have hc2 : ¬ X ≤ x := by omega
  all_goals
    have H1 := Lib.hid h1
    have H2 := Lib.hid h2
    clear h1 h2
    go_enter Tryd.func29, Tryd.ntmps29
    go_wp2_with (go_at_call 27; first
      | ((with_reducible refine (Becomes.op H1.out hS).mono ?_); rintro e1 w1 ⟨rfl, hS1⟩; clear hS)
      | ((with_reducible refine (Becomes.op H2.out hS1).mono ?_); rintro e1 w1 ⟨rfl, hS2⟩))
    go_ret3
    exact ⟨rfl, hS2⟩
theorem drpick (p : Nat) (most : Int) (ts : List ByteArray) (s t : ByteArray) (hs : s.size ≤ 9223372036854770000) (ht : t.size ≤ 9223372036854770000) : Does Tryd.prog (refA p most ts) 29 #[.pointer (some ⟨p, 0, none⟩), .string s, .string t] (.returned (.tuple #[.int .i64 (pkX ts s t), .int .i64 (pkP ts s t), .int .i64 (pkE ts s t)])) (refA p most ts) := by
  refine rpick_of p most ts s t _ _ _ _ _ _ _ (drsget p most ts s hs) (drsget p most ts t ht) ?_
  rcases sg_cases ts s with ⟨a, a1, _⟩ | ⟨a, a1⟩ <;> rcases sg_cases ts t with ⟨b, b1, _⟩ | ⟨b, b1⟩
  · by_cases hc : sgX ts t ≤ sgX ts s
    · obtain ⟨q1, q2, q3⟩ := pk_ge a b hc
      exact .inr (.inr (.inr (.inl ⟨a, b, hc, q1, q2, q3⟩)))
    · obtain ⟨q1, q2, q3⟩ := pk_lt a b (by omega)
      exact .inr (.inr (.inr (.inr ⟨a, b, by omega, q1, q2, q3⟩)))
  · obtain ⟨q1, q2, q3⟩ := pk_one a b
    exact .inr (.inl ⟨a, b, q1, q2, q3⟩)
  · obtain ⟨q1, q2, q3⟩ := pk_two a b
    exact .inr (.inr (.inl ⟨a, b, q1, q2, q3⟩))
  · obtain ⟨q1, q2, q3⟩ := pk_none a b
    exact .inl ⟨a, b, q1, q2, q3⟩
end Go.Proofs.YtiebpjkppjollaaDoor
