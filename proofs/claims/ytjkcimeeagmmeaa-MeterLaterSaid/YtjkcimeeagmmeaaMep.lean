/- Package meter's Over and Deliver: what they answer. No condition. -/
import Derived.Test.YtjkcimeeagmmeaaMep1
namespace Go.Proofs.Ytjkcimeeagmmeaa
open Go Go.RowKit

theorem mep_al {W w : World} (h : Below w.heap.size w W) (O : Obj) : Below w.heap.size w (W.alloc O) := h.alloc h.size O
set_option maxRecDepth 100000 in
set_option maxHeartbeats 4000000 in
theorem pover_no (s l b t i a : Int) (w : World) (h : meOv s l b t i a = false) : Calls Try.prog 7 #[.agg (meA s l b), .int .i64 t, .int .i64 i, .int .i64 a] w fun e w' => e = .returned (.tuple #[.int .i64 (meW s l b t i a), .bool (meI s l b t i a)]) ∧ Below w.heap.size w w' := by
  obtain ⟨e1, e2⟩ := me_ov_no h
  rw [e1, e2]
  have HM := Lib.hid (fun w => pmemay s l b w)
  clear e1 e2
  cases hm : meMay s l b with
  | false =>
    rw [hm] at HM
    clear h hm
    go_enter Try.func7, Try.ntmps7
    go_wp2_with (first
        | (go_at_call 13; (with_reducible refine (HM.out _).mono ?_); rintro e w1 ⟨rfl, hb⟩; obtain ⟨ka, hB⟩ := me_one hb; clear hb; have ea := ka.cell; have ga := ka.froz; have la := ka.lt))
    all_goals (go_ret2; first | exact ⟨rfl, hB⟩ | exact ⟨rfl, hB.alloc hB.size _⟩)
  | true =>
    rw [hm] at HM
    have hn : (meNum t && meNum i && meNum a) = false := by
      rw [meOv, hm, Bool.true_and] at h
      exact h
    clear h hm
    go_enter Try.func7, Try.ntmps7
    go_wp2_with (first
        | (go_at_call 13; (with_reducible refine (HM.out _).mono ?_); rintro e w1 ⟨rfl, hb⟩; obtain ⟨ka, hB⟩ := me_one hb; clear hb; have ea := ka.cell; have ga := ka.froz; have la := ka.lt)
        | (go_at_call 14; (with_reducible refine (pmenum3 t i a _ hn _ _ (Blk.new _ _ _)).mono ?_); rintro e w2 ⟨rfl, rfl⟩))
    all_goals (go_ret2; first | exact ⟨rfl, hB⟩ | exact ⟨rfl, hB.alloc hB.size _⟩)
set_option maxRecDepth 100000 in
set_option maxHeartbeats 4000000 in
theorem pover_yes (s l b t i a : Int) (w : World) (h : meOv s l b t i a = true) : Calls Try.prog 7 #[.agg (meA s l b), .int .i64 t, .int .i64 i, .int .i64 a] w fun e w' => e = .returned (.tuple #[.int .i64 (meW s l b t i a), .bool (meI s l b t i a)]) ∧ Below w.heap.size w w' := by
  obtain ⟨e1, e2⟩ := me_ov_yes h
  rw [e1, e2]
  obtain ⟨hm, ⟨t0, t1⟩, ⟨i0, i1⟩, ⟨a0, a1⟩⟩ := meOv_iff.1 h
  obtain ⟨⟨s0, s1⟩, ⟨l0, l1⟩, -, -⟩ := meMay_iff.1 hm
  have HM := Lib.hid (fun w => pmemay s l b w)
  rw [hm] at HM
  have hn : (meNum t && meNum i && meNum a) = true := by rw [meNum_iff.2 ⟨t0, t1⟩, meNum_iff.2 ⟨i0, i1⟩, meNum_iff.2 ⟨a0, a1⟩]; rfl
  clear e1 e2 h hm
  by_cases c1 : a < t - s
  · rw [if_pos c1, decide_eq_true c1]
    go_enter Try.func7, Try.ntmps7
    go_wp2_with (first
        | (go_at_call 13; (with_reducible refine (HM.out _).mono ?_); rintro e w1 ⟨rfl, hb⟩; obtain ⟨ka, hB⟩ := me_one hb; clear hb; have ea := ka.cell; have ga := ka.froz; have la := ka.lt)
        | (go_at_call 14; (with_reducible refine (pmenum3 t i a _ hn _ _ (Blk.new _ _ _)).mono ?_); rintro e w2 ⟨rfl, rfl⟩))
    all_goals (go_ret2; first | exact ⟨rfl, hB⟩ | exact ⟨rfl, hB.alloc hB.size _⟩)
  · rw [if_neg c1, decide_eq_false c1]
    by_cases c2 : i < t - l
    · rw [if_pos c2, decide_eq_true c2]
      go_enter Try.func7, Try.ntmps7
      go_wp2_with (first
          | (go_at_call 13; (with_reducible refine (HM.out _).mono ?_); rintro e w1 ⟨rfl, hb⟩; obtain ⟨ka, hB⟩ := me_one hb; clear hb; have ea := ka.cell; have ga := ka.froz; have la := ka.lt)
          | (go_at_call 14; (with_reducible refine (pmenum3 t i a _ hn _ _ (Blk.new _ _ _)).mono ?_); rintro e w2 ⟨rfl, rfl⟩))
      all_goals (go_ret2; first | exact ⟨rfl, hB⟩ | exact ⟨rfl, hB.alloc hB.size _⟩)
    · rw [if_neg c2, decide_eq_false c2]
      go_enter Try.func7, Try.ntmps7
      go_wp2_with (first
          | (go_at_call 13; (with_reducible refine (HM.out _).mono ?_); rintro e w1 ⟨rfl, hb⟩; obtain ⟨ka, hB⟩ := me_one hb; clear hb; have ea := ka.cell; have ga := ka.froz; have la := ka.lt)
          | (go_at_call 14; (with_reducible refine (pmenum3 t i a _ hn _ _ (Blk.new _ _ _)).mono ?_); rintro e w2 ⟨rfl, rfl⟩))
      all_goals (go_ret2; first | exact ⟨rfl, hB⟩ | exact ⟨rfl, hB.alloc hB.size _⟩)
theorem pover (s l b t i a : Int) (w : World) : Calls Try.prog 7 #[.agg (meA s l b), .int .i64 t, .int .i64 i, .int .i64 a] w fun e w' => e = .returned (.tuple #[.int .i64 (meW s l b t i a), .bool (meI s l b t i a)]) ∧ Below w.heap.size w w' := by
  cases h : meOv s l b t i a with
  | true => exact pover_yes s l b t i a w h
  | false => exact pover_no s l b t i a w h
set_option maxRecDepth 100000 in
set_option maxHeartbeats 4000000 in
theorem pdeliver_no (s l b t y u q : Int) (w : World) (h : meOk s l b t y u q = false) : Calls Try.prog 9 #[.agg (meA s l b), .int .i64 t, .int .i64 y, .int .i64 u, .int .i64 q] w fun e w' => e = .returned (.tuple #[.agg #[.int .i64 (meS s l b t y u q), .int .i64 (meL s l b t y u q), .int .i64 (meB s l b t y u q)], .bool (meG s l b t y u q), .int .i64 (meE s l b t y u q)]) ∧ Below w.heap.size w w' := by
  obtain ⟨e1, e2, e3, e4, e5⟩ := me_no h
  rw [e1, e2, e3, e4, e5]
  have HM := Lib.hid (fun w => pmemay s l b w)
  clear e1 e2 e3 e4 e5
  cases hm : meMay s l b with
  | false =>
    rw [hm] at HM
    clear h hm
    go_enter Try.func9, Try.ntmps9
    go_wp2_with (first
        | (go_at_call 13; (with_reducible refine (HM.out _).mono ?_); rintro e w1 ⟨rfl, hb⟩; obtain ⟨ka, kr, hB⟩ := me_two hb; clear hb; have ea := ka.cell; have ga := ka.froz; have la := ka.lt; have er := kr.cell; have gr := kr.froz; have lr := kr.lt))
    all_goals (refine bodyPost_ret (v := .tuple #[.agg #[.int .i64 (0), .int .i64 (0), .int .i64 (0)], .bool false, .int .i64 1900]) (by simp [*, results, Try.results9, go_sem]) rfl ⟨rfl, ?_⟩)
    all_goals (repeat (first | (with_reducible refine Below.setCell ?_ (by simp) _) | (with_reducible refine me_drewn ?_) | (with_reducible refine mep_al ?_ _)))
    all_goals exact hB
  | true =>
    rw [hm] at HM
    cases hn : (meNum t && meNum y && meNum u && meNum q) with
    | false =>
      clear h hm
      go_enter Try.func9, Try.ntmps9
      go_wp2_with (first
          | (go_at_call 13; (with_reducible refine (HM.out _).mono ?_); rintro e w1 ⟨rfl, hb⟩; obtain ⟨ka, kr, hB⟩ := me_two hb; clear hb; have ea := ka.cell; have ga := ka.froz; have la := ka.lt; have er := kr.cell; have gr := kr.froz; have lr := kr.lt)
          | (go_at_call 14; (with_reducible refine (pmenum4 t y u q _ hn _ _ (Blk.new _ _ _)).mono ?_); rintro e w2 ⟨rfl, rfl⟩))
      all_goals (refine bodyPost_ret (v := .tuple #[.agg #[.int .i64 (0), .int .i64 (0), .int .i64 (0)], .bool false, .int .i64 1900]) (by simp [*, results, Try.results9, go_sem]) rfl ⟨rfl, ?_⟩)
      all_goals (repeat (first | (with_reducible refine Below.setCell ?_ (by simp) _) | (with_reducible refine me_drewn ?_) | (with_reducible refine mep_al ?_ _)))
      all_goals exact hB
    | true =>
      by_cases c1 : t < l
      · clear h hm
        go_enter Try.func9, Try.ntmps9
        go_wp2_with (first
            | (go_at_call 13; (with_reducible refine (HM.out _).mono ?_); rintro e w1 ⟨rfl, hb⟩; obtain ⟨ka, kr, hB⟩ := me_two hb; clear hb; have ea := ka.cell; have ga := ka.froz; have la := ka.lt; have er := kr.cell; have gr := kr.froz; have lr := kr.lt)
            | (go_at_call 14; (with_reducible refine (pmenum4 t y u q _ hn _ _ (Blk.new _ _ _)).mono ?_); rintro e w2 ⟨rfl, rfl⟩))
        all_goals (refine bodyPost_ret (v := .tuple #[.agg #[.int .i64 (0), .int .i64 (0), .int .i64 (0)], .bool false, .int .i64 1900]) (by simp [*, results, Try.results9, go_sem]) rfl ⟨rfl, ?_⟩)
        all_goals (repeat (first | (with_reducible refine Below.setCell ?_ (by simp) _) | (with_reducible refine me_drewn ?_) | (with_reducible refine mep_al ?_ _)))
        all_goals exact hB
      · by_cases c2 : 64 < y
        · clear h hm
          go_enter Try.func9, Try.ntmps9
          go_wp2_with (first
              | (go_at_call 13; (with_reducible refine (HM.out _).mono ?_); rintro e w1 ⟨rfl, hb⟩; obtain ⟨ka, kr, hB⟩ := me_two hb; clear hb; have ea := ka.cell; have ga := ka.froz; have la := ka.lt; have er := kr.cell; have gr := kr.froz; have lr := kr.lt)
              | (go_at_call 14; (with_reducible refine (pmenum4 t y u q _ hn _ _ (Blk.new _ _ _)).mono ?_); rintro e w2 ⟨rfl, rfl⟩))
          all_goals (refine bodyPost_ret (v := .tuple #[.agg #[.int .i64 (0), .int .i64 (0), .int .i64 (0)], .bool false, .int .i64 1900]) (by simp [*, results, Try.results9, go_sem]) rfl ⟨rfl, ?_⟩)
          all_goals (repeat (first | (with_reducible refine Below.setCell ?_ (by simp) _) | (with_reducible refine me_drewn ?_) | (with_reducible refine mep_al ?_ _)))
          all_goals exact hB
        · simp only [Bool.and_eq_true] at hn
          rw [meOk, hm, hn.1.1.1, hn.1.1.2, hn.1.2, hn.2, decide_eq_true (show l ≤ t by omega), decide_eq_true (show y ≤ 64 by omega)] at h
          cases h
set_option maxRecDepth 100000 in
set_option maxHeartbeats 4000000 in
theorem pdeliver_ok (s l b t y u q : Int) (w : World) (h : meOk s l b t y u q = true) : Calls Try.prog 9 #[.agg (meA s l b), .int .i64 t, .int .i64 y, .int .i64 u, .int .i64 q] w fun e w' => e = .returned (.tuple #[.agg #[.int .i64 (meS s l b t y u q), .int .i64 (meL s l b t y u q), .int .i64 (meB s l b t y u q)], .bool (meG s l b t y u q), .int .i64 (meE s l b t y u q)]) ∧ Below w.heap.size w w' := by
  have h' := h
  obtain ⟨hm, ⟨t0, t1⟩, ⟨y0, y1⟩, ⟨u0, u1⟩, ⟨q0, q1⟩, hlt, hy64⟩ := meOk_iff.1 h
  obtain ⟨⟨s0, s1⟩, ⟨l0, l1⟩, ⟨b0, b1⟩, -⟩ := meMay_iff.1 hm
  have HM := Lib.hid (fun w => pmemay s l b w)
  rw [hm] at HM
  have hn : (meNum t && meNum y && meNum u && meNum q) = true := by rw [meNum_iff.2 ⟨t0, t1⟩, meNum_iff.2 ⟨y0, y1⟩, meNum_iff.2 ⟨u0, u1⟩, meNum_iff.2 ⟨q0, q1⟩]; rfl
  have c1 : ¬ t < l := by omega
  have c2 : ¬ 64 < y := by omega
  clear h hm
  by_cases c3 : q ≤ u
  · obtain ⟨e1, e2, e3, e4, e5⟩ := me_full h' (.inl c3)
    rw [e1, e2, e3, e4, e5]
    clear e1 e2 e3 e4 e5 h'
    go_enter Try.func9, Try.ntmps9
    go_wp2_with (first
        | (go_at_call 13; (with_reducible refine (HM.out _).mono ?_); rintro e w1 ⟨rfl, hb⟩; obtain ⟨ka, kr, hB⟩ := me_two hb; clear hb; have ea := ka.cell; have ga := ka.froz; have la := ka.lt; have er := kr.cell; have gr := kr.froz; have lr := kr.lt)
        | (go_at_call 14; (with_reducible refine (pmenum4 t y u q _ hn _ _ (Blk.new _ _ _)).mono ?_); rintro e w2 ⟨rfl, rfl⟩))
    all_goals (refine bodyPost_ret (v := .tuple #[.agg #[.int .i64 (0), .int .i64 (0), .int .i64 (0)], .bool false, .int .i64 0]) (by simp [*, results, Try.results9, go_sem]) rfl ⟨rfl, ?_⟩)
    all_goals (repeat (first | (with_reducible refine Below.setCell ?_ (by simp) _) | (with_reducible refine me_drewn ?_) | (with_reducible refine mep_al ?_ _)))
    all_goals exact hB
  · by_cases c4 : 1073741823 - y < b
    · obtain ⟨e1, e2, e3, e4, e5⟩ := me_full h' (.inr (by omega))
      rw [e1, e2, e3, e4, e5]
      clear e1 e2 e3 e4 e5 h'
      go_enter Try.func9, Try.ntmps9
      go_wp2_with (first
          | (go_at_call 13; (with_reducible refine (HM.out _).mono ?_); rintro e w1 ⟨rfl, hb⟩; obtain ⟨ka, kr, hB⟩ := me_two hb; clear hb; have ea := ka.cell; have ga := ka.froz; have la := ka.lt; have er := kr.cell; have gr := kr.froz; have lr := kr.lt)
          | (go_at_call 14; (with_reducible refine (pmenum4 t y u q _ hn _ _ (Blk.new _ _ _)).mono ?_); rintro e w2 ⟨rfl, rfl⟩))
      all_goals (refine bodyPost_ret (v := .tuple #[.agg #[.int .i64 (0), .int .i64 (0), .int .i64 (0)], .bool false, .int .i64 0]) (by simp [*, results, Try.results9, go_sem]) rfl ⟨rfl, ?_⟩)
      all_goals (repeat (first | (with_reducible refine Below.setCell ?_ (by simp) _) | (with_reducible refine me_drewn ?_) | (with_reducible refine mep_al ?_ _)))
      all_goals exact hB
    · obtain ⟨e1, e2, e3, e4, e5⟩ := me_yes h' (by omega) (by omega)
      rw [e1, e2, e3, e4, e5]
      clear e1 e2 e3 e4 e5 h'
      go_enter Try.func9, Try.ntmps9
      go_wp2_with (first
          | (go_at_call 13; (with_reducible refine (HM.out _).mono ?_); rintro e w1 ⟨rfl, hb⟩; obtain ⟨ka, kr, hB⟩ := me_two hb; clear hb; have ea := ka.cell; have ga := ka.froz; have la := ka.lt; have er := kr.cell; have gr := kr.froz; have lr := kr.lt)
          | (go_at_call 14; (with_reducible refine (pmenum4 t y u q _ hn _ _ (Blk.new _ _ _)).mono ?_); rintro e w2 ⟨rfl, rfl⟩))
      all_goals (refine bodyPost_ret (v := .tuple #[.agg #[.int .i64 (s), .int .i64 (t), .int .i64 (b + y)], .bool true, .int .i64 0]) (by simp [*, results, Try.results9, go_sem]) rfl ⟨rfl, ?_⟩)
      all_goals (repeat (first | (with_reducible refine Below.setCell ?_ (by simp) _) | (with_reducible refine me_drewn ?_) | (with_reducible refine mep_al ?_ _)))
      all_goals exact hB
theorem pdeliver (s l b t y u q : Int) (w : World) : Calls Try.prog 9 #[.agg (meA s l b), .int .i64 t, .int .i64 y, .int .i64 u, .int .i64 q] w fun e w' => e = .returned (.tuple #[.agg #[.int .i64 (meS s l b t y u q), .int .i64 (meL s l b t y u q), .int .i64 (meB s l b t y u q)], .bool (meG s l b t y u q), .int .i64 (meE s l b t y u q)]) ∧ Below w.heap.size w w' := by
  cases h : meOk s l b t y u q with
  | true => exact pdeliver_ok s l b t y u q w h
  | false => exact pdeliver_no s l b t y u q w h
theorem metersOk : MetersOk := ⟨pover, pdeliver⟩
end Go.Proofs.Ytjkcimeeagmmeaa
