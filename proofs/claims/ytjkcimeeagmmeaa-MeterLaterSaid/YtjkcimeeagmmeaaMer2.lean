/- The reference's Over and Deliver: what they answer. No condition. -/
import Derived.Test.YtjkcimeeagmmeaaMer
namespace Go.Proofs.Ytjkcimeeagmmeaa
open Go Go.RowKit

set_option maxRecDepth 100000 in
set_option maxHeartbeats 4000000 in
theorem rover_no (s l b t i a : Int) (w : World) (h : meOv s l b t i a = false) : Calls Try.prog 8 #[.agg (meA s l b), .int .i64 t, .int .i64 i, .int .i64 a] w fun e w' => e = .returned (.tuple #[.int .i64 (meW s l b t i a), .bool (meI s l b t i a)]) ∧ Below w.heap.size w w' := by
  obtain ⟨e1, e2⟩ := me_ov_no h
  rw [e1, e2]
  have HM := Lib.hid (fun w => rmemay s l b w)
  clear e1 e2
  cases hm : meMay s l b with
  | false =>
    rw [hm] at HM
    clear h hm
    go_enter Try.func8, Try.ntmps8
    go_wp2_with (first
        | (go_at_call 15; (with_reducible refine (HM.out _).mono ?_); rintro e w1 ⟨rfl, hb⟩; obtain ⟨ka, hB⟩ := me_one hb; clear hb; have ea := ka.cell; have ga := ka.froz; have la := ka.lt))
    all_goals (go_ret2; exact ⟨rfl, hB⟩)
  | true =>
    rw [hm] at HM
    cases ht : meNum t with
    | false =>
      clear h hm
      go_enter Try.func8, Try.ntmps8
      go_wp2_with (first
          | (go_at_call 15; (with_reducible refine (HM.out _).mono ?_); rintro e w1 ⟨rfl, hb⟩; obtain ⟨ka, hB⟩ := me_one hb; clear hb; have ea := ka.cell; have ga := ka.froz; have la := ka.lt)
          | (go_at_call 16; first
            | ((with_reducible refine (rmenum _ _ ht _).mono ?_); rintro e w2 ⟨rfl, rfl⟩)))
      all_goals (go_ret2; exact ⟨rfl, hB⟩)
    | true =>
      cases hi : meNum i with
      | false =>
        clear h hm
        go_enter Try.func8, Try.ntmps8
        go_wp2_with (first
            | (go_at_call 15; (with_reducible refine (HM.out _).mono ?_); rintro e w1 ⟨rfl, hb⟩; obtain ⟨ka, hB⟩ := me_one hb; clear hb; have ea := ka.cell; have ga := ka.froz; have la := ka.lt)
            | (go_at_call 16; first
              | ((with_reducible refine (rmenum _ _ ht _).mono ?_); rintro e w2 ⟨rfl, rfl⟩)
              | ((with_reducible refine (rmenum _ _ hi _).mono ?_); rintro e w2 ⟨rfl, rfl⟩)))
        all_goals (go_ret2; exact ⟨rfl, hB⟩)
      | true =>
        cases ha : meNum a with
        | false =>
          clear h hm
          go_enter Try.func8, Try.ntmps8
          go_wp2_with (first
              | (go_at_call 15; (with_reducible refine (HM.out _).mono ?_); rintro e w1 ⟨rfl, hb⟩; obtain ⟨ka, hB⟩ := me_one hb; clear hb; have ea := ka.cell; have ga := ka.froz; have la := ka.lt)
              | (go_at_call 16; first
                | ((with_reducible refine (rmenum _ _ ht _).mono ?_); rintro e w2 ⟨rfl, rfl⟩)
                | ((with_reducible refine (rmenum _ _ hi _).mono ?_); rintro e w2 ⟨rfl, rfl⟩)
                | ((with_reducible refine (rmenum _ _ ha _).mono ?_); rintro e w2 ⟨rfl, rfl⟩)))
          all_goals (go_ret2; exact ⟨rfl, hB⟩)
        | true =>
          rw [meOv, hm, ht, hi, ha] at h
          cases h
set_option maxRecDepth 100000 in
set_option maxHeartbeats 4000000 in
theorem rover_yes (s l b t i a : Int) (w : World) (h : meOv s l b t i a = true) : Calls Try.prog 8 #[.agg (meA s l b), .int .i64 t, .int .i64 i, .int .i64 a] w fun e w' => e = .returned (.tuple #[.int .i64 (meW s l b t i a), .bool (meI s l b t i a)]) ∧ Below w.heap.size w w' := by
  obtain ⟨e1, e2⟩ := me_ov_yes h
  rw [e1, e2]
  obtain ⟨hm, ⟨t0, t1⟩, ⟨i0, i1⟩, ⟨a0, a1⟩⟩ := meOv_iff.1 h
  obtain ⟨⟨s0, s1⟩, ⟨l0, l1⟩, -, -⟩ := meMay_iff.1 hm
  have HM := Lib.hid (fun w => rmemay s l b w)
  rw [hm] at HM
  have ht : meNum t = true := meNum_iff.2 ⟨t0, t1⟩
  have hi : meNum i = true := meNum_iff.2 ⟨i0, i1⟩
  have ha : meNum a = true := meNum_iff.2 ⟨a0, a1⟩
  clear e1 e2 h hm
  by_cases c1 : a < t - s
  · rw [if_pos c1, decide_eq_true c1]
    go_enter Try.func8, Try.ntmps8
    go_wp2_with (first
        | (go_at_call 15; (with_reducible refine (HM.out _).mono ?_); rintro e w1 ⟨rfl, hb⟩; obtain ⟨ka, hB⟩ := me_one hb; clear hb; have ea := ka.cell; have ga := ka.froz; have la := ka.lt)
        | (go_at_call 16; first
          | ((with_reducible refine (rmenum _ _ ht _).mono ?_); rintro e w2 ⟨rfl, rfl⟩)
          | ((with_reducible refine (rmenum _ _ hi _).mono ?_); rintro e w2 ⟨rfl, rfl⟩)
          | ((with_reducible refine (rmenum _ _ ha _).mono ?_); rintro e w2 ⟨rfl, rfl⟩)))
    all_goals (go_ret2; exact ⟨rfl, hB⟩)
  · rw [if_neg c1, decide_eq_false c1]
    by_cases c2 : i < t - l
    · rw [if_pos c2, decide_eq_true c2]
      go_enter Try.func8, Try.ntmps8
      go_wp2_with (first
          | (go_at_call 15; (with_reducible refine (HM.out _).mono ?_); rintro e w1 ⟨rfl, hb⟩; obtain ⟨ka, hB⟩ := me_one hb; clear hb; have ea := ka.cell; have ga := ka.froz; have la := ka.lt)
          | (go_at_call 16; first
            | ((with_reducible refine (rmenum _ _ ht _).mono ?_); rintro e w2 ⟨rfl, rfl⟩)
            | ((with_reducible refine (rmenum _ _ hi _).mono ?_); rintro e w2 ⟨rfl, rfl⟩)
            | ((with_reducible refine (rmenum _ _ ha _).mono ?_); rintro e w2 ⟨rfl, rfl⟩)))
      all_goals (go_ret2; exact ⟨rfl, hB⟩)
    · rw [if_neg c2, decide_eq_false c2]
      go_enter Try.func8, Try.ntmps8
      go_wp2_with (first
          | (go_at_call 15; (with_reducible refine (HM.out _).mono ?_); rintro e w1 ⟨rfl, hb⟩; obtain ⟨ka, hB⟩ := me_one hb; clear hb; have ea := ka.cell; have ga := ka.froz; have la := ka.lt)
          | (go_at_call 16; first
            | ((with_reducible refine (rmenum _ _ ht _).mono ?_); rintro e w2 ⟨rfl, rfl⟩)
            | ((with_reducible refine (rmenum _ _ hi _).mono ?_); rintro e w2 ⟨rfl, rfl⟩)
            | ((with_reducible refine (rmenum _ _ ha _).mono ?_); rintro e w2 ⟨rfl, rfl⟩)))
      all_goals (go_ret2; exact ⟨rfl, hB⟩)
theorem rover (s l b t i a : Int) (w : World) : Calls Try.prog 8 #[.agg (meA s l b), .int .i64 t, .int .i64 i, .int .i64 a] w fun e w' => e = .returned (.tuple #[.int .i64 (meW s l b t i a), .bool (meI s l b t i a)]) ∧ Below w.heap.size w w' := by
  cases h : meOv s l b t i a with
  | true => exact rover_yes s l b t i a w h
  | false => exact rover_no s l b t i a w h
set_option maxRecDepth 100000 in
set_option maxHeartbeats 4000000 in
theorem rdeliver_no (s l b t y u q : Int) (w : World) (h : meOk s l b t y u q = false) : Calls Try.prog 10 #[.agg (meA s l b), .int .i64 t, .int .i64 y, .int .i64 u, .int .i64 q] w fun e w' => e = .returned (.tuple #[.agg #[.int .i64 (meS s l b t y u q), .int .i64 (meL s l b t y u q), .int .i64 (meB s l b t y u q)], .bool (meG s l b t y u q), .int .i64 (meE s l b t y u q)]) ∧ Below w.heap.size w w' := by
  obtain ⟨e1, e2, e3, e4, e5⟩ := me_no h
  rw [e1, e2, e3, e4, e5]
  have HM := Lib.hid (fun w => rmemay s l b w)
  clear e1 e2 e3 e4 e5
  cases hm : meMay s l b with
  | false =>
    rw [hm] at HM
    clear h hm
    go_enter Try.func10, Try.ntmps10
    go_wp2_with (first
        | (go_at_call 15; (with_reducible refine (HM.out _).mono ?_); rintro e w1 ⟨rfl, hb⟩; obtain ⟨ka, kr, hB⟩ := me_two hb; clear hb; have ea := ka.cell; have ga := ka.froz; have la := ka.lt; have er := kr.cell; have gr := kr.froz; have lr := kr.lt))
    refine bodyPost_ret (v := .tuple #[.agg #[.int .i64 (0), .int .i64 (0), .int .i64 (0)], .bool false, .int .i64 1900]) (by simp [*, results, Try.results10, go_sem]) rfl ⟨rfl, ?_⟩
    repeat (first | (with_reducible refine Below.setCell ?_ (by simp) _) | (with_reducible refine me_drewn ?_))
    exact hB
  | true =>
    rw [hm] at HM
    cases ht : meNum t with
    | false =>
      clear h hm
      go_enter Try.func10, Try.ntmps10
      go_wp2_with (first
          | (go_at_call 15; (with_reducible refine (HM.out _).mono ?_); rintro e w1 ⟨rfl, hb⟩; obtain ⟨ka, kr, hB⟩ := me_two hb; clear hb; have ea := ka.cell; have ga := ka.froz; have la := ka.lt; have er := kr.cell; have gr := kr.froz; have lr := kr.lt)
          | (go_at_call 16; first
            | ((with_reducible refine (rmenum _ _ ht _).mono ?_); rintro e w2 ⟨rfl, rfl⟩)))
      refine bodyPost_ret (v := .tuple #[.agg #[.int .i64 (0), .int .i64 (0), .int .i64 (0)], .bool false, .int .i64 1900]) (by simp [*, results, Try.results10, go_sem]) rfl ⟨rfl, ?_⟩
      repeat (first | (with_reducible refine Below.setCell ?_ (by simp) _) | (with_reducible refine me_drewn ?_))
      exact hB
    | true =>
      cases hy : meNum y with
      | false =>
        clear h hm
        go_enter Try.func10, Try.ntmps10
        go_wp2_with (first
            | (go_at_call 15; (with_reducible refine (HM.out _).mono ?_); rintro e w1 ⟨rfl, hb⟩; obtain ⟨ka, kr, hB⟩ := me_two hb; clear hb; have ea := ka.cell; have ga := ka.froz; have la := ka.lt; have er := kr.cell; have gr := kr.froz; have lr := kr.lt)
            | (go_at_call 16; first
              | ((with_reducible refine (rmenum _ _ ht _).mono ?_); rintro e w2 ⟨rfl, rfl⟩)
              | ((with_reducible refine (rmenum _ _ hy _).mono ?_); rintro e w2 ⟨rfl, rfl⟩)))
        refine bodyPost_ret (v := .tuple #[.agg #[.int .i64 (0), .int .i64 (0), .int .i64 (0)], .bool false, .int .i64 1900]) (by simp [*, results, Try.results10, go_sem]) rfl ⟨rfl, ?_⟩
        repeat (first | (with_reducible refine Below.setCell ?_ (by simp) _) | (with_reducible refine me_drewn ?_))
        exact hB
      | true =>
        cases hu : meNum u with
        | false =>
          clear h hm
          go_enter Try.func10, Try.ntmps10
          go_wp2_with (first
              | (go_at_call 15; (with_reducible refine (HM.out _).mono ?_); rintro e w1 ⟨rfl, hb⟩; obtain ⟨ka, kr, hB⟩ := me_two hb; clear hb; have ea := ka.cell; have ga := ka.froz; have la := ka.lt; have er := kr.cell; have gr := kr.froz; have lr := kr.lt)
              | (go_at_call 16; first
                | ((with_reducible refine (rmenum _ _ ht _).mono ?_); rintro e w2 ⟨rfl, rfl⟩)
                | ((with_reducible refine (rmenum _ _ hy _).mono ?_); rintro e w2 ⟨rfl, rfl⟩)
                | ((with_reducible refine (rmenum _ _ hu _).mono ?_); rintro e w2 ⟨rfl, rfl⟩)))
          refine bodyPost_ret (v := .tuple #[.agg #[.int .i64 (0), .int .i64 (0), .int .i64 (0)], .bool false, .int .i64 1900]) (by simp [*, results, Try.results10, go_sem]) rfl ⟨rfl, ?_⟩
          repeat (first | (with_reducible refine Below.setCell ?_ (by simp) _) | (with_reducible refine me_drewn ?_))
          exact hB
        | true =>
          cases hq : meNum q with
          | false =>
            clear h hm
            go_enter Try.func10, Try.ntmps10
            go_wp2_with (first
                | (go_at_call 15; (with_reducible refine (HM.out _).mono ?_); rintro e w1 ⟨rfl, hb⟩; obtain ⟨ka, kr, hB⟩ := me_two hb; clear hb; have ea := ka.cell; have ga := ka.froz; have la := ka.lt; have er := kr.cell; have gr := kr.froz; have lr := kr.lt)
                | (go_at_call 16; first
                  | ((with_reducible refine (rmenum _ _ ht _).mono ?_); rintro e w2 ⟨rfl, rfl⟩)
                  | ((with_reducible refine (rmenum _ _ hy _).mono ?_); rintro e w2 ⟨rfl, rfl⟩)
                  | ((with_reducible refine (rmenum _ _ hu _).mono ?_); rintro e w2 ⟨rfl, rfl⟩)
                  | ((with_reducible refine (rmenum _ _ hq _).mono ?_); rintro e w2 ⟨rfl, rfl⟩)))
            refine bodyPost_ret (v := .tuple #[.agg #[.int .i64 (0), .int .i64 (0), .int .i64 (0)], .bool false, .int .i64 1900]) (by simp [*, results, Try.results10, go_sem]) rfl ⟨rfl, ?_⟩
            repeat (first | (with_reducible refine Below.setCell ?_ (by simp) _) | (with_reducible refine me_drewn ?_))
            exact hB
          | true =>
            by_cases c1 : t < l
            · clear h hm
              go_enter Try.func10, Try.ntmps10
              go_wp2_with (first
                  | (go_at_call 15; (with_reducible refine (HM.out _).mono ?_); rintro e w1 ⟨rfl, hb⟩; obtain ⟨ka, kr, hB⟩ := me_two hb; clear hb; have ea := ka.cell; have ga := ka.froz; have la := ka.lt; have er := kr.cell; have gr := kr.froz; have lr := kr.lt)
                  | (go_at_call 16; first
                    | ((with_reducible refine (rmenum _ _ ht _).mono ?_); rintro e w2 ⟨rfl, rfl⟩)
                    | ((with_reducible refine (rmenum _ _ hy _).mono ?_); rintro e w2 ⟨rfl, rfl⟩)
                    | ((with_reducible refine (rmenum _ _ hu _).mono ?_); rintro e w2 ⟨rfl, rfl⟩)
                    | ((with_reducible refine (rmenum _ _ hq _).mono ?_); rintro e w2 ⟨rfl, rfl⟩)))
              refine bodyPost_ret (v := .tuple #[.agg #[.int .i64 (0), .int .i64 (0), .int .i64 (0)], .bool false, .int .i64 1900]) (by simp [*, results, Try.results10, go_sem]) rfl ⟨rfl, ?_⟩
              repeat (first | (with_reducible refine Below.setCell ?_ (by simp) _) | (with_reducible refine me_drewn ?_))
              exact hB
            · by_cases c2 : 64 < y
              · clear h hm
                go_enter Try.func10, Try.ntmps10
                go_wp2_with (first
                    | (go_at_call 15; (with_reducible refine (HM.out _).mono ?_); rintro e w1 ⟨rfl, hb⟩; obtain ⟨ka, kr, hB⟩ := me_two hb; clear hb; have ea := ka.cell; have ga := ka.froz; have la := ka.lt; have er := kr.cell; have gr := kr.froz; have lr := kr.lt)
                    | (go_at_call 16; first
                      | ((with_reducible refine (rmenum _ _ ht _).mono ?_); rintro e w2 ⟨rfl, rfl⟩)
                      | ((with_reducible refine (rmenum _ _ hy _).mono ?_); rintro e w2 ⟨rfl, rfl⟩)
                      | ((with_reducible refine (rmenum _ _ hu _).mono ?_); rintro e w2 ⟨rfl, rfl⟩)
                      | ((with_reducible refine (rmenum _ _ hq _).mono ?_); rintro e w2 ⟨rfl, rfl⟩)))
                refine bodyPost_ret (v := .tuple #[.agg #[.int .i64 (0), .int .i64 (0), .int .i64 (0)], .bool false, .int .i64 1900]) (by simp [*, results, Try.results10, go_sem]) rfl ⟨rfl, ?_⟩
                repeat (first | (with_reducible refine Below.setCell ?_ (by simp) _) | (with_reducible refine me_drewn ?_))
                exact hB
              · rw [meOk, hm, ht, hy, hu, hq, decide_eq_true (show l ≤ t by omega), decide_eq_true (show y ≤ 64 by omega)] at h
                cases h
set_option maxRecDepth 100000 in
set_option maxHeartbeats 4000000 in
theorem rdeliver_ok (s l b t y u q : Int) (w : World) (h : meOk s l b t y u q = true) : Calls Try.prog 10 #[.agg (meA s l b), .int .i64 t, .int .i64 y, .int .i64 u, .int .i64 q] w fun e w' => e = .returned (.tuple #[.agg #[.int .i64 (meS s l b t y u q), .int .i64 (meL s l b t y u q), .int .i64 (meB s l b t y u q)], .bool (meG s l b t y u q), .int .i64 (meE s l b t y u q)]) ∧ Below w.heap.size w w' := by
  have h' := h
  obtain ⟨hm, ⟨t0, t1⟩, ⟨y0, y1⟩, ⟨u0, u1⟩, ⟨q0, q1⟩, hlt, hy64⟩ := meOk_iff.1 h
  obtain ⟨⟨s0, s1⟩, ⟨l0, l1⟩, ⟨b0, b1⟩, -⟩ := meMay_iff.1 hm
  have HM := Lib.hid (fun w => rmemay s l b w)
  rw [hm] at HM
  have ht : meNum t = true := meNum_iff.2 ⟨t0, t1⟩
  have hy : meNum y = true := meNum_iff.2 ⟨y0, y1⟩
  have hu : meNum u = true := meNum_iff.2 ⟨u0, u1⟩
  have hq : meNum q = true := meNum_iff.2 ⟨q0, q1⟩
  have c1 : ¬ t < l := by omega
  have c2 : ¬ 64 < y := by omega
  clear h hm
  by_cases c3 : q ≤ u
  · obtain ⟨e1, e2, e3, e4, e5⟩ := me_full h' (.inl c3)
    rw [e1, e2, e3, e4, e5]
    clear e1 e2 e3 e4 e5 h'
    go_enter Try.func10, Try.ntmps10
    go_wp2_with (first
        | (go_at_call 15; (with_reducible refine (HM.out _).mono ?_); rintro e w1 ⟨rfl, hb⟩; obtain ⟨ka, kr, hB⟩ := me_two hb; clear hb; have ea := ka.cell; have ga := ka.froz; have la := ka.lt; have er := kr.cell; have gr := kr.froz; have lr := kr.lt)
        | (go_at_call 16; first
          | ((with_reducible refine (rmenum _ _ ht _).mono ?_); rintro e w2 ⟨rfl, rfl⟩)
          | ((with_reducible refine (rmenum _ _ hy _).mono ?_); rintro e w2 ⟨rfl, rfl⟩)
          | ((with_reducible refine (rmenum _ _ hu _).mono ?_); rintro e w2 ⟨rfl, rfl⟩)
          | ((with_reducible refine (rmenum _ _ hq _).mono ?_); rintro e w2 ⟨rfl, rfl⟩)))
    refine bodyPost_ret (v := .tuple #[.agg #[.int .i64 (0), .int .i64 (0), .int .i64 (0)], .bool false, .int .i64 0]) (by simp [*, results, Try.results10, go_sem]) rfl ⟨rfl, ?_⟩
    repeat (first | (with_reducible refine Below.setCell ?_ (by simp) _) | (with_reducible refine me_drewn ?_))
    exact hB
  · by_cases c4 : 1073741823 - b < y
    · obtain ⟨e1, e2, e3, e4, e5⟩ := me_full h' (.inr c4)
      rw [e1, e2, e3, e4, e5]
      clear e1 e2 e3 e4 e5 h'
      go_enter Try.func10, Try.ntmps10
      go_wp2_with (first
          | (go_at_call 15; (with_reducible refine (HM.out _).mono ?_); rintro e w1 ⟨rfl, hb⟩; obtain ⟨ka, kr, hB⟩ := me_two hb; clear hb; have ea := ka.cell; have ga := ka.froz; have la := ka.lt; have er := kr.cell; have gr := kr.froz; have lr := kr.lt)
          | (go_at_call 16; first
            | ((with_reducible refine (rmenum _ _ ht _).mono ?_); rintro e w2 ⟨rfl, rfl⟩)
            | ((with_reducible refine (rmenum _ _ hy _).mono ?_); rintro e w2 ⟨rfl, rfl⟩)
            | ((with_reducible refine (rmenum _ _ hu _).mono ?_); rintro e w2 ⟨rfl, rfl⟩)
            | ((with_reducible refine (rmenum _ _ hq _).mono ?_); rintro e w2 ⟨rfl, rfl⟩)))
      refine bodyPost_ret (v := .tuple #[.agg #[.int .i64 (0), .int .i64 (0), .int .i64 (0)], .bool false, .int .i64 0]) (by simp [*, results, Try.results10, go_sem]) rfl ⟨rfl, ?_⟩
      repeat (first | (with_reducible refine Below.setCell ?_ (by simp) _) | (with_reducible refine me_drewn ?_))
      exact hB
    · obtain ⟨e1, e2, e3, e4, e5⟩ := me_yes h' (by omega) (by omega)
      rw [e1, e2, e3, e4, e5]
      clear e1 e2 e3 e4 e5 h'
      go_enter Try.func10, Try.ntmps10
      go_wp2_with (first
          | (go_at_call 15; (with_reducible refine (HM.out _).mono ?_); rintro e w1 ⟨rfl, hb⟩; obtain ⟨ka, kr, hB⟩ := me_two hb; clear hb; have ea := ka.cell; have ga := ka.froz; have la := ka.lt; have er := kr.cell; have gr := kr.froz; have lr := kr.lt)
          | (go_at_call 16; first
            | ((with_reducible refine (rmenum _ _ ht _).mono ?_); rintro e w2 ⟨rfl, rfl⟩)
            | ((with_reducible refine (rmenum _ _ hy _).mono ?_); rintro e w2 ⟨rfl, rfl⟩)
            | ((with_reducible refine (rmenum _ _ hu _).mono ?_); rintro e w2 ⟨rfl, rfl⟩)
            | ((with_reducible refine (rmenum _ _ hq _).mono ?_); rintro e w2 ⟨rfl, rfl⟩)))
      refine bodyPost_ret (v := .tuple #[.agg #[.int .i64 (s), .int .i64 (t), .int .i64 (b + y)], .bool true, .int .i64 0]) (by simp [*, results, Try.results10, go_sem]) rfl ⟨rfl, ?_⟩
      repeat (first | (with_reducible refine Below.setCell ?_ (by simp) _) | (with_reducible refine me_drewn ?_))
      exact hB
theorem rdeliver (s l b t y u q : Int) (w : World) : Calls Try.prog 10 #[.agg (meA s l b), .int .i64 t, .int .i64 y, .int .i64 u, .int .i64 q] w fun e w' => e = .returned (.tuple #[.agg #[.int .i64 (meS s l b t y u q), .int .i64 (meL s l b t y u q), .int .i64 (meB s l b t y u q)], .bool (meG s l b t y u q), .int .i64 (meE s l b t y u q)]) ∧ Below w.heap.size w w' := by
  cases h : meOk s l b t y u q with
  | true => exact rdeliver_ok s l b t y u q w h
  | false => exact rdeliver_no s l b t y u q w h
end Go.Proofs.Ytjkcimeeagmmeaa
