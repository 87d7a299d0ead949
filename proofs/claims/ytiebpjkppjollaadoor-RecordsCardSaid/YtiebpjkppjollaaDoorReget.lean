/- The reference's GetEvent answers what stands in its bytes. No condition but their size. -/
import Derived.Test.YtiebpjkppjollaaDoorBrb
namespace Go.Proofs.YtiebpjkppjollaaDoor
open Go Go.RowKit

theorem reget_of {t : ByteArray} (y : List Fld × Int × Bool) (p : Ev) (hy : rdF t (rnA t 0 false) (rnB t 0 false) (Ev.sh (rnX t 0 false)) = y) (hp : Ev.mk' (.n (rnX t 0 false) :: y.1) = p) :
    (y.2.2 = true ∨ y.2.1 ≠ t.size ∨ p.may = false → Ev.getP t = Ev.zero ∧ Ev.getE t = 700) ∧ (y.2.2 = false → y.2.1 = t.size → p.may = true → Ev.getP t = p ∧ Ev.getE t = 0) := by
  have h := getK_flag (mk := Ev.mk') (may := Ev.may) y hy
  rw [hp] at h
  have h' : Ev.get t = if y.2.2 = false ∧ y.2.1 = t.size ∧ p.may = true then some p else none := h
  unfold Ev.getP Ev.getE
  rw [h']
  refine ⟨fun c => ?_, fun c1 c2 c3 => ?_⟩
  · rw [if_neg (by rintro ⟨d1, d2, d3⟩; rcases c with c | c | c
                   · rw [d1] at c; cases c
                   · exact c d2
                   · rw [d3] at c; cases c)]
    exact ⟨rfl, rfl⟩
  · rw [if_pos ⟨c1, c2, c3⟩]
    exact ⟨rfl, rfl⟩

set_option maxRecDepth 100000 in
set_option maxHeartbeats 8000000 in
theorem reget_0 (s : ByteArray) (w : World) (hs : s.size ≤ 9223372036854770000) (hk : rnX s 0 false = 0) :
    Calls Tryd.prog 46 #[.string s] w fun e w' => e = .returned (.tuple #[(Ev.getP s).val, .int .i64 (Ev.getE s)]) ∧ Below w.heap.size w w' := by
  have hy := reget_of (t := s) ([.n (rnX s (rnA s 0 false) (rnB s 0 false))], (rnA s (rnA s 0 false) (rnB s 0 false)), (rnB s (rnA s 0 false) (rnB s 0 false))) ⟨0, 0, 0, 0, 0, 0, 0, (rnX s (rnA s 0 false) (rnB s 0 false))⟩ (by simp only [hk]; rfl) (by simp only [hk]; rfl)
  have h1 := fun X q => rdnum2 s 0 false 88 hs (by omega) (by omega) X q
  rw [hk] at h1
  obtain ⟨x1, y1⟩ := rnA_bd (s := s) (a := 0) (b := false) (by omega) (by omega)
  generalize rnA s 0 false = a1 at *
  generalize rnB s 0 false = b1 at *
  have h2 := fun X q P => rdnum3 s a1 b1 88 hs x1 y1 X q P
  obtain ⟨x2, y2⟩ := rnA_bd (s := s) (a := a1) (b := b1) x1 y1
  generalize rnX s a1 b1 = v2 at *
  generalize rnA s a1 b1 = a2 at *
  generalize rnB s a1 b1 = b2 at *
  have H1 := Lib.hid h1
  have H2 := Lib.hid h2
  clear h1 h2
  cases b2 with
  | true =>
    obtain ⟨e1, e2⟩ := hy.1 (.inl rfl)
    rw [e1, e2]
    unfold Ev.zero Ev.val
    clear hy e1 e2
    have hdr : ∀ (w : World) n a v, (w.drewN n).setCell a v = (w.setCell a v).drewN n := fun _ _ _ _ => rfl
    go_enter Tryd.func46, Tryd.ntmps46
    go_wp2_with (first | (go_at_call 44; first | ((with_reducible refine (H1.out _ _ (by simp)).mono ?_); rintro e w1 ⟨rfl, m1, rfl⟩) | ((with_reducible refine (H2.out _ _ _ (by simp)).mono ?_); rintro e w1 ⟨rfl, m2, rfl⟩)))
    exact bodyPost_ret (v := .tuple #[.agg #[.int .i64 0, .int .i64 0, .int .i64 0, .int .i64 0, .int .i64 0, .int .i64 0, .int .i64 0, .int .i64 0], .int .i64 700]) (by simp [results, Tryd.results46, go_sem]) rfl ⟨rfl, below_two _ _ _ _ _⟩
  | false =>
    by_cases hz : a2 = s.size
    · have HM := Lib.hid (fun w => remay (Ev.mk 0 0 0 0 0 0 0 v2) w)
      have hz1 : (a2 == (s.size : Int)) = true := by simpa using hz
      cases hm : (Ev.mk 0 0 0 0 0 0 0 v2).may with
      | false =>
        obtain ⟨e1, e2⟩ := hy.1 (.inr (.inr hm))
        rw [e1, e2]
        rw [hm] at HM
        unfold Ev.zero Ev.val
        unfold Ev.val at HM
        clear hy e1 e2 hm
        have hdr : ∀ (w : World) n a v, (w.drewN n).setCell a v = (w.setCell a v).drewN n := fun _ _ _ _ => rfl
        go_enter Tryd.func46, Tryd.ntmps46
        go_wp2_with (first | (go_at_call 44; first | ((with_reducible refine (H1.out _ _ (by simp)).mono ?_); rintro e w1 ⟨rfl, m1, rfl⟩) | ((with_reducible refine (H2.out _ _ _ (by simp)).mono ?_); rintro e w1 ⟨rfl, m2, rfl⟩)) | (go_at_call 58; (with_reducible refine (HM.out _).mono ?_); rintro e w1 ⟨rfl, hb⟩; have hB := below_after (below_two _ _ _ _ _) hb; obtain ⟨hc, hf⟩ := bcellX hb; have hr := res_after hb; clear hb))
        exact bodyPost_ret (v := .tuple #[.agg #[.int .i64 0, .int .i64 0, .int .i64 0, .int .i64 0, .int .i64 0, .int .i64 0, .int .i64 0, .int .i64 0], .int .i64 700]) (by simp [results, Tryd.results46, go_sem, hr]) rfl ⟨rfl, (by (repeat (with_reducible refine Below.setCell ?_ (by simp) _)); exact hB)⟩
      | true =>
        obtain ⟨e1, e2⟩ := hy.2 rfl hz hm
        rw [e1, e2]
        rw [hm] at HM
        unfold Ev.val
        unfold Ev.val at HM
        clear hy e1 e2 hm
        have hdr : ∀ (w : World) n a v, (w.drewN n).setCell a v = (w.setCell a v).drewN n := fun _ _ _ _ => rfl
        go_enter Tryd.func46, Tryd.ntmps46
        go_wp2_with (first | (go_at_call 44; first | ((with_reducible refine (H1.out _ _ (by simp)).mono ?_); rintro e w1 ⟨rfl, m1, rfl⟩) | ((with_reducible refine (H2.out _ _ _ (by simp)).mono ?_); rintro e w1 ⟨rfl, m2, rfl⟩)) | (go_at_call 58; (with_reducible refine (HM.out _).mono ?_); rintro e w1 ⟨rfl, hb⟩; have hB := below_after (below_two _ _ _ _ _) hb; obtain ⟨hc, hf⟩ := bcellX hb; have hr := res_after hb; clear hb))
        exact bodyPost_ret (v := .tuple #[.agg #[.int .i64 0, .int .i64 0, .int .i64 0, .int .i64 0, .int .i64 0, .int .i64 0, .int .i64 0, .int .i64 v2], .int .i64 0]) (by simp [results, Tryd.results46, go_sem, hr]) rfl ⟨rfl, (by (repeat (with_reducible refine Below.setCell ?_ (by simp) _)); exact hB)⟩
    · have hz1 : (a2 == (s.size : Int)) = false := by simpa using hz
      have hz2 : (a2 != (s.size : Int)) = true := by simpa using hz
      obtain ⟨e1, e2⟩ := hy.1 (.inr (.inl hz))
      rw [e1, e2]
      unfold Ev.zero Ev.val
      clear hy e1 e2 hz
      have hdr : ∀ (w : World) n a v, (w.drewN n).setCell a v = (w.setCell a v).drewN n := fun _ _ _ _ => rfl
      go_enter Tryd.func46, Tryd.ntmps46
      go_wp2_with (first | (go_at_call 44; first | ((with_reducible refine (H1.out _ _ (by simp)).mono ?_); rintro e w1 ⟨rfl, m1, rfl⟩) | ((with_reducible refine (H2.out _ _ _ (by simp)).mono ?_); rintro e w1 ⟨rfl, m2, rfl⟩)))
      exact bodyPost_ret (v := .tuple #[.agg #[.int .i64 0, .int .i64 0, .int .i64 0, .int .i64 0, .int .i64 0, .int .i64 0, .int .i64 0, .int .i64 0], .int .i64 700]) (by simp [results, Tryd.results46, go_sem]) rfl ⟨rfl, below_two _ _ _ _ _⟩

set_option maxRecDepth 100000 in
set_option maxHeartbeats 8000000 in
theorem reget_1 (s : ByteArray) (w : World) (hs : s.size ≤ 9223372036854770000) (hk : rnX s 0 false = 1) :
    Calls Tryd.prog 46 #[.string s] w fun e w' => e = .returned (.tuple #[(Ev.getP s).val, .int .i64 (Ev.getE s)]) ∧ Below w.heap.size w w' := by
  have hy := reget_of (t := s) ([.n (rnX s (rnA s 0 false) (rnB s 0 false)), .n (rnX s (rnA s (rnA s 0 false) (rnB s 0 false)) (rnB s (rnA s 0 false) (rnB s 0 false))), .n (rnX s (rnA s (rnA s (rnA s 0 false) (rnB s 0 false)) (rnB s (rnA s 0 false) (rnB s 0 false))) (rnB s (rnA s (rnA s 0 false) (rnB s 0 false)) (rnB s (rnA s 0 false) (rnB s 0 false)))), .n (rnX s (rnA s (rnA s (rnA s (rnA s 0 false) (rnB s 0 false)) (rnB s (rnA s 0 false) (rnB s 0 false))) (rnB s (rnA s (rnA s 0 false) (rnB s 0 false)) (rnB s (rnA s 0 false) (rnB s 0 false)))) (rnB s (rnA s (rnA s (rnA s 0 false) (rnB s 0 false)) (rnB s (rnA s 0 false) (rnB s 0 false))) (rnB s (rnA s (rnA s 0 false) (rnB s 0 false)) (rnB s (rnA s 0 false) (rnB s 0 false)))))], (rnA s (rnA s (rnA s (rnA s (rnA s 0 false) (rnB s 0 false)) (rnB s (rnA s 0 false) (rnB s 0 false))) (rnB s (rnA s (rnA s 0 false) (rnB s 0 false)) (rnB s (rnA s 0 false) (rnB s 0 false)))) (rnB s (rnA s (rnA s (rnA s 0 false) (rnB s 0 false)) (rnB s (rnA s 0 false) (rnB s 0 false))) (rnB s (rnA s (rnA s 0 false) (rnB s 0 false)) (rnB s (rnA s 0 false) (rnB s 0 false))))), (rnB s (rnA s (rnA s (rnA s (rnA s 0 false) (rnB s 0 false)) (rnB s (rnA s 0 false) (rnB s 0 false))) (rnB s (rnA s (rnA s 0 false) (rnB s 0 false)) (rnB s (rnA s 0 false) (rnB s 0 false)))) (rnB s (rnA s (rnA s (rnA s 0 false) (rnB s 0 false)) (rnB s (rnA s 0 false) (rnB s 0 false))) (rnB s (rnA s (rnA s 0 false) (rnB s 0 false)) (rnB s (rnA s 0 false) (rnB s 0 false)))))) ⟨1, (rnX s (rnA s 0 false) (rnB s 0 false)), 0, 0, (rnX s (rnA s (rnA s 0 false) (rnB s 0 false)) (rnB s (rnA s 0 false) (rnB s 0 false))), (rnX s (rnA s (rnA s (rnA s 0 false) (rnB s 0 false)) (rnB s (rnA s 0 false) (rnB s 0 false))) (rnB s (rnA s (rnA s 0 false) (rnB s 0 false)) (rnB s (rnA s 0 false) (rnB s 0 false)))), (rnX s (rnA s (rnA s (rnA s (rnA s 0 false) (rnB s 0 false)) (rnB s (rnA s 0 false) (rnB s 0 false))) (rnB s (rnA s (rnA s 0 false) (rnB s 0 false)) (rnB s (rnA s 0 false) (rnB s 0 false)))) (rnB s (rnA s (rnA s (rnA s 0 false) (rnB s 0 false)) (rnB s (rnA s 0 false) (rnB s 0 false))) (rnB s (rnA s (rnA s 0 false) (rnB s 0 false)) (rnB s (rnA s 0 false) (rnB s 0 false))))), 0⟩ (by simp only [hk]; rfl) (by simp only [hk]; rfl)
  have h1 := fun X q => rdnum2 s 0 false 88 hs (by omega) (by omega) X q
  rw [hk] at h1
  obtain ⟨x1, y1⟩ := rnA_bd (s := s) (a := 0) (b := false) (by omega) (by omega)
  generalize rnA s 0 false = a1 at *
  generalize rnB s 0 false = b1 at *
  have h2 := fun X q P => rdnum3 s a1 b1 88 hs x1 y1 X q P
  obtain ⟨x2, y2⟩ := rnA_bd (s := s) (a := a1) (b := b1) x1 y1
  generalize rnX s a1 b1 = v2 at *
  generalize rnA s a1 b1 = a2 at *
  generalize rnB s a1 b1 = b2 at *
  have h3 := fun X q P => rdnum3 s a2 b2 88 hs x2 y2 X q P
  obtain ⟨x3, y3⟩ := rnA_bd (s := s) (a := a2) (b := b2) x2 y2
  generalize rnX s a2 b2 = v3 at *
  generalize rnA s a2 b2 = a3 at *
  generalize rnB s a2 b2 = b3 at *
  have h4 := fun X q P => rdnum3 s a3 b3 88 hs x3 y3 X q P
  obtain ⟨x4, y4⟩ := rnA_bd (s := s) (a := a3) (b := b3) x3 y3
  generalize rnX s a3 b3 = v4 at *
  generalize rnA s a3 b3 = a4 at *
  generalize rnB s a3 b3 = b4 at *
  have h5 := fun X q P => rdnum3 s a4 b4 88 hs x4 y4 X q P
  obtain ⟨x5, y5⟩ := rnA_bd (s := s) (a := a4) (b := b4) x4 y4
  generalize rnX s a4 b4 = v5 at *
  generalize rnA s a4 b4 = a5 at *
  generalize rnB s a4 b4 = b5 at *
  have H1 := Lib.hid h1
  have H2 := Lib.hid h2
  have H3 := Lib.hid h3
  have H4 := Lib.hid h4
  have H5 := Lib.hid h5
  clear h1 h2 h3 h4 h5
  cases b5 with
  | true =>
    obtain ⟨e1, e2⟩ := hy.1 (.inl rfl)
    rw [e1, e2]
    unfold Ev.zero Ev.val
    clear hy e1 e2
    have hdr : ∀ (w : World) n a v, (w.drewN n).setCell a v = (w.setCell a v).drewN n := fun _ _ _ _ => rfl
    go_enter Tryd.func46, Tryd.ntmps46
    go_wp2_with (first | (go_at_call 44; first | ((with_reducible refine (H1.out _ _ (by simp)).mono ?_); rintro e w1 ⟨rfl, m1, rfl⟩) | ((with_reducible refine (H2.out _ _ _ (by simp)).mono ?_); rintro e w1 ⟨rfl, m2, rfl⟩) | ((with_reducible refine (H3.out _ _ _ (by simp)).mono ?_); rintro e w1 ⟨rfl, m3, rfl⟩) | ((with_reducible refine (H4.out _ _ _ (by simp)).mono ?_); rintro e w1 ⟨rfl, m4, rfl⟩) | ((with_reducible refine (H5.out _ _ _ (by simp)).mono ?_); rintro e w1 ⟨rfl, m5, rfl⟩)))
    exact bodyPost_ret (v := .tuple #[.agg #[.int .i64 0, .int .i64 0, .int .i64 0, .int .i64 0, .int .i64 0, .int .i64 0, .int .i64 0, .int .i64 0], .int .i64 700]) (by simp [results, Tryd.results46, go_sem]) rfl ⟨rfl, below_two _ _ _ _ _⟩
  | false =>
    by_cases hz : a5 = s.size
    · have HM := Lib.hid (fun w => remay (Ev.mk 1 v2 0 0 v3 v4 v5 0) w)
      have hz1 : (a5 == (s.size : Int)) = true := by simpa using hz
      cases hm : (Ev.mk 1 v2 0 0 v3 v4 v5 0).may with
      | false =>
        obtain ⟨e1, e2⟩ := hy.1 (.inr (.inr hm))
        rw [e1, e2]
        rw [hm] at HM
        unfold Ev.zero Ev.val
        unfold Ev.val at HM
        clear hy e1 e2 hm
        have hdr : ∀ (w : World) n a v, (w.drewN n).setCell a v = (w.setCell a v).drewN n := fun _ _ _ _ => rfl
        go_enter Tryd.func46, Tryd.ntmps46
        go_wp2_with (first | (go_at_call 44; first | ((with_reducible refine (H1.out _ _ (by simp)).mono ?_); rintro e w1 ⟨rfl, m1, rfl⟩) | ((with_reducible refine (H2.out _ _ _ (by simp)).mono ?_); rintro e w1 ⟨rfl, m2, rfl⟩) | ((with_reducible refine (H3.out _ _ _ (by simp)).mono ?_); rintro e w1 ⟨rfl, m3, rfl⟩) | ((with_reducible refine (H4.out _ _ _ (by simp)).mono ?_); rintro e w1 ⟨rfl, m4, rfl⟩) | ((with_reducible refine (H5.out _ _ _ (by simp)).mono ?_); rintro e w1 ⟨rfl, m5, rfl⟩)) | (go_at_call 58; (with_reducible refine (HM.out _).mono ?_); rintro e w1 ⟨rfl, hb⟩; have hB := below_after (below_two _ _ _ _ _) hb; obtain ⟨hc, hf⟩ := bcellX hb; have hr := res_after hb; clear hb))
        exact bodyPost_ret (v := .tuple #[.agg #[.int .i64 0, .int .i64 0, .int .i64 0, .int .i64 0, .int .i64 0, .int .i64 0, .int .i64 0, .int .i64 0], .int .i64 700]) (by simp [results, Tryd.results46, go_sem, hr]) rfl ⟨rfl, (by (repeat (with_reducible refine Below.setCell ?_ (by simp) _)); exact hB)⟩
      | true =>
        obtain ⟨e1, e2⟩ := hy.2 rfl hz hm
        rw [e1, e2]
        rw [hm] at HM
        unfold Ev.val
        unfold Ev.val at HM
        clear hy e1 e2 hm
        have hdr : ∀ (w : World) n a v, (w.drewN n).setCell a v = (w.setCell a v).drewN n := fun _ _ _ _ => rfl
        go_enter Tryd.func46, Tryd.ntmps46
        go_wp2_with (first | (go_at_call 44; first | ((with_reducible refine (H1.out _ _ (by simp)).mono ?_); rintro e w1 ⟨rfl, m1, rfl⟩) | ((with_reducible refine (H2.out _ _ _ (by simp)).mono ?_); rintro e w1 ⟨rfl, m2, rfl⟩) | ((with_reducible refine (H3.out _ _ _ (by simp)).mono ?_); rintro e w1 ⟨rfl, m3, rfl⟩) | ((with_reducible refine (H4.out _ _ _ (by simp)).mono ?_); rintro e w1 ⟨rfl, m4, rfl⟩) | ((with_reducible refine (H5.out _ _ _ (by simp)).mono ?_); rintro e w1 ⟨rfl, m5, rfl⟩)) | (go_at_call 58; (with_reducible refine (HM.out _).mono ?_); rintro e w1 ⟨rfl, hb⟩; have hB := below_after (below_two _ _ _ _ _) hb; obtain ⟨hc, hf⟩ := bcellX hb; have hr := res_after hb; clear hb))
        exact bodyPost_ret (v := .tuple #[.agg #[.int .i64 1, .int .i64 v2, .int .i64 0, .int .i64 0, .int .i64 v3, .int .i64 v4, .int .i64 v5, .int .i64 0], .int .i64 0]) (by simp [results, Tryd.results46, go_sem, hr]) rfl ⟨rfl, (by (repeat (with_reducible refine Below.setCell ?_ (by simp) _)); exact hB)⟩
    · have hz1 : (a5 == (s.size : Int)) = false := by simpa using hz
      have hz2 : (a5 != (s.size : Int)) = true := by simpa using hz
      obtain ⟨e1, e2⟩ := hy.1 (.inr (.inl hz))
      rw [e1, e2]
      unfold Ev.zero Ev.val
      clear hy e1 e2 hz
      have hdr : ∀ (w : World) n a v, (w.drewN n).setCell a v = (w.setCell a v).drewN n := fun _ _ _ _ => rfl
      go_enter Tryd.func46, Tryd.ntmps46
      go_wp2_with (first | (go_at_call 44; first | ((with_reducible refine (H1.out _ _ (by simp)).mono ?_); rintro e w1 ⟨rfl, m1, rfl⟩) | ((with_reducible refine (H2.out _ _ _ (by simp)).mono ?_); rintro e w1 ⟨rfl, m2, rfl⟩) | ((with_reducible refine (H3.out _ _ _ (by simp)).mono ?_); rintro e w1 ⟨rfl, m3, rfl⟩) | ((with_reducible refine (H4.out _ _ _ (by simp)).mono ?_); rintro e w1 ⟨rfl, m4, rfl⟩) | ((with_reducible refine (H5.out _ _ _ (by simp)).mono ?_); rintro e w1 ⟨rfl, m5, rfl⟩)))
      exact bodyPost_ret (v := .tuple #[.agg #[.int .i64 0, .int .i64 0, .int .i64 0, .int .i64 0, .int .i64 0, .int .i64 0, .int .i64 0, .int .i64 0], .int .i64 700]) (by simp [results, Tryd.results46, go_sem]) rfl ⟨rfl, below_two _ _ _ _ _⟩

set_option maxRecDepth 100000 in
set_option maxHeartbeats 8000000 in
theorem reget_2 (s : ByteArray) (w : World) (hs : s.size ≤ 9223372036854770000) (hk : rnX s 0 false = 2) :
    Calls Tryd.prog 46 #[.string s] w fun e w' => e = .returned (.tuple #[(Ev.getP s).val, .int .i64 (Ev.getE s)]) ∧ Below w.heap.size w w' := by
  have hy := reget_of (t := s) ([.n (rnX s (rnA s 0 false) (rnB s 0 false)), .n (rnX s (rnA s (rnA s 0 false) (rnB s 0 false)) (rnB s (rnA s 0 false) (rnB s 0 false)))], (rnA s (rnA s (rnA s 0 false) (rnB s 0 false)) (rnB s (rnA s 0 false) (rnB s 0 false))), (rnB s (rnA s (rnA s 0 false) (rnB s 0 false)) (rnB s (rnA s 0 false) (rnB s 0 false)))) ⟨2, (rnX s (rnA s 0 false) (rnB s 0 false)), 0, 0, 0, 0, 0, (rnX s (rnA s (rnA s 0 false) (rnB s 0 false)) (rnB s (rnA s 0 false) (rnB s 0 false)))⟩ (by simp only [hk]; rfl) (by simp only [hk]; rfl)
  have h1 := fun X q => rdnum2 s 0 false 88 hs (by omega) (by omega) X q
  rw [hk] at h1
  obtain ⟨x1, y1⟩ := rnA_bd (s := s) (a := 0) (b := false) (by omega) (by omega)
  generalize rnA s 0 false = a1 at *
  generalize rnB s 0 false = b1 at *
  have h2 := fun X q P => rdnum3 s a1 b1 88 hs x1 y1 X q P
  obtain ⟨x2, y2⟩ := rnA_bd (s := s) (a := a1) (b := b1) x1 y1
  generalize rnX s a1 b1 = v2 at *
  generalize rnA s a1 b1 = a2 at *
  generalize rnB s a1 b1 = b2 at *
  have h3 := fun X q P => rdnum3 s a2 b2 88 hs x2 y2 X q P
  obtain ⟨x3, y3⟩ := rnA_bd (s := s) (a := a2) (b := b2) x2 y2
  generalize rnX s a2 b2 = v3 at *
  generalize rnA s a2 b2 = a3 at *
  generalize rnB s a2 b2 = b3 at *
  have H1 := Lib.hid h1
  have H2 := Lib.hid h2
  have H3 := Lib.hid h3
  clear h1 h2 h3
  cases b3 with
  | true =>
    obtain ⟨e1, e2⟩ := hy.1 (.inl rfl)
    rw [e1, e2]
    unfold Ev.zero Ev.val
    clear hy e1 e2
    have hdr : ∀ (w : World) n a v, (w.drewN n).setCell a v = (w.setCell a v).drewN n := fun _ _ _ _ => rfl
    go_enter Tryd.func46, Tryd.ntmps46
    go_wp2_with (first | (go_at_call 44; first | ((with_reducible refine (H1.out _ _ (by simp)).mono ?_); rintro e w1 ⟨rfl, m1, rfl⟩) | ((with_reducible refine (H2.out _ _ _ (by simp)).mono ?_); rintro e w1 ⟨rfl, m2, rfl⟩) | ((with_reducible refine (H3.out _ _ _ (by simp)).mono ?_); rintro e w1 ⟨rfl, m3, rfl⟩)))
    exact bodyPost_ret (v := .tuple #[.agg #[.int .i64 0, .int .i64 0, .int .i64 0, .int .i64 0, .int .i64 0, .int .i64 0, .int .i64 0, .int .i64 0], .int .i64 700]) (by simp [results, Tryd.results46, go_sem]) rfl ⟨rfl, below_two _ _ _ _ _⟩
  | false =>
    by_cases hz : a3 = s.size
    · have HM := Lib.hid (fun w => remay (Ev.mk 2 v2 0 0 0 0 0 v3) w)
      have hz1 : (a3 == (s.size : Int)) = true := by simpa using hz
      cases hm : (Ev.mk 2 v2 0 0 0 0 0 v3).may with
      | false =>
        obtain ⟨e1, e2⟩ := hy.1 (.inr (.inr hm))
        rw [e1, e2]
        rw [hm] at HM
        unfold Ev.zero Ev.val
        unfold Ev.val at HM
        clear hy e1 e2 hm
        have hdr : ∀ (w : World) n a v, (w.drewN n).setCell a v = (w.setCell a v).drewN n := fun _ _ _ _ => rfl
        go_enter Tryd.func46, Tryd.ntmps46
        go_wp2_with (first | (go_at_call 44; first | ((with_reducible refine (H1.out _ _ (by simp)).mono ?_); rintro e w1 ⟨rfl, m1, rfl⟩) | ((with_reducible refine (H2.out _ _ _ (by simp)).mono ?_); rintro e w1 ⟨rfl, m2, rfl⟩) | ((with_reducible refine (H3.out _ _ _ (by simp)).mono ?_); rintro e w1 ⟨rfl, m3, rfl⟩)) | (go_at_call 58; (with_reducible refine (HM.out _).mono ?_); rintro e w1 ⟨rfl, hb⟩; have hB := below_after (below_two _ _ _ _ _) hb; obtain ⟨hc, hf⟩ := bcellX hb; have hr := res_after hb; clear hb))
        exact bodyPost_ret (v := .tuple #[.agg #[.int .i64 0, .int .i64 0, .int .i64 0, .int .i64 0, .int .i64 0, .int .i64 0, .int .i64 0, .int .i64 0], .int .i64 700]) (by simp [results, Tryd.results46, go_sem, hr]) rfl ⟨rfl, (by (repeat (with_reducible refine Below.setCell ?_ (by simp) _)); exact hB)⟩
      | true =>
        obtain ⟨e1, e2⟩ := hy.2 rfl hz hm
        rw [e1, e2]
        rw [hm] at HM
        unfold Ev.val
        unfold Ev.val at HM
        clear hy e1 e2 hm
        have hdr : ∀ (w : World) n a v, (w.drewN n).setCell a v = (w.setCell a v).drewN n := fun _ _ _ _ => rfl
        go_enter Tryd.func46, Tryd.ntmps46
        go_wp2_with (first | (go_at_call 44; first | ((with_reducible refine (H1.out _ _ (by simp)).mono ?_); rintro e w1 ⟨rfl, m1, rfl⟩) | ((with_reducible refine (H2.out _ _ _ (by simp)).mono ?_); rintro e w1 ⟨rfl, m2, rfl⟩) | ((with_reducible refine (H3.out _ _ _ (by simp)).mono ?_); rintro e w1 ⟨rfl, m3, rfl⟩)) | (go_at_call 58; (with_reducible refine (HM.out _).mono ?_); rintro e w1 ⟨rfl, hb⟩; have hB := below_after (below_two _ _ _ _ _) hb; obtain ⟨hc, hf⟩ := bcellX hb; have hr := res_after hb; clear hb))
        exact bodyPost_ret (v := .tuple #[.agg #[.int .i64 2, .int .i64 v2, .int .i64 0, .int .i64 0, .int .i64 0, .int .i64 0, .int .i64 0, .int .i64 v3], .int .i64 0]) (by simp [results, Tryd.results46, go_sem, hr]) rfl ⟨rfl, (by (repeat (with_reducible refine Below.setCell ?_ (by simp) _)); exact hB)⟩
    · have hz1 : (a3 == (s.size : Int)) = false := by simpa using hz
      have hz2 : (a3 != (s.size : Int)) = true := by simpa using hz
      obtain ⟨e1, e2⟩ := hy.1 (.inr (.inl hz))
      rw [e1, e2]
      unfold Ev.zero Ev.val
      clear hy e1 e2 hz
      have hdr : ∀ (w : World) n a v, (w.drewN n).setCell a v = (w.setCell a v).drewN n := fun _ _ _ _ => rfl
      go_enter Tryd.func46, Tryd.ntmps46
      go_wp2_with (first | (go_at_call 44; first | ((with_reducible refine (H1.out _ _ (by simp)).mono ?_); rintro e w1 ⟨rfl, m1, rfl⟩) | ((with_reducible refine (H2.out _ _ _ (by simp)).mono ?_); rintro e w1 ⟨rfl, m2, rfl⟩) | ((with_reducible refine (H3.out _ _ _ (by simp)).mono ?_); rintro e w1 ⟨rfl, m3, rfl⟩)))
      exact bodyPost_ret (v := .tuple #[.agg #[.int .i64 0, .int .i64 0, .int .i64 0, .int .i64 0, .int .i64 0, .int .i64 0, .int .i64 0, .int .i64 0], .int .i64 700]) (by simp [results, Tryd.results46, go_sem]) rfl ⟨rfl, below_two _ _ _ _ _⟩

set_option maxRecDepth 100000 in
set_option maxHeartbeats 8000000 in
theorem reget_3 (s : ByteArray) (w : World) (hs : s.size ≤ 9223372036854770000) (hk : rnX s 0 false = 3) :
    Calls Tryd.prog 46 #[.string s] w fun e w' => e = .returned (.tuple #[(Ev.getP s).val, .int .i64 (Ev.getE s)]) ∧ Below w.heap.size w w' := by
  have hy := reget_of (t := s) ([.n (rnX s (rnA s 0 false) (rnB s 0 false)), .n (rnX s (rnA s (rnA s 0 false) (rnB s 0 false)) (rnB s (rnA s 0 false) (rnB s 0 false)))], (rnA s (rnA s (rnA s 0 false) (rnB s 0 false)) (rnB s (rnA s 0 false) (rnB s 0 false))), (rnB s (rnA s (rnA s 0 false) (rnB s 0 false)) (rnB s (rnA s 0 false) (rnB s 0 false)))) ⟨3, (rnX s (rnA s 0 false) (rnB s 0 false)), 0, 0, (rnX s (rnA s (rnA s 0 false) (rnB s 0 false)) (rnB s (rnA s 0 false) (rnB s 0 false))), 0, 0, 0⟩ (by simp only [hk]; rfl) (by simp only [hk]; rfl)
  have h1 := fun X q => rdnum2 s 0 false 88 hs (by omega) (by omega) X q
  rw [hk] at h1
  obtain ⟨x1, y1⟩ := rnA_bd (s := s) (a := 0) (b := false) (by omega) (by omega)
  generalize rnA s 0 false = a1 at *
  generalize rnB s 0 false = b1 at *
  have h2 := fun X q P => rdnum3 s a1 b1 88 hs x1 y1 X q P
  obtain ⟨x2, y2⟩ := rnA_bd (s := s) (a := a1) (b := b1) x1 y1
  generalize rnX s a1 b1 = v2 at *
  generalize rnA s a1 b1 = a2 at *
  generalize rnB s a1 b1 = b2 at *
  have h3 := fun X q P => rdnum3 s a2 b2 88 hs x2 y2 X q P
  obtain ⟨x3, y3⟩ := rnA_bd (s := s) (a := a2) (b := b2) x2 y2
  generalize rnX s a2 b2 = v3 at *
  generalize rnA s a2 b2 = a3 at *
  generalize rnB s a2 b2 = b3 at *
  have H1 := Lib.hid h1
  have H2 := Lib.hid h2
  have H3 := Lib.hid h3
  clear h1 h2 h3
  cases b3 with
  | true =>
    obtain ⟨e1, e2⟩ := hy.1 (.inl rfl)
    rw [e1, e2]
    unfold Ev.zero Ev.val
    clear hy e1 e2
    have hdr : ∀ (w : World) n a v, (w.drewN n).setCell a v = (w.setCell a v).drewN n := fun _ _ _ _ => rfl
    go_enter Tryd.func46, Tryd.ntmps46
    go_wp2_with (first | (go_at_call 44; first | ((with_reducible refine (H1.out _ _ (by simp)).mono ?_); rintro e w1 ⟨rfl, m1, rfl⟩) | ((with_reducible refine (H2.out _ _ _ (by simp)).mono ?_); rintro e w1 ⟨rfl, m2, rfl⟩) | ((with_reducible refine (H3.out _ _ _ (by simp)).mono ?_); rintro e w1 ⟨rfl, m3, rfl⟩)))
    exact bodyPost_ret (v := .tuple #[.agg #[.int .i64 0, .int .i64 0, .int .i64 0, .int .i64 0, .int .i64 0, .int .i64 0, .int .i64 0, .int .i64 0], .int .i64 700]) (by simp [results, Tryd.results46, go_sem]) rfl ⟨rfl, below_two _ _ _ _ _⟩
  | false =>
    by_cases hz : a3 = s.size
    · have HM := Lib.hid (fun w => remay (Ev.mk 3 v2 0 0 v3 0 0 0) w)
      have hz1 : (a3 == (s.size : Int)) = true := by simpa using hz
      cases hm : (Ev.mk 3 v2 0 0 v3 0 0 0).may with
      | false =>
        obtain ⟨e1, e2⟩ := hy.1 (.inr (.inr hm))
        rw [e1, e2]
        rw [hm] at HM
        unfold Ev.zero Ev.val
        unfold Ev.val at HM
        clear hy e1 e2 hm
        have hdr : ∀ (w : World) n a v, (w.drewN n).setCell a v = (w.setCell a v).drewN n := fun _ _ _ _ => rfl
        go_enter Tryd.func46, Tryd.ntmps46
        go_wp2_with (first | (go_at_call 44; first | ((with_reducible refine (H1.out _ _ (by simp)).mono ?_); rintro e w1 ⟨rfl, m1, rfl⟩) | ((with_reducible refine (H2.out _ _ _ (by simp)).mono ?_); rintro e w1 ⟨rfl, m2, rfl⟩) | ((with_reducible refine (H3.out _ _ _ (by simp)).mono ?_); rintro e w1 ⟨rfl, m3, rfl⟩)) | (go_at_call 58; (with_reducible refine (HM.out _).mono ?_); rintro e w1 ⟨rfl, hb⟩; have hB := below_after (below_two _ _ _ _ _) hb; obtain ⟨hc, hf⟩ := bcellX hb; have hr := res_after hb; clear hb))
        exact bodyPost_ret (v := .tuple #[.agg #[.int .i64 0, .int .i64 0, .int .i64 0, .int .i64 0, .int .i64 0, .int .i64 0, .int .i64 0, .int .i64 0], .int .i64 700]) (by simp [results, Tryd.results46, go_sem, hr]) rfl ⟨rfl, (by (repeat (with_reducible refine Below.setCell ?_ (by simp) _)); exact hB)⟩
      | true =>
        obtain ⟨e1, e2⟩ := hy.2 rfl hz hm
        rw [e1, e2]
        rw [hm] at HM
        unfold Ev.val
        unfold Ev.val at HM
        clear hy e1 e2 hm
        have hdr : ∀ (w : World) n a v, (w.drewN n).setCell a v = (w.setCell a v).drewN n := fun _ _ _ _ => rfl
        go_enter Tryd.func46, Tryd.ntmps46
        go_wp2_with (first | (go_at_call 44; first | ((with_reducible refine (H1.out _ _ (by simp)).mono ?_); rintro e w1 ⟨rfl, m1, rfl⟩) | ((with_reducible refine (H2.out _ _ _ (by simp)).mono ?_); rintro e w1 ⟨rfl, m2, rfl⟩) | ((with_reducible refine (H3.out _ _ _ (by simp)).mono ?_); rintro e w1 ⟨rfl, m3, rfl⟩)) | (go_at_call 58; (with_reducible refine (HM.out _).mono ?_); rintro e w1 ⟨rfl, hb⟩; have hB := below_after (below_two _ _ _ _ _) hb; obtain ⟨hc, hf⟩ := bcellX hb; have hr := res_after hb; clear hb))
        exact bodyPost_ret (v := .tuple #[.agg #[.int .i64 3, .int .i64 v2, .int .i64 0, .int .i64 0, .int .i64 v3, .int .i64 0, .int .i64 0, .int .i64 0], .int .i64 0]) (by simp [results, Tryd.results46, go_sem, hr]) rfl ⟨rfl, (by (repeat (with_reducible refine Below.setCell ?_ (by simp) _)); exact hB)⟩
    · have hz1 : (a3 == (s.size : Int)) = false := by simpa using hz
      have hz2 : (a3 != (s.size : Int)) = true := by simpa using hz
      obtain ⟨e1, e2⟩ := hy.1 (.inr (.inl hz))
      rw [e1, e2]
      unfold Ev.zero Ev.val
      clear hy e1 e2 hz
      have hdr : ∀ (w : World) n a v, (w.drewN n).setCell a v = (w.setCell a v).drewN n := fun _ _ _ _ => rfl
      go_enter Tryd.func46, Tryd.ntmps46
      go_wp2_with (first | (go_at_call 44; first | ((with_reducible refine (H1.out _ _ (by simp)).mono ?_); rintro e w1 ⟨rfl, m1, rfl⟩) | ((with_reducible refine (H2.out _ _ _ (by simp)).mono ?_); rintro e w1 ⟨rfl, m2, rfl⟩) | ((with_reducible refine (H3.out _ _ _ (by simp)).mono ?_); rintro e w1 ⟨rfl, m3, rfl⟩)))
      exact bodyPost_ret (v := .tuple #[.agg #[.int .i64 0, .int .i64 0, .int .i64 0, .int .i64 0, .int .i64 0, .int .i64 0, .int .i64 0, .int .i64 0], .int .i64 700]) (by simp [results, Tryd.results46, go_sem]) rfl ⟨rfl, below_two _ _ _ _ _⟩

set_option maxRecDepth 100000 in
set_option maxHeartbeats 8000000 in
theorem reget_4 (s : ByteArray) (w : World) (hs : s.size ≤ 9223372036854770000) (hk : rnX s 0 false = 4) :
    Calls Tryd.prog 46 #[.string s] w fun e w' => e = .returned (.tuple #[(Ev.getP s).val, .int .i64 (Ev.getE s)]) ∧ Below w.heap.size w w' := by
  have hy := reget_of (t := s) ([.n (rnX s (rnA s 0 false) (rnB s 0 false))], (rnA s (rnA s 0 false) (rnB s 0 false)), (rnB s (rnA s 0 false) (rnB s 0 false))) ⟨4, (rnX s (rnA s 0 false) (rnB s 0 false)), 0, 0, 0, 0, 0, 0⟩ (by simp only [hk]; rfl) (by simp only [hk]; rfl)
  have h1 := fun X q => rdnum2 s 0 false 88 hs (by omega) (by omega) X q
  rw [hk] at h1
  obtain ⟨x1, y1⟩ := rnA_bd (s := s) (a := 0) (b := false) (by omega) (by omega)
  generalize rnA s 0 false = a1 at *
  generalize rnB s 0 false = b1 at *
  have h2 := fun X q P => rdnum3 s a1 b1 88 hs x1 y1 X q P
  obtain ⟨x2, y2⟩ := rnA_bd (s := s) (a := a1) (b := b1) x1 y1
  generalize rnX s a1 b1 = v2 at *
  generalize rnA s a1 b1 = a2 at *
  generalize rnB s a1 b1 = b2 at *
  have H1 := Lib.hid h1
  have H2 := Lib.hid h2
  clear h1 h2
  cases b2 with
  | true =>
    obtain ⟨e1, e2⟩ := hy.1 (.inl rfl)
    rw [e1, e2]
    unfold Ev.zero Ev.val
    clear hy e1 e2
    have hdr : ∀ (w : World) n a v, (w.drewN n).setCell a v = (w.setCell a v).drewN n := fun _ _ _ _ => rfl
    go_enter Tryd.func46, Tryd.ntmps46
    go_wp2_with (first | (go_at_call 44; first | ((with_reducible refine (H1.out _ _ (by simp)).mono ?_); rintro e w1 ⟨rfl, m1, rfl⟩) | ((with_reducible refine (H2.out _ _ _ (by simp)).mono ?_); rintro e w1 ⟨rfl, m2, rfl⟩)))
    exact bodyPost_ret (v := .tuple #[.agg #[.int .i64 0, .int .i64 0, .int .i64 0, .int .i64 0, .int .i64 0, .int .i64 0, .int .i64 0, .int .i64 0], .int .i64 700]) (by simp [results, Tryd.results46, go_sem]) rfl ⟨rfl, below_two _ _ _ _ _⟩
  | false =>
    by_cases hz : a2 = s.size
    · have HM := Lib.hid (fun w => remay (Ev.mk 4 v2 0 0 0 0 0 0) w)
      have hz1 : (a2 == (s.size : Int)) = true := by simpa using hz
      cases hm : (Ev.mk 4 v2 0 0 0 0 0 0).may with
      | false =>
        obtain ⟨e1, e2⟩ := hy.1 (.inr (.inr hm))
        rw [e1, e2]
        rw [hm] at HM
        unfold Ev.zero Ev.val
        unfold Ev.val at HM
        clear hy e1 e2 hm
        have hdr : ∀ (w : World) n a v, (w.drewN n).setCell a v = (w.setCell a v).drewN n := fun _ _ _ _ => rfl
        go_enter Tryd.func46, Tryd.ntmps46
        go_wp2_with (first | (go_at_call 44; first | ((with_reducible refine (H1.out _ _ (by simp)).mono ?_); rintro e w1 ⟨rfl, m1, rfl⟩) | ((with_reducible refine (H2.out _ _ _ (by simp)).mono ?_); rintro e w1 ⟨rfl, m2, rfl⟩)) | (go_at_call 58; (with_reducible refine (HM.out _).mono ?_); rintro e w1 ⟨rfl, hb⟩; have hB := below_after (below_two _ _ _ _ _) hb; obtain ⟨hc, hf⟩ := bcellX hb; have hr := res_after hb; clear hb))
        exact bodyPost_ret (v := .tuple #[.agg #[.int .i64 0, .int .i64 0, .int .i64 0, .int .i64 0, .int .i64 0, .int .i64 0, .int .i64 0, .int .i64 0], .int .i64 700]) (by simp [results, Tryd.results46, go_sem, hr]) rfl ⟨rfl, (by (repeat (with_reducible refine Below.setCell ?_ (by simp) _)); exact hB)⟩
      | true =>
        obtain ⟨e1, e2⟩ := hy.2 rfl hz hm
        rw [e1, e2]
        rw [hm] at HM
        unfold Ev.val
        unfold Ev.val at HM
        clear hy e1 e2 hm
        have hdr : ∀ (w : World) n a v, (w.drewN n).setCell a v = (w.setCell a v).drewN n := fun _ _ _ _ => rfl
        go_enter Tryd.func46, Tryd.ntmps46
        go_wp2_with (first | (go_at_call 44; first | ((with_reducible refine (H1.out _ _ (by simp)).mono ?_); rintro e w1 ⟨rfl, m1, rfl⟩) | ((with_reducible refine (H2.out _ _ _ (by simp)).mono ?_); rintro e w1 ⟨rfl, m2, rfl⟩)) | (go_at_call 58; (with_reducible refine (HM.out _).mono ?_); rintro e w1 ⟨rfl, hb⟩; have hB := below_after (below_two _ _ _ _ _) hb; obtain ⟨hc, hf⟩ := bcellX hb; have hr := res_after hb; clear hb))
        exact bodyPost_ret (v := .tuple #[.agg #[.int .i64 4, .int .i64 v2, .int .i64 0, .int .i64 0, .int .i64 0, .int .i64 0, .int .i64 0, .int .i64 0], .int .i64 0]) (by simp [results, Tryd.results46, go_sem, hr]) rfl ⟨rfl, (by (repeat (with_reducible refine Below.setCell ?_ (by simp) _)); exact hB)⟩
    · have hz1 : (a2 == (s.size : Int)) = false := by simpa using hz
      have hz2 : (a2 != (s.size : Int)) = true := by simpa using hz
      obtain ⟨e1, e2⟩ := hy.1 (.inr (.inl hz))
      rw [e1, e2]
      unfold Ev.zero Ev.val
      clear hy e1 e2 hz
      have hdr : ∀ (w : World) n a v, (w.drewN n).setCell a v = (w.setCell a v).drewN n := fun _ _ _ _ => rfl
      go_enter Tryd.func46, Tryd.ntmps46
      go_wp2_with (first | (go_at_call 44; first | ((with_reducible refine (H1.out _ _ (by simp)).mono ?_); rintro e w1 ⟨rfl, m1, rfl⟩) | ((with_reducible refine (H2.out _ _ _ (by simp)).mono ?_); rintro e w1 ⟨rfl, m2, rfl⟩)))
      exact bodyPost_ret (v := .tuple #[.agg #[.int .i64 0, .int .i64 0, .int .i64 0, .int .i64 0, .int .i64 0, .int .i64 0, .int .i64 0, .int .i64 0], .int .i64 700]) (by simp [results, Tryd.results46, go_sem]) rfl ⟨rfl, below_two _ _ _ _ _⟩

set_option maxRecDepth 100000 in
set_option maxHeartbeats 8000000 in
theorem reget_5 (s : ByteArray) (w : World) (hs : s.size ≤ 9223372036854770000) (hk : rnX s 0 false = 5) :
    Calls Tryd.prog 46 #[.string s] w fun e w' => e = .returned (.tuple #[(Ev.getP s).val, .int .i64 (Ev.getE s)]) ∧ Below w.heap.size w w' := by
  have hy := reget_of (t := s) ([.n (rnX s (rnA s 0 false) (rnB s 0 false)), .n (rnX s (rnA s (rnA s 0 false) (rnB s 0 false)) (rnB s (rnA s 0 false) (rnB s 0 false))), .n (rnX s (rnA s (rnA s (rnA s 0 false) (rnB s 0 false)) (rnB s (rnA s 0 false) (rnB s 0 false))) (rnB s (rnA s (rnA s 0 false) (rnB s 0 false)) (rnB s (rnA s 0 false) (rnB s 0 false)))), .n (rnX s (rnA s (rnA s (rnA s (rnA s 0 false) (rnB s 0 false)) (rnB s (rnA s 0 false) (rnB s 0 false))) (rnB s (rnA s (rnA s 0 false) (rnB s 0 false)) (rnB s (rnA s 0 false) (rnB s 0 false)))) (rnB s (rnA s (rnA s (rnA s 0 false) (rnB s 0 false)) (rnB s (rnA s 0 false) (rnB s 0 false))) (rnB s (rnA s (rnA s 0 false) (rnB s 0 false)) (rnB s (rnA s 0 false) (rnB s 0 false)))))], (rnA s (rnA s (rnA s (rnA s (rnA s 0 false) (rnB s 0 false)) (rnB s (rnA s 0 false) (rnB s 0 false))) (rnB s (rnA s (rnA s 0 false) (rnB s 0 false)) (rnB s (rnA s 0 false) (rnB s 0 false)))) (rnB s (rnA s (rnA s (rnA s 0 false) (rnB s 0 false)) (rnB s (rnA s 0 false) (rnB s 0 false))) (rnB s (rnA s (rnA s 0 false) (rnB s 0 false)) (rnB s (rnA s 0 false) (rnB s 0 false))))), (rnB s (rnA s (rnA s (rnA s (rnA s 0 false) (rnB s 0 false)) (rnB s (rnA s 0 false) (rnB s 0 false))) (rnB s (rnA s (rnA s 0 false) (rnB s 0 false)) (rnB s (rnA s 0 false) (rnB s 0 false)))) (rnB s (rnA s (rnA s (rnA s 0 false) (rnB s 0 false)) (rnB s (rnA s 0 false) (rnB s 0 false))) (rnB s (rnA s (rnA s 0 false) (rnB s 0 false)) (rnB s (rnA s 0 false) (rnB s 0 false)))))) ⟨5, (rnX s (rnA s (rnA s 0 false) (rnB s 0 false)) (rnB s (rnA s 0 false) (rnB s 0 false))), (rnX s (rnA s 0 false) (rnB s 0 false)), (rnX s (rnA s (rnA s (rnA s 0 false) (rnB s 0 false)) (rnB s (rnA s 0 false) (rnB s 0 false))) (rnB s (rnA s (rnA s 0 false) (rnB s 0 false)) (rnB s (rnA s 0 false) (rnB s 0 false)))), 0, 0, 0, (rnX s (rnA s (rnA s (rnA s (rnA s 0 false) (rnB s 0 false)) (rnB s (rnA s 0 false) (rnB s 0 false))) (rnB s (rnA s (rnA s 0 false) (rnB s 0 false)) (rnB s (rnA s 0 false) (rnB s 0 false)))) (rnB s (rnA s (rnA s (rnA s 0 false) (rnB s 0 false)) (rnB s (rnA s 0 false) (rnB s 0 false))) (rnB s (rnA s (rnA s 0 false) (rnB s 0 false)) (rnB s (rnA s 0 false) (rnB s 0 false)))))⟩ (by simp only [hk]; rfl) (by simp only [hk]; rfl)
  have h1 := fun X q => rdnum2 s 0 false 88 hs (by omega) (by omega) X q
  rw [hk] at h1
  obtain ⟨x1, y1⟩ := rnA_bd (s := s) (a := 0) (b := false) (by omega) (by omega)
  generalize rnA s 0 false = a1 at *
  generalize rnB s 0 false = b1 at *
  have h2 := fun X q P => rdnum3 s a1 b1 88 hs x1 y1 X q P
  obtain ⟨x2, y2⟩ := rnA_bd (s := s) (a := a1) (b := b1) x1 y1
  generalize rnX s a1 b1 = v2 at *
  generalize rnA s a1 b1 = a2 at *
  generalize rnB s a1 b1 = b2 at *
  have h3 := fun X q P => rdnum3 s a2 b2 88 hs x2 y2 X q P
  obtain ⟨x3, y3⟩ := rnA_bd (s := s) (a := a2) (b := b2) x2 y2
  generalize rnX s a2 b2 = v3 at *
  generalize rnA s a2 b2 = a3 at *
  generalize rnB s a2 b2 = b3 at *
  have h4 := fun X q P => rdnum3 s a3 b3 88 hs x3 y3 X q P
  obtain ⟨x4, y4⟩ := rnA_bd (s := s) (a := a3) (b := b3) x3 y3
  generalize rnX s a3 b3 = v4 at *
  generalize rnA s a3 b3 = a4 at *
  generalize rnB s a3 b3 = b4 at *
  have h5 := fun X q P => rdnum3 s a4 b4 88 hs x4 y4 X q P
  obtain ⟨x5, y5⟩ := rnA_bd (s := s) (a := a4) (b := b4) x4 y4
  generalize rnX s a4 b4 = v5 at *
  generalize rnA s a4 b4 = a5 at *
  generalize rnB s a4 b4 = b5 at *
  have H1 := Lib.hid h1
  have H2 := Lib.hid h2
  have H3 := Lib.hid h3
  have H4 := Lib.hid h4
  have H5 := Lib.hid h5
  clear h1 h2 h3 h4 h5
  cases b5 with
  | true =>
    obtain ⟨e1, e2⟩ := hy.1 (.inl rfl)
    rw [e1, e2]
    unfold Ev.zero Ev.val
    clear hy e1 e2
    have hdr : ∀ (w : World) n a v, (w.drewN n).setCell a v = (w.setCell a v).drewN n := fun _ _ _ _ => rfl
    go_enter Tryd.func46, Tryd.ntmps46
    go_wp2_with (first | (go_at_call 44; first | ((with_reducible refine (H1.out _ _ (by simp)).mono ?_); rintro e w1 ⟨rfl, m1, rfl⟩) | ((with_reducible refine (H2.out _ _ _ (by simp)).mono ?_); rintro e w1 ⟨rfl, m2, rfl⟩) | ((with_reducible refine (H3.out _ _ _ (by simp)).mono ?_); rintro e w1 ⟨rfl, m3, rfl⟩) | ((with_reducible refine (H4.out _ _ _ (by simp)).mono ?_); rintro e w1 ⟨rfl, m4, rfl⟩) | ((with_reducible refine (H5.out _ _ _ (by simp)).mono ?_); rintro e w1 ⟨rfl, m5, rfl⟩)))
    exact bodyPost_ret (v := .tuple #[.agg #[.int .i64 0, .int .i64 0, .int .i64 0, .int .i64 0, .int .i64 0, .int .i64 0, .int .i64 0, .int .i64 0], .int .i64 700]) (by simp [results, Tryd.results46, go_sem]) rfl ⟨rfl, below_two _ _ _ _ _⟩
  | false =>
    by_cases hz : a5 = s.size
    · have HM := Lib.hid (fun w => remay (Ev.mk 5 v3 v2 v4 0 0 0 v5) w)
      have hz1 : (a5 == (s.size : Int)) = true := by simpa using hz
      cases hm : (Ev.mk 5 v3 v2 v4 0 0 0 v5).may with
      | false =>
        obtain ⟨e1, e2⟩ := hy.1 (.inr (.inr hm))
        rw [e1, e2]
        rw [hm] at HM
        unfold Ev.zero Ev.val
        unfold Ev.val at HM
        clear hy e1 e2 hm
        have hdr : ∀ (w : World) n a v, (w.drewN n).setCell a v = (w.setCell a v).drewN n := fun _ _ _ _ => rfl
        go_enter Tryd.func46, Tryd.ntmps46
        go_wp2_with (first | (go_at_call 44; first | ((with_reducible refine (H1.out _ _ (by simp)).mono ?_); rintro e w1 ⟨rfl, m1, rfl⟩) | ((with_reducible refine (H2.out _ _ _ (by simp)).mono ?_); rintro e w1 ⟨rfl, m2, rfl⟩) | ((with_reducible refine (H3.out _ _ _ (by simp)).mono ?_); rintro e w1 ⟨rfl, m3, rfl⟩) | ((with_reducible refine (H4.out _ _ _ (by simp)).mono ?_); rintro e w1 ⟨rfl, m4, rfl⟩) | ((with_reducible refine (H5.out _ _ _ (by simp)).mono ?_); rintro e w1 ⟨rfl, m5, rfl⟩)) | (go_at_call 58; (with_reducible refine (HM.out _).mono ?_); rintro e w1 ⟨rfl, hb⟩; have hB := below_after (below_two _ _ _ _ _) hb; obtain ⟨hc, hf⟩ := bcellX hb; have hr := res_after hb; clear hb))
        exact bodyPost_ret (v := .tuple #[.agg #[.int .i64 0, .int .i64 0, .int .i64 0, .int .i64 0, .int .i64 0, .int .i64 0, .int .i64 0, .int .i64 0], .int .i64 700]) (by simp [results, Tryd.results46, go_sem, hr]) rfl ⟨rfl, (by (repeat (with_reducible refine Below.setCell ?_ (by simp) _)); exact hB)⟩
      | true =>
        obtain ⟨e1, e2⟩ := hy.2 rfl hz hm
        rw [e1, e2]
        rw [hm] at HM
        unfold Ev.val
        unfold Ev.val at HM
        clear hy e1 e2 hm
        have hdr : ∀ (w : World) n a v, (w.drewN n).setCell a v = (w.setCell a v).drewN n := fun _ _ _ _ => rfl
        go_enter Tryd.func46, Tryd.ntmps46
        go_wp2_with (first | (go_at_call 44; first | ((with_reducible refine (H1.out _ _ (by simp)).mono ?_); rintro e w1 ⟨rfl, m1, rfl⟩) | ((with_reducible refine (H2.out _ _ _ (by simp)).mono ?_); rintro e w1 ⟨rfl, m2, rfl⟩) | ((with_reducible refine (H3.out _ _ _ (by simp)).mono ?_); rintro e w1 ⟨rfl, m3, rfl⟩) | ((with_reducible refine (H4.out _ _ _ (by simp)).mono ?_); rintro e w1 ⟨rfl, m4, rfl⟩) | ((with_reducible refine (H5.out _ _ _ (by simp)).mono ?_); rintro e w1 ⟨rfl, m5, rfl⟩)) | (go_at_call 58; (with_reducible refine (HM.out _).mono ?_); rintro e w1 ⟨rfl, hb⟩; have hB := below_after (below_two _ _ _ _ _) hb; obtain ⟨hc, hf⟩ := bcellX hb; have hr := res_after hb; clear hb))
        exact bodyPost_ret (v := .tuple #[.agg #[.int .i64 5, .int .i64 v3, .int .i64 v2, .int .i64 v4, .int .i64 0, .int .i64 0, .int .i64 0, .int .i64 v5], .int .i64 0]) (by simp [results, Tryd.results46, go_sem, hr]) rfl ⟨rfl, (by (repeat (with_reducible refine Below.setCell ?_ (by simp) _)); exact hB)⟩
    · have hz1 : (a5 == (s.size : Int)) = false := by simpa using hz
      have hz2 : (a5 != (s.size : Int)) = true := by simpa using hz
      obtain ⟨e1, e2⟩ := hy.1 (.inr (.inl hz))
      rw [e1, e2]
      unfold Ev.zero Ev.val
      clear hy e1 e2 hz
      have hdr : ∀ (w : World) n a v, (w.drewN n).setCell a v = (w.setCell a v).drewN n := fun _ _ _ _ => rfl
      go_enter Tryd.func46, Tryd.ntmps46
      go_wp2_with (first | (go_at_call 44; first | ((with_reducible refine (H1.out _ _ (by simp)).mono ?_); rintro e w1 ⟨rfl, m1, rfl⟩) | ((with_reducible refine (H2.out _ _ _ (by simp)).mono ?_); rintro e w1 ⟨rfl, m2, rfl⟩) | ((with_reducible refine (H3.out _ _ _ (by simp)).mono ?_); rintro e w1 ⟨rfl, m3, rfl⟩) | ((with_reducible refine (H4.out _ _ _ (by simp)).mono ?_); rintro e w1 ⟨rfl, m4, rfl⟩) | ((with_reducible refine (H5.out _ _ _ (by simp)).mono ?_); rintro e w1 ⟨rfl, m5, rfl⟩)))
      exact bodyPost_ret (v := .tuple #[.agg #[.int .i64 0, .int .i64 0, .int .i64 0, .int .i64 0, .int .i64 0, .int .i64 0, .int .i64 0, .int .i64 0], .int .i64 700]) (by simp [results, Tryd.results46, go_sem]) rfl ⟨rfl, below_two _ _ _ _ _⟩

set_option maxRecDepth 100000 in
set_option maxHeartbeats 8000000 in
theorem reget_6 (s : ByteArray) (w : World) (hs : s.size ≤ 9223372036854770000) (hk : rnX s 0 false = 6) :
    Calls Tryd.prog 46 #[.string s] w fun e w' => e = .returned (.tuple #[(Ev.getP s).val, .int .i64 (Ev.getE s)]) ∧ Below w.heap.size w w' := by
  have hy := reget_of (t := s) ([.n (rnX s (rnA s 0 false) (rnB s 0 false)), .n (rnX s (rnA s (rnA s 0 false) (rnB s 0 false)) (rnB s (rnA s 0 false) (rnB s 0 false))), .n (rnX s (rnA s (rnA s (rnA s 0 false) (rnB s 0 false)) (rnB s (rnA s 0 false) (rnB s 0 false))) (rnB s (rnA s (rnA s 0 false) (rnB s 0 false)) (rnB s (rnA s 0 false) (rnB s 0 false)))), .n (rnX s (rnA s (rnA s (rnA s (rnA s 0 false) (rnB s 0 false)) (rnB s (rnA s 0 false) (rnB s 0 false))) (rnB s (rnA s (rnA s 0 false) (rnB s 0 false)) (rnB s (rnA s 0 false) (rnB s 0 false)))) (rnB s (rnA s (rnA s (rnA s 0 false) (rnB s 0 false)) (rnB s (rnA s 0 false) (rnB s 0 false))) (rnB s (rnA s (rnA s 0 false) (rnB s 0 false)) (rnB s (rnA s 0 false) (rnB s 0 false)))))], (rnA s (rnA s (rnA s (rnA s (rnA s 0 false) (rnB s 0 false)) (rnB s (rnA s 0 false) (rnB s 0 false))) (rnB s (rnA s (rnA s 0 false) (rnB s 0 false)) (rnB s (rnA s 0 false) (rnB s 0 false)))) (rnB s (rnA s (rnA s (rnA s 0 false) (rnB s 0 false)) (rnB s (rnA s 0 false) (rnB s 0 false))) (rnB s (rnA s (rnA s 0 false) (rnB s 0 false)) (rnB s (rnA s 0 false) (rnB s 0 false))))), (rnB s (rnA s (rnA s (rnA s (rnA s 0 false) (rnB s 0 false)) (rnB s (rnA s 0 false) (rnB s 0 false))) (rnB s (rnA s (rnA s 0 false) (rnB s 0 false)) (rnB s (rnA s 0 false) (rnB s 0 false)))) (rnB s (rnA s (rnA s (rnA s 0 false) (rnB s 0 false)) (rnB s (rnA s 0 false) (rnB s 0 false))) (rnB s (rnA s (rnA s 0 false) (rnB s 0 false)) (rnB s (rnA s 0 false) (rnB s 0 false)))))) ⟨6, 0, (rnX s (rnA s 0 false) (rnB s 0 false)), 0, (rnX s (rnA s (rnA s 0 false) (rnB s 0 false)) (rnB s (rnA s 0 false) (rnB s 0 false))), (rnX s (rnA s (rnA s (rnA s 0 false) (rnB s 0 false)) (rnB s (rnA s 0 false) (rnB s 0 false))) (rnB s (rnA s (rnA s 0 false) (rnB s 0 false)) (rnB s (rnA s 0 false) (rnB s 0 false)))), 0, (rnX s (rnA s (rnA s (rnA s (rnA s 0 false) (rnB s 0 false)) (rnB s (rnA s 0 false) (rnB s 0 false))) (rnB s (rnA s (rnA s 0 false) (rnB s 0 false)) (rnB s (rnA s 0 false) (rnB s 0 false)))) (rnB s (rnA s (rnA s (rnA s 0 false) (rnB s 0 false)) (rnB s (rnA s 0 false) (rnB s 0 false))) (rnB s (rnA s (rnA s 0 false) (rnB s 0 false)) (rnB s (rnA s 0 false) (rnB s 0 false)))))⟩ (by simp only [hk]; rfl) (by simp only [hk]; rfl)
  have h1 := fun X q => rdnum2 s 0 false 88 hs (by omega) (by omega) X q
  rw [hk] at h1
  obtain ⟨x1, y1⟩ := rnA_bd (s := s) (a := 0) (b := false) (by omega) (by omega)
  generalize rnA s 0 false = a1 at *
  generalize rnB s 0 false = b1 at *
  have h2 := fun X q P => rdnum3 s a1 b1 88 hs x1 y1 X q P
  obtain ⟨x2, y2⟩ := rnA_bd (s := s) (a := a1) (b := b1) x1 y1
  generalize rnX s a1 b1 = v2 at *
  generalize rnA s a1 b1 = a2 at *
  generalize rnB s a1 b1 = b2 at *
  have h3 := fun X q P => rdnum3 s a2 b2 88 hs x2 y2 X q P
  obtain ⟨x3, y3⟩ := rnA_bd (s := s) (a := a2) (b := b2) x2 y2
  generalize rnX s a2 b2 = v3 at *
  generalize rnA s a2 b2 = a3 at *
  generalize rnB s a2 b2 = b3 at *
  have h4 := fun X q P => rdnum3 s a3 b3 88 hs x3 y3 X q P
  obtain ⟨x4, y4⟩ := rnA_bd (s := s) (a := a3) (b := b3) x3 y3
  generalize rnX s a3 b3 = v4 at *
  generalize rnA s a3 b3 = a4 at *
  generalize rnB s a3 b3 = b4 at *
  have h5 := fun X q P => rdnum3 s a4 b4 88 hs x4 y4 X q P
  obtain ⟨x5, y5⟩ := rnA_bd (s := s) (a := a4) (b := b4) x4 y4
  generalize rnX s a4 b4 = v5 at *
  generalize rnA s a4 b4 = a5 at *
  generalize rnB s a4 b4 = b5 at *
  have H1 := Lib.hid h1
  have H2 := Lib.hid h2
  have H3 := Lib.hid h3
  have H4 := Lib.hid h4
  have H5 := Lib.hid h5
  clear h1 h2 h3 h4 h5
  cases b5 with
  | true =>
    obtain ⟨e1, e2⟩ := hy.1 (.inl rfl)
    rw [e1, e2]
    unfold Ev.zero Ev.val
    clear hy e1 e2
    have hdr : ∀ (w : World) n a v, (w.drewN n).setCell a v = (w.setCell a v).drewN n := fun _ _ _ _ => rfl
    go_enter Tryd.func46, Tryd.ntmps46
    go_wp2_with (first | (go_at_call 44; first | ((with_reducible refine (H1.out _ _ (by simp)).mono ?_); rintro e w1 ⟨rfl, m1, rfl⟩) | ((with_reducible refine (H2.out _ _ _ (by simp)).mono ?_); rintro e w1 ⟨rfl, m2, rfl⟩) | ((with_reducible refine (H3.out _ _ _ (by simp)).mono ?_); rintro e w1 ⟨rfl, m3, rfl⟩) | ((with_reducible refine (H4.out _ _ _ (by simp)).mono ?_); rintro e w1 ⟨rfl, m4, rfl⟩) | ((with_reducible refine (H5.out _ _ _ (by simp)).mono ?_); rintro e w1 ⟨rfl, m5, rfl⟩)))
    exact bodyPost_ret (v := .tuple #[.agg #[.int .i64 0, .int .i64 0, .int .i64 0, .int .i64 0, .int .i64 0, .int .i64 0, .int .i64 0, .int .i64 0], .int .i64 700]) (by simp [results, Tryd.results46, go_sem]) rfl ⟨rfl, below_two _ _ _ _ _⟩
  | false =>
    by_cases hz : a5 = s.size
    · have HM := Lib.hid (fun w => remay (Ev.mk 6 0 v2 0 v3 v4 0 v5) w)
      have hz1 : (a5 == (s.size : Int)) = true := by simpa using hz
      cases hm : (Ev.mk 6 0 v2 0 v3 v4 0 v5).may with
      | false =>
        obtain ⟨e1, e2⟩ := hy.1 (.inr (.inr hm))
        rw [e1, e2]
        rw [hm] at HM
        unfold Ev.zero Ev.val
        unfold Ev.val at HM
        clear hy e1 e2 hm
        have hdr : ∀ (w : World) n a v, (w.drewN n).setCell a v = (w.setCell a v).drewN n := fun _ _ _ _ => rfl
        go_enter Tryd.func46, Tryd.ntmps46
        go_wp2_with (first | (go_at_call 44; first | ((with_reducible refine (H1.out _ _ (by simp)).mono ?_); rintro e w1 ⟨rfl, m1, rfl⟩) | ((with_reducible refine (H2.out _ _ _ (by simp)).mono ?_); rintro e w1 ⟨rfl, m2, rfl⟩) | ((with_reducible refine (H3.out _ _ _ (by simp)).mono ?_); rintro e w1 ⟨rfl, m3, rfl⟩) | ((with_reducible refine (H4.out _ _ _ (by simp)).mono ?_); rintro e w1 ⟨rfl, m4, rfl⟩) | ((with_reducible refine (H5.out _ _ _ (by simp)).mono ?_); rintro e w1 ⟨rfl, m5, rfl⟩)) | (go_at_call 58; (with_reducible refine (HM.out _).mono ?_); rintro e w1 ⟨rfl, hb⟩; have hB := below_after (below_two _ _ _ _ _) hb; obtain ⟨hc, hf⟩ := bcellX hb; have hr := res_after hb; clear hb))
        exact bodyPost_ret (v := .tuple #[.agg #[.int .i64 0, .int .i64 0, .int .i64 0, .int .i64 0, .int .i64 0, .int .i64 0, .int .i64 0, .int .i64 0], .int .i64 700]) (by simp [results, Tryd.results46, go_sem, hr]) rfl ⟨rfl, (by (repeat (with_reducible refine Below.setCell ?_ (by simp) _)); exact hB)⟩
      | true =>
        obtain ⟨e1, e2⟩ := hy.2 rfl hz hm
        rw [e1, e2]
        rw [hm] at HM
        unfold Ev.val
        unfold Ev.val at HM
        clear hy e1 e2 hm
        have hdr : ∀ (w : World) n a v, (w.drewN n).setCell a v = (w.setCell a v).drewN n := fun _ _ _ _ => rfl
        go_enter Tryd.func46, Tryd.ntmps46
        go_wp2_with (first | (go_at_call 44; first | ((with_reducible refine (H1.out _ _ (by simp)).mono ?_); rintro e w1 ⟨rfl, m1, rfl⟩) | ((with_reducible refine (H2.out _ _ _ (by simp)).mono ?_); rintro e w1 ⟨rfl, m2, rfl⟩) | ((with_reducible refine (H3.out _ _ _ (by simp)).mono ?_); rintro e w1 ⟨rfl, m3, rfl⟩) | ((with_reducible refine (H4.out _ _ _ (by simp)).mono ?_); rintro e w1 ⟨rfl, m4, rfl⟩) | ((with_reducible refine (H5.out _ _ _ (by simp)).mono ?_); rintro e w1 ⟨rfl, m5, rfl⟩)) | (go_at_call 58; (with_reducible refine (HM.out _).mono ?_); rintro e w1 ⟨rfl, hb⟩; have hB := below_after (below_two _ _ _ _ _) hb; obtain ⟨hc, hf⟩ := bcellX hb; have hr := res_after hb; clear hb))
        exact bodyPost_ret (v := .tuple #[.agg #[.int .i64 6, .int .i64 0, .int .i64 v2, .int .i64 0, .int .i64 v3, .int .i64 v4, .int .i64 0, .int .i64 v5], .int .i64 0]) (by simp [results, Tryd.results46, go_sem, hr]) rfl ⟨rfl, (by (repeat (with_reducible refine Below.setCell ?_ (by simp) _)); exact hB)⟩
    · have hz1 : (a5 == (s.size : Int)) = false := by simpa using hz
      have hz2 : (a5 != (s.size : Int)) = true := by simpa using hz
      obtain ⟨e1, e2⟩ := hy.1 (.inr (.inl hz))
      rw [e1, e2]
      unfold Ev.zero Ev.val
      clear hy e1 e2 hz
      have hdr : ∀ (w : World) n a v, (w.drewN n).setCell a v = (w.setCell a v).drewN n := fun _ _ _ _ => rfl
      go_enter Tryd.func46, Tryd.ntmps46
      go_wp2_with (first | (go_at_call 44; first | ((with_reducible refine (H1.out _ _ (by simp)).mono ?_); rintro e w1 ⟨rfl, m1, rfl⟩) | ((with_reducible refine (H2.out _ _ _ (by simp)).mono ?_); rintro e w1 ⟨rfl, m2, rfl⟩) | ((with_reducible refine (H3.out _ _ _ (by simp)).mono ?_); rintro e w1 ⟨rfl, m3, rfl⟩) | ((with_reducible refine (H4.out _ _ _ (by simp)).mono ?_); rintro e w1 ⟨rfl, m4, rfl⟩) | ((with_reducible refine (H5.out _ _ _ (by simp)).mono ?_); rintro e w1 ⟨rfl, m5, rfl⟩)))
      exact bodyPost_ret (v := .tuple #[.agg #[.int .i64 0, .int .i64 0, .int .i64 0, .int .i64 0, .int .i64 0, .int .i64 0, .int .i64 0, .int .i64 0], .int .i64 700]) (by simp [results, Tryd.results46, go_sem]) rfl ⟨rfl, below_two _ _ _ _ _⟩

set_option maxRecDepth 100000 in
set_option maxHeartbeats 8000000 in
theorem reget_7 (s : ByteArray) (w : World) (hs : s.size ≤ 9223372036854770000) (hk : rnX s 0 false = 7) :
    Calls Tryd.prog 46 #[.string s] w fun e w' => e = .returned (.tuple #[(Ev.getP s).val, .int .i64 (Ev.getE s)]) ∧ Below w.heap.size w w' := by
  have hy := reget_of (t := s) ([.n (rnX s (rnA s 0 false) (rnB s 0 false))], (rnA s (rnA s 0 false) (rnB s 0 false)), (rnB s (rnA s 0 false) (rnB s 0 false))) ⟨7, (rnX s (rnA s 0 false) (rnB s 0 false)), 0, 0, 0, 0, 0, 0⟩ (by simp only [hk]; rfl) (by simp only [hk]; rfl)
  have h1 := fun X q => rdnum2 s 0 false 88 hs (by omega) (by omega) X q
  rw [hk] at h1
  obtain ⟨x1, y1⟩ := rnA_bd (s := s) (a := 0) (b := false) (by omega) (by omega)
  generalize rnA s 0 false = a1 at *
  generalize rnB s 0 false = b1 at *
  have h2 := fun X q P => rdnum3 s a1 b1 88 hs x1 y1 X q P
  obtain ⟨x2, y2⟩ := rnA_bd (s := s) (a := a1) (b := b1) x1 y1
  generalize rnX s a1 b1 = v2 at *
  generalize rnA s a1 b1 = a2 at *
  generalize rnB s a1 b1 = b2 at *
  have H1 := Lib.hid h1
  have H2 := Lib.hid h2
  clear h1 h2
  cases b2 with
  | true =>
    obtain ⟨e1, e2⟩ := hy.1 (.inl rfl)
    rw [e1, e2]
    unfold Ev.zero Ev.val
    clear hy e1 e2
    have hdr : ∀ (w : World) n a v, (w.drewN n).setCell a v = (w.setCell a v).drewN n := fun _ _ _ _ => rfl
    go_enter Tryd.func46, Tryd.ntmps46
    go_wp2_with (first | (go_at_call 44; first | ((with_reducible refine (H1.out _ _ (by simp)).mono ?_); rintro e w1 ⟨rfl, m1, rfl⟩) | ((with_reducible refine (H2.out _ _ _ (by simp)).mono ?_); rintro e w1 ⟨rfl, m2, rfl⟩)))
    exact bodyPost_ret (v := .tuple #[.agg #[.int .i64 0, .int .i64 0, .int .i64 0, .int .i64 0, .int .i64 0, .int .i64 0, .int .i64 0, .int .i64 0], .int .i64 700]) (by simp [results, Tryd.results46, go_sem]) rfl ⟨rfl, below_two _ _ _ _ _⟩
  | false =>
    by_cases hz : a2 = s.size
    · have HM := Lib.hid (fun w => remay (Ev.mk 7 v2 0 0 0 0 0 0) w)
      have hz1 : (a2 == (s.size : Int)) = true := by simpa using hz
      cases hm : (Ev.mk 7 v2 0 0 0 0 0 0).may with
      | false =>
        obtain ⟨e1, e2⟩ := hy.1 (.inr (.inr hm))
        rw [e1, e2]
        rw [hm] at HM
        unfold Ev.zero Ev.val
        unfold Ev.val at HM
        clear hy e1 e2 hm
        have hdr : ∀ (w : World) n a v, (w.drewN n).setCell a v = (w.setCell a v).drewN n := fun _ _ _ _ => rfl
        go_enter Tryd.func46, Tryd.ntmps46
        go_wp2_with (first | (go_at_call 44; first | ((with_reducible refine (H1.out _ _ (by simp)).mono ?_); rintro e w1 ⟨rfl, m1, rfl⟩) | ((with_reducible refine (H2.out _ _ _ (by simp)).mono ?_); rintro e w1 ⟨rfl, m2, rfl⟩)) | (go_at_call 58; (with_reducible refine (HM.out _).mono ?_); rintro e w1 ⟨rfl, hb⟩; have hB := below_after (below_two _ _ _ _ _) hb; obtain ⟨hc, hf⟩ := bcellX hb; have hr := res_after hb; clear hb))
        exact bodyPost_ret (v := .tuple #[.agg #[.int .i64 0, .int .i64 0, .int .i64 0, .int .i64 0, .int .i64 0, .int .i64 0, .int .i64 0, .int .i64 0], .int .i64 700]) (by simp [results, Tryd.results46, go_sem, hr]) rfl ⟨rfl, (by (repeat (with_reducible refine Below.setCell ?_ (by simp) _)); exact hB)⟩
      | true =>
        obtain ⟨e1, e2⟩ := hy.2 rfl hz hm
        rw [e1, e2]
        rw [hm] at HM
        unfold Ev.val
        unfold Ev.val at HM
        clear hy e1 e2 hm
        have hdr : ∀ (w : World) n a v, (w.drewN n).setCell a v = (w.setCell a v).drewN n := fun _ _ _ _ => rfl
        go_enter Tryd.func46, Tryd.ntmps46
        go_wp2_with (first | (go_at_call 44; first | ((with_reducible refine (H1.out _ _ (by simp)).mono ?_); rintro e w1 ⟨rfl, m1, rfl⟩) | ((with_reducible refine (H2.out _ _ _ (by simp)).mono ?_); rintro e w1 ⟨rfl, m2, rfl⟩)) | (go_at_call 58; (with_reducible refine (HM.out _).mono ?_); rintro e w1 ⟨rfl, hb⟩; have hB := below_after (below_two _ _ _ _ _) hb; obtain ⟨hc, hf⟩ := bcellX hb; have hr := res_after hb; clear hb))
        exact bodyPost_ret (v := .tuple #[.agg #[.int .i64 7, .int .i64 v2, .int .i64 0, .int .i64 0, .int .i64 0, .int .i64 0, .int .i64 0, .int .i64 0], .int .i64 0]) (by simp [results, Tryd.results46, go_sem, hr]) rfl ⟨rfl, (by (repeat (with_reducible refine Below.setCell ?_ (by simp) _)); exact hB)⟩
    · have hz1 : (a2 == (s.size : Int)) = false := by simpa using hz
      have hz2 : (a2 != (s.size : Int)) = true := by simpa using hz
      obtain ⟨e1, e2⟩ := hy.1 (.inr (.inl hz))
      rw [e1, e2]
      unfold Ev.zero Ev.val
      clear hy e1 e2 hz
      have hdr : ∀ (w : World) n a v, (w.drewN n).setCell a v = (w.setCell a v).drewN n := fun _ _ _ _ => rfl
      go_enter Tryd.func46, Tryd.ntmps46
      go_wp2_with (first | (go_at_call 44; first | ((with_reducible refine (H1.out _ _ (by simp)).mono ?_); rintro e w1 ⟨rfl, m1, rfl⟩) | ((with_reducible refine (H2.out _ _ _ (by simp)).mono ?_); rintro e w1 ⟨rfl, m2, rfl⟩)))
      exact bodyPost_ret (v := .tuple #[.agg #[.int .i64 0, .int .i64 0, .int .i64 0, .int .i64 0, .int .i64 0, .int .i64 0, .int .i64 0, .int .i64 0], .int .i64 700]) (by simp [results, Tryd.results46, go_sem]) rfl ⟨rfl, below_two _ _ _ _ _⟩

set_option maxRecDepth 100000 in
set_option maxHeartbeats 8000000 in
theorem reget_8 (s : ByteArray) (w : World) (hs : s.size ≤ 9223372036854770000) (hk : rnX s 0 false = 8) :
    Calls Tryd.prog 46 #[.string s] w fun e w' => e = .returned (.tuple #[(Ev.getP s).val, .int .i64 (Ev.getE s)]) ∧ Below w.heap.size w w' := by
  have hy := reget_of (t := s) ([], (rnA s 0 false), (rnB s 0 false)) ⟨8, 0, 0, 0, 0, 0, 0, 0⟩ (by simp only [hk]; rfl) (by simp only [hk]; rfl)
  have h1 := fun X q => rdnum2 s 0 false 88 hs (by omega) (by omega) X q
  rw [hk] at h1
  obtain ⟨x1, y1⟩ := rnA_bd (s := s) (a := 0) (b := false) (by omega) (by omega)
  generalize rnA s 0 false = a1 at *
  generalize rnB s 0 false = b1 at *
  have H1 := Lib.hid h1
  clear h1
  cases b1 with
  | true =>
    obtain ⟨e1, e2⟩ := hy.1 (.inl rfl)
    rw [e1, e2]
    unfold Ev.zero Ev.val
    clear hy e1 e2
    have hdr : ∀ (w : World) n a v, (w.drewN n).setCell a v = (w.setCell a v).drewN n := fun _ _ _ _ => rfl
    go_enter Tryd.func46, Tryd.ntmps46
    go_wp2_with (first | (go_at_call 44; first | ((with_reducible refine (H1.out _ _ (by simp)).mono ?_); rintro e w1 ⟨rfl, m1, rfl⟩)))
    exact bodyPost_ret (v := .tuple #[.agg #[.int .i64 0, .int .i64 0, .int .i64 0, .int .i64 0, .int .i64 0, .int .i64 0, .int .i64 0, .int .i64 0], .int .i64 700]) (by simp [results, Tryd.results46, go_sem]) rfl ⟨rfl, below_two _ _ _ _ _⟩
  | false =>
    by_cases hz : a1 = s.size
    · have HM := Lib.hid (fun w => remay (Ev.mk 8 0 0 0 0 0 0 0) w)
      have hz1 : (a1 == (s.size : Int)) = true := by simpa using hz
      cases hm : (Ev.mk 8 0 0 0 0 0 0 0).may with
      | false =>
        obtain ⟨e1, e2⟩ := hy.1 (.inr (.inr hm))
        rw [e1, e2]
        rw [hm] at HM
        unfold Ev.zero Ev.val
        unfold Ev.val at HM
        clear hy e1 e2 hm
        have hdr : ∀ (w : World) n a v, (w.drewN n).setCell a v = (w.setCell a v).drewN n := fun _ _ _ _ => rfl
        go_enter Tryd.func46, Tryd.ntmps46
        go_wp2_with (first | (go_at_call 44; first | ((with_reducible refine (H1.out _ _ (by simp)).mono ?_); rintro e w1 ⟨rfl, m1, rfl⟩)) | (go_at_call 58; (with_reducible refine (HM.out _).mono ?_); rintro e w1 ⟨rfl, hb⟩; have hB := below_after (below_two _ _ _ _ _) hb; obtain ⟨hc, hf⟩ := bcellX hb; have hr := res_after hb; clear hb))
        exact bodyPost_ret (v := .tuple #[.agg #[.int .i64 0, .int .i64 0, .int .i64 0, .int .i64 0, .int .i64 0, .int .i64 0, .int .i64 0, .int .i64 0], .int .i64 700]) (by simp [results, Tryd.results46, go_sem, hr]) rfl ⟨rfl, (by (repeat (with_reducible refine Below.setCell ?_ (by simp) _)); exact hB)⟩
      | true =>
        obtain ⟨e1, e2⟩ := hy.2 rfl hz hm
        rw [e1, e2]
        rw [hm] at HM
        unfold Ev.val
        unfold Ev.val at HM
        clear hy e1 e2 hm
        have hdr : ∀ (w : World) n a v, (w.drewN n).setCell a v = (w.setCell a v).drewN n := fun _ _ _ _ => rfl
        go_enter Tryd.func46, Tryd.ntmps46
        go_wp2_with (first | (go_at_call 44; first | ((with_reducible refine (H1.out _ _ (by simp)).mono ?_); rintro e w1 ⟨rfl, m1, rfl⟩)) | (go_at_call 58; (with_reducible refine (HM.out _).mono ?_); rintro e w1 ⟨rfl, hb⟩; have hB := below_after (below_two _ _ _ _ _) hb; obtain ⟨hc, hf⟩ := bcellX hb; have hr := res_after hb; clear hb))
        exact bodyPost_ret (v := .tuple #[.agg #[.int .i64 8, .int .i64 0, .int .i64 0, .int .i64 0, .int .i64 0, .int .i64 0, .int .i64 0, .int .i64 0], .int .i64 0]) (by simp [results, Tryd.results46, go_sem, hr]) rfl ⟨rfl, (by (repeat (with_reducible refine Below.setCell ?_ (by simp) _)); exact hB)⟩
    · have hz1 : (a1 == (s.size : Int)) = false := by simpa using hz
      have hz2 : (a1 != (s.size : Int)) = true := by simpa using hz
      obtain ⟨e1, e2⟩ := hy.1 (.inr (.inl hz))
      rw [e1, e2]
      unfold Ev.zero Ev.val
      clear hy e1 e2 hz
      have hdr : ∀ (w : World) n a v, (w.drewN n).setCell a v = (w.setCell a v).drewN n := fun _ _ _ _ => rfl
      go_enter Tryd.func46, Tryd.ntmps46
      go_wp2_with (first | (go_at_call 44; first | ((with_reducible refine (H1.out _ _ (by simp)).mono ?_); rintro e w1 ⟨rfl, m1, rfl⟩)))
      exact bodyPost_ret (v := .tuple #[.agg #[.int .i64 0, .int .i64 0, .int .i64 0, .int .i64 0, .int .i64 0, .int .i64 0, .int .i64 0, .int .i64 0], .int .i64 700]) (by simp [results, Tryd.results46, go_sem]) rfl ⟨rfl, below_two _ _ _ _ _⟩

set_option maxRecDepth 100000 in
set_option maxHeartbeats 8000000 in
theorem reget_9 (s : ByteArray) (w : World) (hs : s.size ≤ 9223372036854770000) (hk : rnX s 0 false = 9) :
    Calls Tryd.prog 46 #[.string s] w fun e w' => e = .returned (.tuple #[(Ev.getP s).val, .int .i64 (Ev.getE s)]) ∧ Below w.heap.size w w' := by
  have hy := reget_of (t := s) ([.n (rnX s (rnA s 0 false) (rnB s 0 false))], (rnA s (rnA s 0 false) (rnB s 0 false)), (rnB s (rnA s 0 false) (rnB s 0 false))) ⟨9, 0, (rnX s (rnA s 0 false) (rnB s 0 false)), 0, 0, 0, 0, 0⟩ (by simp only [hk]; rfl) (by simp only [hk]; rfl)
  have h1 := fun X q => rdnum2 s 0 false 88 hs (by omega) (by omega) X q
  rw [hk] at h1
  obtain ⟨x1, y1⟩ := rnA_bd (s := s) (a := 0) (b := false) (by omega) (by omega)
  generalize rnA s 0 false = a1 at *
  generalize rnB s 0 false = b1 at *
  have h2 := fun X q P => rdnum3 s a1 b1 88 hs x1 y1 X q P
  obtain ⟨x2, y2⟩ := rnA_bd (s := s) (a := a1) (b := b1) x1 y1
  generalize rnX s a1 b1 = v2 at *
  generalize rnA s a1 b1 = a2 at *
  generalize rnB s a1 b1 = b2 at *
  have H1 := Lib.hid h1
  have H2 := Lib.hid h2
  clear h1 h2
  cases b2 with
  | true =>
    obtain ⟨e1, e2⟩ := hy.1 (.inl rfl)
    rw [e1, e2]
    unfold Ev.zero Ev.val
    clear hy e1 e2
    have hdr : ∀ (w : World) n a v, (w.drewN n).setCell a v = (w.setCell a v).drewN n := fun _ _ _ _ => rfl
    go_enter Tryd.func46, Tryd.ntmps46
    go_wp2_with (first | (go_at_call 44; first | ((with_reducible refine (H1.out _ _ (by simp)).mono ?_); rintro e w1 ⟨rfl, m1, rfl⟩) | ((with_reducible refine (H2.out _ _ _ (by simp)).mono ?_); rintro e w1 ⟨rfl, m2, rfl⟩)))
    exact bodyPost_ret (v := .tuple #[.agg #[.int .i64 0, .int .i64 0, .int .i64 0, .int .i64 0, .int .i64 0, .int .i64 0, .int .i64 0, .int .i64 0], .int .i64 700]) (by simp [results, Tryd.results46, go_sem]) rfl ⟨rfl, below_two _ _ _ _ _⟩
  | false =>
    by_cases hz : a2 = s.size
    · have HM := Lib.hid (fun w => remay (Ev.mk 9 0 v2 0 0 0 0 0) w)
      have hz1 : (a2 == (s.size : Int)) = true := by simpa using hz
      cases hm : (Ev.mk 9 0 v2 0 0 0 0 0).may with
      | false =>
        obtain ⟨e1, e2⟩ := hy.1 (.inr (.inr hm))
        rw [e1, e2]
        rw [hm] at HM
        unfold Ev.zero Ev.val
        unfold Ev.val at HM
        clear hy e1 e2 hm
        have hdr : ∀ (w : World) n a v, (w.drewN n).setCell a v = (w.setCell a v).drewN n := fun _ _ _ _ => rfl
        go_enter Tryd.func46, Tryd.ntmps46
        go_wp2_with (first | (go_at_call 44; first | ((with_reducible refine (H1.out _ _ (by simp)).mono ?_); rintro e w1 ⟨rfl, m1, rfl⟩) | ((with_reducible refine (H2.out _ _ _ (by simp)).mono ?_); rintro e w1 ⟨rfl, m2, rfl⟩)) | (go_at_call 58; (with_reducible refine (HM.out _).mono ?_); rintro e w1 ⟨rfl, hb⟩; have hB := below_after (below_two _ _ _ _ _) hb; obtain ⟨hc, hf⟩ := bcellX hb; have hr := res_after hb; clear hb))
        exact bodyPost_ret (v := .tuple #[.agg #[.int .i64 0, .int .i64 0, .int .i64 0, .int .i64 0, .int .i64 0, .int .i64 0, .int .i64 0, .int .i64 0], .int .i64 700]) (by simp [results, Tryd.results46, go_sem, hr]) rfl ⟨rfl, (by (repeat (with_reducible refine Below.setCell ?_ (by simp) _)); exact hB)⟩
      | true =>
        obtain ⟨e1, e2⟩ := hy.2 rfl hz hm
        rw [e1, e2]
        rw [hm] at HM
        unfold Ev.val
        unfold Ev.val at HM
        clear hy e1 e2 hm
        have hdr : ∀ (w : World) n a v, (w.drewN n).setCell a v = (w.setCell a v).drewN n := fun _ _ _ _ => rfl
        go_enter Tryd.func46, Tryd.ntmps46
        go_wp2_with (first | (go_at_call 44; first | ((with_reducible refine (H1.out _ _ (by simp)).mono ?_); rintro e w1 ⟨rfl, m1, rfl⟩) | ((with_reducible refine (H2.out _ _ _ (by simp)).mono ?_); rintro e w1 ⟨rfl, m2, rfl⟩)) | (go_at_call 58; (with_reducible refine (HM.out _).mono ?_); rintro e w1 ⟨rfl, hb⟩; have hB := below_after (below_two _ _ _ _ _) hb; obtain ⟨hc, hf⟩ := bcellX hb; have hr := res_after hb; clear hb))
        exact bodyPost_ret (v := .tuple #[.agg #[.int .i64 9, .int .i64 0, .int .i64 v2, .int .i64 0, .int .i64 0, .int .i64 0, .int .i64 0, .int .i64 0], .int .i64 0]) (by simp [results, Tryd.results46, go_sem, hr]) rfl ⟨rfl, (by (repeat (with_reducible refine Below.setCell ?_ (by simp) _)); exact hB)⟩
    · have hz1 : (a2 == (s.size : Int)) = false := by simpa using hz
      have hz2 : (a2 != (s.size : Int)) = true := by simpa using hz
      obtain ⟨e1, e2⟩ := hy.1 (.inr (.inl hz))
      rw [e1, e2]
      unfold Ev.zero Ev.val
      clear hy e1 e2 hz
      have hdr : ∀ (w : World) n a v, (w.drewN n).setCell a v = (w.setCell a v).drewN n := fun _ _ _ _ => rfl
      go_enter Tryd.func46, Tryd.ntmps46
      go_wp2_with (first | (go_at_call 44; first | ((with_reducible refine (H1.out _ _ (by simp)).mono ?_); rintro e w1 ⟨rfl, m1, rfl⟩) | ((with_reducible refine (H2.out _ _ _ (by simp)).mono ?_); rintro e w1 ⟨rfl, m2, rfl⟩)))
      exact bodyPost_ret (v := .tuple #[.agg #[.int .i64 0, .int .i64 0, .int .i64 0, .int .i64 0, .int .i64 0, .int .i64 0, .int .i64 0, .int .i64 0], .int .i64 700]) (by simp [results, Tryd.results46, go_sem]) rfl ⟨rfl, below_two _ _ _ _ _⟩

set_option maxRecDepth 100000 in
set_option maxHeartbeats 8000000 in
theorem reget_else (s : ByteArray) (k : Int) (w : World) (hs : s.size ≤ 9223372036854770000) (hk : rnX s 0 false = k) (n0 : k ≠ 0) (n1 : k ≠ 1) (n2 : k ≠ 2) (n3 : k ≠ 3) (n4 : k ≠ 4) (n5 : k ≠ 5) (n6 : k ≠ 6) (n7 : k ≠ 7) (n8 : k ≠ 8) (n9 : k ≠ 9) :
    Calls Tryd.prog 46 #[.string s] w fun e w' => e = .returned (.tuple #[(Ev.getP s).val, .int .i64 (Ev.getE s)]) ∧ Below w.heap.size w w' := by
  have hsh : Ev.sh k = [] := by unfold Ev.sh; simp [n0, n1, n2, n3, n4, n5, n6, n7, n8, n9]
  have hy := reget_of (t := s) ([], (rnA s 0 false), (rnB s 0 false)) ⟨k, 0, 0, 0, 0, 0, 0, 0⟩ (by simp only [hk, hsh]; rfl) (by simp only [hk]; rfl)
  have g0 : (k == 0) = false := by simpa using n0
  have g1 : (k == 1) = false := by simpa using n1
  have g2 : (k == 2) = false := by simpa using n2
  have g3 : (k == 3) = false := by simpa using n3
  have g4 : (k == 4) = false := by simpa using n4
  have g5 : (k == 5) = false := by simpa using n5
  have g6 : (k == 6) = false := by simpa using n6
  have g7 : (k == 7) = false := by simpa using n7
  have g8 : (k == 8) = false := by simpa using n8
  have g9 : (k == 9) = false := by simpa using n9
  have h1 := fun X q => rdnum2 s 0 false 88 hs (by omega) (by omega) X q
  rw [hk] at h1
  obtain ⟨x1, y1⟩ := rnA_bd (s := s) (a := 0) (b := false) (by omega) (by omega)
  generalize rnA s 0 false = a1 at *
  generalize rnB s 0 false = b1 at *
  have H1 := Lib.hid h1
  clear h1
  cases b1 with
  | true =>
    obtain ⟨e1, e2⟩ := hy.1 (.inl rfl)
    rw [e1, e2]
    unfold Ev.zero Ev.val
    clear hy e1 e2
    have hdr : ∀ (w : World) n a v, (w.drewN n).setCell a v = (w.setCell a v).drewN n := fun _ _ _ _ => rfl
    go_enter Tryd.func46, Tryd.ntmps46
    go_wp2_with (first | (go_at_call 44; first | ((with_reducible refine (H1.out _ _ (by simp)).mono ?_); rintro e w1 ⟨rfl, m1, rfl⟩)))
    exact bodyPost_ret (v := .tuple #[.agg #[.int .i64 0, .int .i64 0, .int .i64 0, .int .i64 0, .int .i64 0, .int .i64 0, .int .i64 0, .int .i64 0], .int .i64 700]) (by simp [results, Tryd.results46, go_sem]) rfl ⟨rfl, below_two _ _ _ _ _⟩
  | false =>
    by_cases hz : a1 = s.size
    · have HM := Lib.hid (fun w => remay (Ev.mk k 0 0 0 0 0 0 0) w)
      have hz1 : (a1 == (s.size : Int)) = true := by simpa using hz
      cases hm : (Ev.mk k 0 0 0 0 0 0 0).may with
      | false =>
        obtain ⟨e1, e2⟩ := hy.1 (.inr (.inr hm))
        rw [e1, e2]
        rw [hm] at HM
        unfold Ev.zero Ev.val
        unfold Ev.val at HM
        clear hy e1 e2 hm
        have hdr : ∀ (w : World) n a v, (w.drewN n).setCell a v = (w.setCell a v).drewN n := fun _ _ _ _ => rfl
        go_enter Tryd.func46, Tryd.ntmps46
        go_wp2_with (first | (go_at_call 44; first | ((with_reducible refine (H1.out _ _ (by simp)).mono ?_); rintro e w1 ⟨rfl, m1, rfl⟩)) | (go_at_call 58; (with_reducible refine (HM.out _).mono ?_); rintro e w1 ⟨rfl, hb⟩; have hB := below_after (below_two _ _ _ _ _) hb; obtain ⟨hc, hf⟩ := bcellX hb; have hr := res_after hb; clear hb))
        exact bodyPost_ret (v := .tuple #[.agg #[.int .i64 0, .int .i64 0, .int .i64 0, .int .i64 0, .int .i64 0, .int .i64 0, .int .i64 0, .int .i64 0], .int .i64 700]) (by simp [results, Tryd.results46, go_sem, hr]) rfl ⟨rfl, (by (repeat (with_reducible refine Below.setCell ?_ (by simp) _)); exact hB)⟩
      | true =>
        obtain ⟨e1, e2⟩ := hy.2 rfl hz hm
        rw [e1, e2]
        rw [hm] at HM
        unfold Ev.val
        unfold Ev.val at HM
        clear hy e1 e2 hm
        have hdr : ∀ (w : World) n a v, (w.drewN n).setCell a v = (w.setCell a v).drewN n := fun _ _ _ _ => rfl
        go_enter Tryd.func46, Tryd.ntmps46
        go_wp2_with (first | (go_at_call 44; first | ((with_reducible refine (H1.out _ _ (by simp)).mono ?_); rintro e w1 ⟨rfl, m1, rfl⟩)) | (go_at_call 58; (with_reducible refine (HM.out _).mono ?_); rintro e w1 ⟨rfl, hb⟩; have hB := below_after (below_two _ _ _ _ _) hb; obtain ⟨hc, hf⟩ := bcellX hb; have hr := res_after hb; clear hb))
        exact bodyPost_ret (v := .tuple #[.agg #[.int .i64 k, .int .i64 0, .int .i64 0, .int .i64 0, .int .i64 0, .int .i64 0, .int .i64 0, .int .i64 0], .int .i64 0]) (by simp [results, Tryd.results46, go_sem, hr]) rfl ⟨rfl, (by (repeat (with_reducible refine Below.setCell ?_ (by simp) _)); exact hB)⟩
    · have hz1 : (a1 == (s.size : Int)) = false := by simpa using hz
      have hz2 : (a1 != (s.size : Int)) = true := by simpa using hz
      obtain ⟨e1, e2⟩ := hy.1 (.inr (.inl hz))
      rw [e1, e2]
      unfold Ev.zero Ev.val
      clear hy e1 e2 hz
      have hdr : ∀ (w : World) n a v, (w.drewN n).setCell a v = (w.setCell a v).drewN n := fun _ _ _ _ => rfl
      go_enter Tryd.func46, Tryd.ntmps46
      go_wp2_with (first | (go_at_call 44; first | ((with_reducible refine (H1.out _ _ (by simp)).mono ?_); rintro e w1 ⟨rfl, m1, rfl⟩)))
      exact bodyPost_ret (v := .tuple #[.agg #[.int .i64 0, .int .i64 0, .int .i64 0, .int .i64 0, .int .i64 0, .int .i64 0, .int .i64 0, .int .i64 0], .int .i64 700]) (by simp [results, Tryd.results46, go_sem]) rfl ⟨rfl, below_two _ _ _ _ _⟩

theorem reget (s : ByteArray) (w : World) (hs : s.size ≤ 9223372036854770000) :
    Calls Tryd.prog 46 #[.string s] w fun e w' => e = .returned (.tuple #[(Ev.getP s).val, .int .i64 (Ev.getE s)]) ∧ Below w.heap.size w w' := by
  by_cases h0 : rnX s 0 false = 0
  · exact reget_0 s w hs h0
  by_cases h1 : rnX s 0 false = 1
  · exact reget_1 s w hs h1
  by_cases h2 : rnX s 0 false = 2
  · exact reget_2 s w hs h2
  by_cases h3 : rnX s 0 false = 3
  · exact reget_3 s w hs h3
  by_cases h4 : rnX s 0 false = 4
  · exact reget_4 s w hs h4
  by_cases h5 : rnX s 0 false = 5
  · exact reget_5 s w hs h5
  by_cases h6 : rnX s 0 false = 6
  · exact reget_6 s w hs h6
  by_cases h7 : rnX s 0 false = 7
  · exact reget_7 s w hs h7
  by_cases h8 : rnX s 0 false = 8
  · exact reget_8 s w hs h8
  by_cases h9 : rnX s 0 false = 9
  · exact reget_9 s w hs h9
  exact reget_else s _ w hs rfl h0 h1 h2 h3 h4 h5 h6 h7 h8 h9
