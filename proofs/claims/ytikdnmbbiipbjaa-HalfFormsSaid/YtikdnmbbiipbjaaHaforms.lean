/- HalfForms answers true at any numbers, where the program's calls answer as the chapter says. -/
import Derived.Test.YtikdnmbbiipbjaaHaaw
import Derived.Test.YtikdnmbbiipbjaaFplain3
namespace Go.Proofs.Ytikdnmbbiipbjaa
open Go Go.RowKit

theorem ha_nil (w : World) : HaIn [] w none 0 [] := ⟨rfl, .inl rfl, by decide⟩
theorem ha_no {es : List Ha} {h : Ha} {most t : Int} (c : ¬ (1 ≤ most ∧ most ≤ 8 ∧ t < h.t)) : haAE es h most t = 1800 ∧ haAL es h most t = [] := by
  have e : haAE es h most t = 1800 := by
    unfold haAE
    rw [if_neg]
    exact fun d => c ((haOk_iff h most t).1 d)
  exact ⟨e, by unfold haAL; rw [e]; rfl⟩
theorem ha_one (a t : Int) : haAE [] ⟨a, 0, 0, 0, t + 1⟩ 1 t = 0 ∧ haAL [] ⟨a, 0, 0, 0, t + 1⟩ 1 t = [⟨a, 0, 0, 0, t + 1⟩] := by
  have e : haAE [] ⟨a, 0, 0, 0, t + 1⟩ 1 t = 0 := by
    unfold haAE
    rw [if_pos ((haOk_iff _ _ _).2 ⟨by decide, by decide, by show t < t + 1; omega⟩)]
    rfl
  exact ⟨e, by unfold haAL; rw [e]; rfl⟩
theorem ha_gone {a b t : Int} (h : b ≠ a) : haTX [⟨a, 0, 0, 0, t + 1⟩] b t = Ha.none ∧ haTL [⟨a, 0, 0, 0, t + 1⟩] b t = [] ∧ haTE [⟨a, 0, 0, 0, t + 1⟩] b t = 1802 := by
  have e : haI b (haLeft [⟨a, 0, 0, 0, t + 1⟩] t) 0 = none := by
    have e1 : haLeft [⟨a, 0, 0, 0, t + 1⟩] t = [⟨a, 0, 0, 0, t + 1⟩] := by
      unfold haLeft
      rw [List.filter_cons_of_pos (by simp; omega)]
      rfl
    rw [e1]
    show (if a = b then _ else _) = _
    rw [if_neg (fun c => h c.symm)]
    rfl
  unfold haTX haTL haTE
  rw [e]
  exact ⟨rfl, rfl, rfl⟩
theorem ha_over (a t : Int) : haLeft [⟨a, 0, 0, 0, t + 1⟩] (t + 1) = [] := by
  unfold haLeft
  rw [List.filter_cons_of_neg (by simp)]
  rfl
theorem ha_oneAt (W : World) (p : Nat) (hp : p = W.heap.size) (a t : Int) : HaIn [] (W.alloc (.cells #[.int .i64 a, .int .i64 0, .int .i64 0, .int .i64 0, .int .i64 t] THa)) (some ⟨p, 0, none⟩) 1 [⟨a, 0, 0, 0, t⟩] := by
  subst hp
  exact ha_lit W [⟨a, 0, 0, 0, t⟩] (show 1 ≤ 3518437208883 by decide)
set_option maxRecDepth 100000 in
set_option maxHeartbeats 8000000 in
theorem hforms0 (P : HalvesOk) (x y : Int) (w : World) (m t : Int) (hm : bits .and .i64 x 1023 = m) (m0 : 0 ≤ m) (m1 : m ≤ 1023) (ht : bits .and .i64 y 1023 = t) (t0 : 0 ≤ t) (t1 : t ≤ 1023) :
    Calls Try.prog 5 #[.int .i64 x, .int .i64 y] w fun e w' => e = .returned (.bool true) ∧ Below w.heap.size w w' := by
  have H1 := Lib.hid (ha_no (es := []) (h := ⟨0, 0, 0, 0, t + 1⟩) (most := 1 - (1 + m)) (t := t) (by omega))
  have H2 := Lib.hid (ha_no (es := []) (h := ⟨0, 0, 0, 0, t + 1⟩) (most := 8 + (1 + m)) (t := t) (by omega))
  have H3 := Lib.hid (ha_no (es := []) (h := ⟨0, 0, 0, 0, t⟩) (most := 1) (t := t) (by show ¬ (_ ∧ _ ∧ t < t); omega))
  have H4 := Lib.hid (ha_no (es := []) (h := ⟨0, 0, 0, 0, t - (1 + m)⟩) (most := 1) (t := t) (by show ¬ (_ ∧ _ ∧ t < t - (1 + m)); omega))
  have H6 := Lib.hid (ha_gone (a := 1 + m) (b := 1 + m + 1) (t := t) (by omega))
  have H7 := Lib.hid (show haTX [] (1 + m) t = Ha.none ∧ haTL [] (1 + m) t = [] ∧ haTE [] (1 + m) t = 1802 from ⟨rfl, rfl, rfl⟩)
  go_enter Try.func5, Try.ntmps5
  go_wp2_with (first
    | (go_at_call 18; (with_reducible refine (awake18 P _).mono ?_); rintro e w0 ⟨rfl, hB⟩)
    | (go_at_call 8; first
       | ((with_reducible refine (P.adds (ha_nil _) (by decide) (f4 := t + 1) (most := 1 - (1 + m)) (t := t) (es2 := []) (m := 0) (r := 1800) H1.out.2 rfl H1.out.1).mono ?_); rintro e w1 ⟨a1, c1, rfl, -, hb⟩; replace hB := hab hB hb; clear hb)
       | ((with_reducible refine (P.adds (ha_nil _) (by decide) (f4 := t + 1) (most := 8 + (1 + m)) (t := t) (es2 := []) (m := 0) (r := 1800) H2.out.2 rfl H2.out.1).mono ?_); rintro e w2 ⟨a2, c2, rfl, -, hb⟩; replace hB := hab hB hb; clear hb)
       | ((with_reducible refine (P.adds (ha_nil _) (by decide) (f4 := t) (most := 1) (t := t) (es2 := []) (m := 0) (r := 1800) H3.out.2 rfl H3.out.1).mono ?_); rintro e w3 ⟨a3, c3, rfl, -, hb⟩; replace hB := hab hB hb; clear hb)
       | ((with_reducible refine (P.adds (ha_nil _) (by decide) (f4 := t - (1 + m)) (most := 1) (t := t) (es2 := []) (m := 0) (r := 1800) H4.out.2 rfl H4.out.1).mono ?_); rintro e w4 ⟨a4, c4, rfl, -, hb⟩; replace hB := hab hB hb; clear hb)
       | ((with_reducible refine (P.adds (ha_nil _) (by decide) (f0 := 1 + m) (f4 := t + 1) (most := 1) (t := t) (es2 := [⟨1 + m, 0, 0, 0, t + 1⟩]) (m := 1) (r := 0) (ha_one _ _).2 rfl (ha_one _ _).1).mono ?_); rintro e w5 ⟨a5, c5, rfl, hI, hb⟩; replace hB := hab hB hb; clear hb))
    | (go_at_call 10; first
       | ((with_reducible refine (P.takes hI (by decide) (x := 1 + m + 1) (t := t) (a := Ha.none) (es2 := []) (m := 0) (r := 1802) H6.out.1 H6.out.2.1 rfl H6.out.2.2).mono ?_); rintro e w6 ⟨a6, c6, rfl, -, hb⟩; replace hb := hal hb (.cells (haB Ha.none) THa); replace hI := hI.on hb; replace hB := hab hB hb; clear hb)
       | ((with_reducible refine (P.takes (ha_nil _) (by decide) (x := 1 + m) (t := t) (a := Ha.none) (es2 := []) (m := 0) (r := 1802) H7.out.1 H7.out.2.1 rfl H7.out.2.2).mono ?_); rintro e w7 ⟨a7, c7, rfl, -, hb⟩; replace hb := hal hb (.cells (haB Ha.none) THa); replace hI := hI.on hb; replace hB := hab hB hb; clear hb))
    | (go_at_call 14; (with_reducible refine (lnum _ _).mono ?_); rintro e wn ⟨rfl, rfl⟩)
    | (go_at_call 13; ((with_reducible refine (ha_yes (hI.on (hal (Below.refl _ _) _)) (ha_oneAt _ _ (by go_simp) _ _)).mono ?_); rintro e w8 ⟨rfl, hb0⟩; have hb := hab (hal (Below.refl _ _) _) hb0; replace hI := hI.on hb; replace hB := hab hB hb; clear hb hb0))
    | (go_at_call 12; ((with_reducible refine (P.expires hI (by decide) (t := t + 1) (es2 := []) (m := 0) (ha_over _ _) rfl).mono ?_); rintro e w9 ⟨a9, c9, rfl, -, hb⟩; replace hB := hab hB hb; clear hb)))
  go_ret
  exact ⟨rfl, hB⟩
theorem hforms (P : HalvesOk) (x y : Int) (w : World) : Calls Try.prog 5 #[.int .i64 x, .int .i64 y] w fun e w' => e = .returned (.bool true) ∧ Below w.heap.size w w' := by
  have hm := i64_mask x 10 (by omega)
  have ht := i64_mask y 10 (by omega)
  rw [show ((2 ^ 10 - 1 : Nat) : Int) = 1023 from by decide, show ((2 ^ 10 : Nat) : Int) = 1024 from by decide] at hm ht
  exact hforms0 P x y w _ _ hm (by omega) (by omega) ht (by omega) (by omega)
end Go.Proofs.Ytikdnmbbiipbjaa
