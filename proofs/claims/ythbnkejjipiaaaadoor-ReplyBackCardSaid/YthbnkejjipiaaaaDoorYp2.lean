/- reply.May, at any kind. No condition. -/
import Derived.Test.YthbnkejjipiaaaaDoorYp1
import Derived.Deep.RegionWith
namespace Go.Proofs.YthbnkejjipiaaaaDoor
open Go Go.RowKit

/-- What the program asks. -/
def ypok (k h n s a t q c : Int) (d : ByteArray) : Bool := (ypI k) && okRow (ypU k) 7 (rowL [h, n, s, a, t, q, c]) (ypM k) && (if pT (ypU k) 7 then decide ((d.size : Int) ≤ 64) else d.toList.isEmpty)
set_option maxHeartbeats 2000000 in
theorem ypmayR (k h n s a t q c : Int) (d : ByteArray) (w : World) : Calls Tryd.prog 23 #[.agg #[.int .i64 k, .int .i64 h, .int .i64 n, .int .i64 s, .int .i64 a, .int .i64 t, .int .i64 q, .int .i64 c, .string d]] w fun e w' => e = .returned (.bool (ypok k h n s a t q c d)) ∧ Below w.heap.size w w' := by
  have HN := Lib.hid (fun w => ypnamed k w)
  have HR := Lib.hid (fun w => yprow k h n s a t q c d w)
  have HL := Lib.hid (fun w => yplimits k w)
  have HH := Lib.hid (fun w => pHas (ypU k) 7 w (by omega) (by omega))
  have HM := Lib.hid (fun b1 b2 w h1 h2 => pMay (ypU k) 7 (rowL [h, n, s, a, t, q, c]) (ypM k) b1 b2 w (by omega) h1 h2)
  have HP : Hid (ypok k h n s a t q c d = ((ypI k) && okRow (ypU k) 7 (rowL [h, n, s, a, t, q, c]) (ypM k) && (if pT (ypU k) 7 then decide ((d.size : Int) ≤ 64) else d.toList.isEmpty))) := Lib.hid rfl
  have HA1 := Lib.hid (fun j hj => arrN_get 7 (rowL [h, n, s, a, t, q, c]) j hj)
  have HA2 := Lib.hid (fun j hj => arrN_get 7 (ypM k) j hj)
  generalize ypok k h n s a t q c d = B at *
  generalize okRow (ypU k) 7 (rowL [h, n, s, a, t, q, c]) (ypM k) = B1 at *
  generalize (rowL [h, n, s, a, t, q, c]) = r at *
  generalize (ypM k) = m at *
  generalize pT (ypU k) 7 = B2 at *
  generalize ypI k = I at *
  generalize ypU k = u0 at *
  cases hI : I with
  | false =>
    rw [hI] at HP HN
    go_enter Tryd.func23, Tryd.ntmps23
    go_wp2_with (go_at_call 39; (with_reducible refine (HN.out _).mono ?_); rintro e w1 ⟨rfl, rfl⟩)
    have kp := ((Blk.new w #[.int .i64 k, .int .i64 h, .int .i64 n, .int .i64 s, .int .i64 a, .int .i64 t, .int .i64 q, .int .i64 c, .string d] 44)).drew
    have e1 := kp.cell
    have hb' : Below w.heap.size w (w.alloc (.cells #[.int .i64 k, .int .i64 h, .int .i64 n, .int .i64 s, .int .i64 a, .int .i64 t, .int .i64 q, .int .i64 c, .string d] 44)).drew := ((Below.refl _ _).alloc (Nat.le_refl _) _).trans ⟨rfl, rfl, rfl, Nat.le_refl _, fun _ _ => rfl⟩
    first
      | (go_region_with (first
    | (go_at_call 40; (with_reducible refine (HR.out _).mono ?_); rintro e w1 ⟨x1, rfl, hb, -, k1⟩; replace kp := kp.step hb; have e1 := kp.cell; have g1 := kp.froz; have l1 := kp.lt; replace hb' := hb'.trans (hb.mono hb'.size); clear hb)
    | (go_at_call 42; (with_reducible refine (HL.out _).mono ?_); rintro e w2 ⟨x2, rfl, hb, -, k2⟩; replace kp := kp.step hb; have e1 := kp.cell; have g1 := kp.froz; have l1 := kp.lt; replace k1 := k1.step hb; replace hb' := hb'.trans (hb.mono hb'.size); clear hb)
    | (go_at_call 36; (with_reducible refine (HM.out _ _ _ (fun j hj => (k1.cell j).trans (HA1.out j hj)) (fun j hj => (k2.cell j).trans (HA2.out j hj))).mono ?_); rintro e w3 ⟨rfl, rfl⟩)
    | (go_at_call 29; (with_reducible refine (HH.out _).mono ?_); rintro e w3 ⟨rfl, rfl⟩)))
      | fail
    all_goals
      go_wp2_with (go_at_call 29; (with_reducible refine (HH.out _).mono ?_); rintro e w3 ⟨rfl, rfl⟩)
      go_ret
      exact ⟨ret_bo (by rw [HP.out]; rfl), hb'⟩
  | true =>
    rw [hI] at HP HN
    cases B1 with
    | false =>
      go_enter Tryd.func23, Tryd.ntmps23
      go_wp2_with (go_at_call 39; (with_reducible refine (HN.out _).mono ?_); rintro e w1 ⟨rfl, rfl⟩)
      have kp := ((Blk.new w #[.int .i64 k, .int .i64 h, .int .i64 n, .int .i64 s, .int .i64 a, .int .i64 t, .int .i64 q, .int .i64 c, .string d] 44)).drew
      have e1 := kp.cell
      have hb' : Below w.heap.size w (w.alloc (.cells #[.int .i64 k, .int .i64 h, .int .i64 n, .int .i64 s, .int .i64 a, .int .i64 t, .int .i64 q, .int .i64 c, .string d] 44)).drew := ((Below.refl _ _).alloc (Nat.le_refl _) _).trans ⟨rfl, rfl, rfl, Nat.le_refl _, fun _ _ => rfl⟩
      first
        | (go_region_with (first
    | (go_at_call 40; (with_reducible refine (HR.out _).mono ?_); rintro e w1 ⟨x1, rfl, hb, -, k1⟩; replace kp := kp.step hb; have e1 := kp.cell; have g1 := kp.froz; have l1 := kp.lt; replace hb' := hb'.trans (hb.mono hb'.size); clear hb)
    | (go_at_call 42; (with_reducible refine (HL.out _).mono ?_); rintro e w2 ⟨x2, rfl, hb, -, k2⟩; replace kp := kp.step hb; have e1 := kp.cell; have g1 := kp.froz; have l1 := kp.lt; replace k1 := k1.step hb; replace hb' := hb'.trans (hb.mono hb'.size); clear hb)
    | (go_at_call 36; (with_reducible refine (HM.out _ _ _ (fun j hj => (k1.cell j).trans (HA1.out j hj)) (fun j hj => (k2.cell j).trans (HA2.out j hj))).mono ?_); rintro e w3 ⟨rfl, rfl⟩)
    | (go_at_call 29; (with_reducible refine (HH.out _).mono ?_); rintro e w3 ⟨rfl, rfl⟩)))
        | fail
      all_goals
        go_wp2_with (go_at_call 29; (with_reducible refine (HH.out _).mono ?_); rintro e w3 ⟨rfl, rfl⟩)
        go_ret
        exact ⟨ret_bo (by rw [HP.out]; rfl), hb'⟩
    | true =>
      cases B2 with
      | false =>
        go_enter Tryd.func23, Tryd.ntmps23
        go_wp2_with (go_at_call 39; (with_reducible refine (HN.out _).mono ?_); rintro e w1 ⟨rfl, rfl⟩)
        have kp := ((Blk.new w #[.int .i64 k, .int .i64 h, .int .i64 n, .int .i64 s, .int .i64 a, .int .i64 t, .int .i64 q, .int .i64 c, .string d] 44)).drew
        have e1 := kp.cell
        have hb' : Below w.heap.size w (w.alloc (.cells #[.int .i64 k, .int .i64 h, .int .i64 n, .int .i64 s, .int .i64 a, .int .i64 t, .int .i64 q, .int .i64 c, .string d] 44)).drew := ((Below.refl _ _).alloc (Nat.le_refl _) _).trans ⟨rfl, rfl, rfl, Nat.le_refl _, fun _ _ => rfl⟩
        first
          | (go_region_with (first
    | (go_at_call 40; (with_reducible refine (HR.out _).mono ?_); rintro e w1 ⟨x1, rfl, hb, -, k1⟩; replace kp := kp.step hb; have e1 := kp.cell; have g1 := kp.froz; have l1 := kp.lt; replace hb' := hb'.trans (hb.mono hb'.size); clear hb)
    | (go_at_call 42; (with_reducible refine (HL.out _).mono ?_); rintro e w2 ⟨x2, rfl, hb, -, k2⟩; replace kp := kp.step hb; have e1 := kp.cell; have g1 := kp.froz; have l1 := kp.lt; replace k1 := k1.step hb; replace hb' := hb'.trans (hb.mono hb'.size); clear hb)
    | (go_at_call 36; (with_reducible refine (HM.out _ _ _ (fun j hj => (k1.cell j).trans (HA1.out j hj)) (fun j hj => (k2.cell j).trans (HA2.out j hj))).mono ?_); rintro e w3 ⟨rfl, rfl⟩)
    | (go_at_call 29; (with_reducible refine (HH.out _).mono ?_); rintro e w3 ⟨rfl, rfl⟩)))
          | fail
        all_goals
          go_wp2_with (go_at_call 29; (with_reducible refine (HH.out _).mono ?_); rintro e w3 ⟨rfl, rfl⟩)
          go_ret
          exact ⟨ret_bo (by rw [HP.out]; rfl), hb'⟩
      | true =>
        go_enter Tryd.func23, Tryd.ntmps23
        go_wp2_with (go_at_call 39; (with_reducible refine (HN.out _).mono ?_); rintro e w1 ⟨rfl, rfl⟩)
        have kp := ((Blk.new w #[.int .i64 k, .int .i64 h, .int .i64 n, .int .i64 s, .int .i64 a, .int .i64 t, .int .i64 q, .int .i64 c, .string d] 44)).drew
        have e1 := kp.cell
        have hb' : Below w.heap.size w (w.alloc (.cells #[.int .i64 k, .int .i64 h, .int .i64 n, .int .i64 s, .int .i64 a, .int .i64 t, .int .i64 q, .int .i64 c, .string d] 44)).drew := ((Below.refl _ _).alloc (Nat.le_refl _) _).trans ⟨rfl, rfl, rfl, Nat.le_refl _, fun _ _ => rfl⟩
        first
          | (go_region_with (first
    | (go_at_call 40; (with_reducible refine (HR.out _).mono ?_); rintro e w1 ⟨x1, rfl, hb, -, k1⟩; replace kp := kp.step hb; have e1 := kp.cell; have g1 := kp.froz; have l1 := kp.lt; replace hb' := hb'.trans (hb.mono hb'.size); clear hb)
    | (go_at_call 42; (with_reducible refine (HL.out _).mono ?_); rintro e w2 ⟨x2, rfl, hb, -, k2⟩; replace kp := kp.step hb; have e1 := kp.cell; have g1 := kp.froz; have l1 := kp.lt; replace k1 := k1.step hb; replace hb' := hb'.trans (hb.mono hb'.size); clear hb)
    | (go_at_call 36; (with_reducible refine (HM.out _ _ _ (fun j hj => (k1.cell j).trans (HA1.out j hj)) (fun j hj => (k2.cell j).trans (HA2.out j hj))).mono ?_); rintro e w3 ⟨rfl, rfl⟩)
    | (go_at_call 29; (with_reducible refine (HH.out _).mono ?_); rintro e w3 ⟨rfl, rfl⟩)))
          | fail
        all_goals
          go_wp2_with (go_at_call 29; (with_reducible refine (HH.out _).mono ?_); rintro e w3 ⟨rfl, rfl⟩)
          go_ret
          exact ⟨ret_bo (by rw [HP.out]; rfl), hb'⟩
end Go.Proofs.YthbnkejjipiaaaaDoor
