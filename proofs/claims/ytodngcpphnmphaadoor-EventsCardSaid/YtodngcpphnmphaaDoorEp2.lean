/- event.May, at any kind. No condition. -/
import Derived.Test.YtodngcpphnmphaaDoorEp1
import Derived.Deep.RegionWith
namespace Go.Proofs.YtodngcpphnmphaaDoor
open Go Go.RowKit

/-- What the program asks. -/
def epok (k u s a x y z t : Int) : Bool := (epI k) && okRow (epU k) 7 (rowL [s, u, a, x, y, z, t]) (epM k)
set_option maxHeartbeats 2000000 in
theorem epmayR (k u s a x y z t : Int) (w : World) : Calls Tryd.prog 12 #[.agg #[.int .i64 k, .int .i64 u, .int .i64 s, .int .i64 a, .int .i64 x, .int .i64 y, .int .i64 z, .int .i64 t]] w fun e w' => e = .returned (.bool (epok k u s a x y z t)) ∧ Below w.heap.size w w' := by
  have HN := Lib.hid (fun w => epnamed k w)
  have HR := Lib.hid (fun w => eprow k u s a x y z t w)
  have HL := Lib.hid (fun w => eplimits k w)
  have HM := Lib.hid (fun b1 b2 w h1 h2 => pMay (epU k) 7 (rowL [s, u, a, x, y, z, t]) (epM k) b1 b2 w (by omega) h1 h2)
  have HP : Hid (epok k u s a x y z t = ((epI k) && okRow (epU k) 7 (rowL [s, u, a, x, y, z, t]) (epM k))) := Lib.hid rfl
  have HA1 := Lib.hid (fun j hj => arrN_get 7 (rowL [s, u, a, x, y, z, t]) j hj)
  have HA2 := Lib.hid (fun j hj => arrN_get 7 (epM k) j hj)
  generalize epok k u s a x y z t = B at *
  generalize okRow (epU k) 7 (rowL [s, u, a, x, y, z, t]) (epM k) = B1 at *
  generalize (rowL [s, u, a, x, y, z, t]) = r at *
  generalize (epM k) = m at *
  generalize epI k = I at *
  generalize epU k = u0 at *
  cases hI : I with
  | false =>
    rw [hI] at HP HN
    go_enter Tryd.func12, Tryd.ntmps12
    go_wp2_with (go_at_call 15; (with_reducible refine (HN.out _).mono ?_); rintro e w1 ⟨rfl, rfl⟩)
    have kp := ((Blk.new w #[.int .i64 k, .int .i64 u, .int .i64 s, .int .i64 a, .int .i64 x, .int .i64 y, .int .i64 z, .int .i64 t] 23)).drew
    have e1 := kp.cell
    have hb' : Below w.heap.size w (w.alloc (.cells #[.int .i64 k, .int .i64 u, .int .i64 s, .int .i64 a, .int .i64 x, .int .i64 y, .int .i64 z, .int .i64 t] 23)).drew := ((Below.refl _ _).alloc (Nat.le_refl _) _).trans ⟨rfl, rfl, rfl, Nat.le_refl _, fun _ _ => rfl⟩
    first
      | (go_region_with (first
    | (go_at_call 17; (with_reducible refine (HR.out _).mono ?_); rintro e w1 ⟨x1, rfl, hb, -, k1⟩; replace kp := kp.step hb; have e1 := kp.cell; have g1 := kp.froz; have l1 := kp.lt; replace hb' := hb'.trans (hb.mono hb'.size); clear hb)
    | (go_at_call 22; (with_reducible refine (HL.out _).mono ?_); rintro e w2 ⟨x2, rfl, hb, -, k2⟩; replace kp := kp.step hb; have e1 := kp.cell; have g1 := kp.froz; have l1 := kp.lt; replace k1 := k1.step hb; replace hb' := hb'.trans (hb.mono hb'.size); clear hb)
    | (go_at_call 21; (with_reducible refine (HM.out _ _ _ (fun j hj => (k1.cell j).trans (HA1.out j hj)) (fun j hj => (k2.cell j).trans (HA2.out j hj))).mono ?_); rintro e w3 ⟨rfl, rfl⟩)))
      | fail
    all_goals
      go_wp2
      go_ret
      exact ⟨ret_bo (by rw [HP.out]; rfl), hb'⟩
  | true =>
    rw [hI] at HP HN
    go_enter Tryd.func12, Tryd.ntmps12
    go_wp2_with (go_at_call 15; (with_reducible refine (HN.out _).mono ?_); rintro e w1 ⟨rfl, rfl⟩)
    have kp := ((Blk.new w #[.int .i64 k, .int .i64 u, .int .i64 s, .int .i64 a, .int .i64 x, .int .i64 y, .int .i64 z, .int .i64 t] 23)).drew
    have e1 := kp.cell
    have hb' : Below w.heap.size w (w.alloc (.cells #[.int .i64 k, .int .i64 u, .int .i64 s, .int .i64 a, .int .i64 x, .int .i64 y, .int .i64 z, .int .i64 t] 23)).drew := ((Below.refl _ _).alloc (Nat.le_refl _) _).trans ⟨rfl, rfl, rfl, Nat.le_refl _, fun _ _ => rfl⟩
    first
      | (go_region_with (first
    | (go_at_call 17; (with_reducible refine (HR.out _).mono ?_); rintro e w1 ⟨x1, rfl, hb, -, k1⟩; replace kp := kp.step hb; have e1 := kp.cell; have g1 := kp.froz; have l1 := kp.lt; replace hb' := hb'.trans (hb.mono hb'.size); clear hb)
    | (go_at_call 22; (with_reducible refine (HL.out _).mono ?_); rintro e w2 ⟨x2, rfl, hb, -, k2⟩; replace kp := kp.step hb; have e1 := kp.cell; have g1 := kp.froz; have l1 := kp.lt; replace k1 := k1.step hb; replace hb' := hb'.trans (hb.mono hb'.size); clear hb)
    | (go_at_call 21; (with_reducible refine (HM.out _ _ _ (fun j hj => (k1.cell j).trans (HA1.out j hj)) (fun j hj => (k2.cell j).trans (HA2.out j hj))).mono ?_); rintro e w3 ⟨rfl, rfl⟩)))
      | fail
    all_goals
      go_wp2
      go_ret
      exact ⟨ret_bo (by rw [HP.out]; rfl), hb'⟩
end Go.Proofs.YtodngcpphnmphaaDoor
