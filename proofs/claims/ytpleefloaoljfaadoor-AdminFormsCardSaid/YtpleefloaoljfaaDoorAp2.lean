/- admin.May, at any kind. No condition. -/
import Derived.Test.YtpleefloaoljfaaDoorAp1
namespace Go.Proofs.YtpleefloaoljfaaDoor
open Go Go.RowKit

/-- What the program asks. -/
def apok (k u y x q s : Int) : Bool := (apI k) && okRow (apU k) 5 (rowL [u, y, x, q, s]) (apM k)
set_option maxHeartbeats 2000000 in
theorem apmayR (k u y x q s : Int) (w : World) : Calls Tryd.prog 12 #[.agg #[.int .i64 k, .int .i64 u, .int .i64 y, .int .i64 x, .int .i64 q, .int .i64 s]] w fun e w' => e = .returned (.bool (apok k u y x q s)) ∧ Below w.heap.size w w' := by
  have HN := Lib.hid (fun w => apnamed k w)
  have HR := Lib.hid (fun w => aprow k u y x q s w)
  have HL := Lib.hid (fun w => aplimits k w)
  have HM := Lib.hid (fun b1 b2 w h1 h2 => pMay (apU k) 5 (rowL [u, y, x, q, s]) (apM k) b1 b2 w (by omega) h1 h2)
  have HP : Hid (apok k u y x q s = ((apI k) && okRow (apU k) 5 (rowL [u, y, x, q, s]) (apM k))) := Lib.hid rfl
  have HA1 := Lib.hid (fun j hj => arrN_get 5 (rowL [u, y, x, q, s]) j hj)
  have HA2 := Lib.hid (fun j hj => arrN_get 5 (apM k) j hj)
  generalize apok k u y x q s = B at *
  generalize okRow (apU k) 5 (rowL [u, y, x, q, s]) (apM k) = B1 at *
  generalize (rowL [u, y, x, q, s]) = r at *
  generalize (apM k) = m at *
  generalize apI k = I at *
  generalize apU k = u0 at *
  cases hI : I with
  | false =>
    rw [hI] at HP HN
    go_enter Tryd.func12, Tryd.ntmps12
    go_wp2_with (go_at_call 15; (with_reducible refine (HN.out _).mono ?_); rintro e w1 ⟨rfl, rfl⟩)
    go_ret
    exact ⟨ret_bo (by rw [HP.out]; rfl), (Below.refl _ _).alloc (Nat.le_refl _) _⟩
  | true =>
    rw [hI] at HP HN
    go_enter Tryd.func12, Tryd.ntmps12
    go_wp2_with (first
    | (go_at_call 15; (with_reducible refine (HN.out _).mono ?_); rintro e w1 ⟨rfl, rfl⟩)
    | (go_at_call 17; (with_reducible refine (HR.out _).mono ?_); rintro e w1 ⟨x1, rfl, hb, -, k1⟩; have kp := (Blk.new _ _ _).step hb; have e1 := kp.cell; have g1 := kp.froz; have l1 := kp.lt; have hb' := ((Below.refl w.heap.size w).alloc (Nat.le_refl _) (.cells #[.int .i64 k, .int .i64 u, .int .i64 y, .int .i64 x, .int .i64 q, .int .i64 s] 23)).trans (hb.mono (by simp)); clear hb)
    | (go_at_call 22; (with_reducible refine (HL.out _).mono ?_); rintro e w2 ⟨x2, rfl, hb, -, k2⟩; replace kp := kp.step hb; have e1 := kp.cell; have g1 := kp.froz; have l1 := kp.lt; replace k1 := k1.step hb; replace hb' := hb'.trans (hb.mono hb'.size); clear hb)
    | (go_at_call 21; (with_reducible refine (HM.out _ _ _ (fun j hj => (k1.cell j).trans (HA1.out j hj)) (fun j hj => (k2.cell j).trans (HA2.out j hj))).mono ?_); rintro e w3 ⟨rfl, rfl⟩))
    go_ret
    exact ⟨ret_bo (by rw [HP.out]; rfl), hb'⟩
end Go.Proofs.YtpleefloaoljfaaDoor
