/- packet.May, at any kind. No condition. -/
import Derived.Test.YthbnkejjipiaaaaDoorPp1
namespace Go.Proofs.YthbnkejjipiaaaaDoor
open Go Go.RowKit

/-- What the program asks. -/
def ppok (k u n h t c s q : Int) (d : ByteArray) : Bool := (!(((ppU k : Nat) : Int) == 0)) && okRow (ppU k) 7 (rowL [u, h, s, q, t, n, c]) (ppM k) && (if pT (ppU k) 7 then decide ((d.size : Int) ≤ 64) else d.toList.isEmpty)
set_option maxHeartbeats 2000000 in
theorem ppmayR (k u n h t c s q : Int) (d : ByteArray) (w : World) : Calls Tryd.prog 16 #[.agg #[.int .i64 k, .int .i64 u, .int .i64 n, .int .i64 h, .int .i64 t, .int .i64 c, .int .i64 s, .int .i64 q, .string d]] w fun e w' => e = .returned (.bool (ppok k u n h t c s q d)) ∧ Below w.heap.size w w' := by
  have HN := Lib.hid (fun w => ppnamed k w)
  have HR := Lib.hid (fun w => pprow k u n h t c s q d w)
  have HL := Lib.hid (fun w => pplimits k w)
  have HH := Lib.hid (fun w => pHas (ppU k) 7 w (by omega) (by omega))
  have HM := Lib.hid (fun b1 b2 w h1 h2 => pMay (ppU k) 7 (rowL [u, h, s, q, t, n, c]) (ppM k) b1 b2 w (by omega) h1 h2)
  have HP : Hid (ppok k u n h t c s q d = ((!(((ppU k : Nat) : Int) == 0)) && okRow (ppU k) 7 (rowL [u, h, s, q, t, n, c]) (ppM k) && (if pT (ppU k) 7 then decide ((d.size : Int) ≤ 64) else d.toList.isEmpty))) := Lib.hid rfl
  have HA1 := Lib.hid (fun j hj => arrN_get 7 (rowL [u, h, s, q, t, n, c]) j hj)
  have HA2 := Lib.hid (fun j hj => arrN_get 7 (ppM k) j hj)
  generalize ppok k u n h t c s q d = B at *
  generalize okRow (ppU k) 7 (rowL [u, h, s, q, t, n, c]) (ppM k) = B1 at *
  generalize (rowL [u, h, s, q, t, n, c]) = r at *
  generalize (ppM k) = m at *
  generalize pT (ppU k) 7 = B2 at *
  generalize ppU k = u0 at *
  cases hI : ((u0 : Int) == 0) with
  | true =>
    rw [hI] at HP
    go_enter Tryd.func16, Tryd.ntmps16
    go_wp2_with (first
    | (go_at_call 26; (with_reducible refine (HN.out _).mono ?_); rintro e w1 ⟨rfl, rfl⟩)
    | (go_at_call 28; (with_reducible refine (HR.out _).mono ?_); rintro e w1 ⟨x1, rfl, hb, -, k1⟩; have kp := (Blk.new _ _ _).step hb; have e1 := kp.cell; have g1 := kp.froz; have l1 := kp.lt; have hb' := ((Below.refl w.heap.size w).alloc (Nat.le_refl _) (.cells #[.int .i64 k, .int .i64 u, .int .i64 n, .int .i64 h, .int .i64 t, .int .i64 c, .int .i64 s, .int .i64 q, .string d] 23)).trans (hb.mono (by simp)); clear hb)
    | (go_at_call 37; (with_reducible refine (HL.out _).mono ?_); rintro e w2 ⟨x2, rfl, hb, -, k2⟩; replace kp := kp.step hb; have e1 := kp.cell; have g1 := kp.froz; have l1 := kp.lt; replace k1 := k1.step hb; replace hb' := hb'.trans (hb.mono hb'.size); clear hb)
    | (go_at_call 36; (with_reducible refine (HM.out _ _ _ (fun j hj => (k1.cell j).trans (HA1.out j hj)) (fun j hj => (k2.cell j).trans (HA2.out j hj))).mono ?_); rintro e w3 ⟨rfl, rfl⟩)
    | (go_at_call 29; (with_reducible refine (HH.out _).mono ?_); rintro e w3 ⟨rfl, rfl⟩))
    go_ret
    exact ⟨ret_bo (by rw [HP.out]; rfl), (Below.refl _ _).alloc (Nat.le_refl _) _⟩
  | false =>
    rw [hI] at HP
    cases B1 with
    | false =>
      go_enter Tryd.func16, Tryd.ntmps16
      go_wp2_with (first
    | (go_at_call 26; (with_reducible refine (HN.out _).mono ?_); rintro e w1 ⟨rfl, rfl⟩)
    | (go_at_call 28; (with_reducible refine (HR.out _).mono ?_); rintro e w1 ⟨x1, rfl, hb, -, k1⟩; have kp := (Blk.new _ _ _).step hb; have e1 := kp.cell; have g1 := kp.froz; have l1 := kp.lt; have hb' := ((Below.refl w.heap.size w).alloc (Nat.le_refl _) (.cells #[.int .i64 k, .int .i64 u, .int .i64 n, .int .i64 h, .int .i64 t, .int .i64 c, .int .i64 s, .int .i64 q, .string d] 23)).trans (hb.mono (by simp)); clear hb)
    | (go_at_call 37; (with_reducible refine (HL.out _).mono ?_); rintro e w2 ⟨x2, rfl, hb, -, k2⟩; replace kp := kp.step hb; have e1 := kp.cell; have g1 := kp.froz; have l1 := kp.lt; replace k1 := k1.step hb; replace hb' := hb'.trans (hb.mono hb'.size); clear hb)
    | (go_at_call 36; (with_reducible refine (HM.out _ _ _ (fun j hj => (k1.cell j).trans (HA1.out j hj)) (fun j hj => (k2.cell j).trans (HA2.out j hj))).mono ?_); rintro e w3 ⟨rfl, rfl⟩)
    | (go_at_call 29; (with_reducible refine (HH.out _).mono ?_); rintro e w3 ⟨rfl, rfl⟩))
      go_ret
      exact ⟨ret_bo (by rw [HP.out]; rfl), hb'⟩
    | true =>
      cases B2 with
      | false =>
        go_enter Tryd.func16, Tryd.ntmps16
        go_wp2_with (first
    | (go_at_call 26; (with_reducible refine (HN.out _).mono ?_); rintro e w1 ⟨rfl, rfl⟩)
    | (go_at_call 28; (with_reducible refine (HR.out _).mono ?_); rintro e w1 ⟨x1, rfl, hb, -, k1⟩; have kp := (Blk.new _ _ _).step hb; have e1 := kp.cell; have g1 := kp.froz; have l1 := kp.lt; have hb' := ((Below.refl w.heap.size w).alloc (Nat.le_refl _) (.cells #[.int .i64 k, .int .i64 u, .int .i64 n, .int .i64 h, .int .i64 t, .int .i64 c, .int .i64 s, .int .i64 q, .string d] 23)).trans (hb.mono (by simp)); clear hb)
    | (go_at_call 37; (with_reducible refine (HL.out _).mono ?_); rintro e w2 ⟨x2, rfl, hb, -, k2⟩; replace kp := kp.step hb; have e1 := kp.cell; have g1 := kp.froz; have l1 := kp.lt; replace k1 := k1.step hb; replace hb' := hb'.trans (hb.mono hb'.size); clear hb)
    | (go_at_call 36; (with_reducible refine (HM.out _ _ _ (fun j hj => (k1.cell j).trans (HA1.out j hj)) (fun j hj => (k2.cell j).trans (HA2.out j hj))).mono ?_); rintro e w3 ⟨rfl, rfl⟩)
    | (go_at_call 29; (with_reducible refine (HH.out _).mono ?_); rintro e w3 ⟨rfl, rfl⟩))
        go_ret
        exact ⟨ret_bo (by rw [HP.out]; rfl), hb'⟩
      | true =>
        go_enter Tryd.func16, Tryd.ntmps16
        go_wp2_with (first
    | (go_at_call 26; (with_reducible refine (HN.out _).mono ?_); rintro e w1 ⟨rfl, rfl⟩)
    | (go_at_call 28; (with_reducible refine (HR.out _).mono ?_); rintro e w1 ⟨x1, rfl, hb, -, k1⟩; have kp := (Blk.new _ _ _).step hb; have e1 := kp.cell; have g1 := kp.froz; have l1 := kp.lt; have hb' := ((Below.refl w.heap.size w).alloc (Nat.le_refl _) (.cells #[.int .i64 k, .int .i64 u, .int .i64 n, .int .i64 h, .int .i64 t, .int .i64 c, .int .i64 s, .int .i64 q, .string d] 23)).trans (hb.mono (by simp)); clear hb)
    | (go_at_call 37; (with_reducible refine (HL.out _).mono ?_); rintro e w2 ⟨x2, rfl, hb, -, k2⟩; replace kp := kp.step hb; have e1 := kp.cell; have g1 := kp.froz; have l1 := kp.lt; replace k1 := k1.step hb; replace hb' := hb'.trans (hb.mono hb'.size); clear hb)
    | (go_at_call 36; (with_reducible refine (HM.out _ _ _ (fun j hj => (k1.cell j).trans (HA1.out j hj)) (fun j hj => (k2.cell j).trans (HA2.out j hj))).mono ?_); rintro e w3 ⟨rfl, rfl⟩)
    | (go_at_call 29; (with_reducible refine (HH.out _).mono ?_); rintro e w3 ⟨rfl, rfl⟩))
        go_ret
        exact ⟨ret_bo (by rw [HP.out]; rfl), hb'⟩
end Go.Proofs.YthbnkejjipiaaaaDoor
