/- Meters: every call over any meter and any numbers answers as the document's, where the program's calls answer as the chapter says. No condition. -/
import Derived.Test.YtjkcimeeagmmeaaMel
namespace Go.Proofs.Ytjkcimeeagmmeaa
open Go Go.RowKit

set_option maxRecDepth 100000 in
set_option maxHeartbeats 8000000 in
theorem meters_walk (P : MetersOk) (s l b t i a y u q : Int) (w : World) : Calls Try.prog 3 #[.agg (meA s l b), .int .i64 t, .int .i64 i, .int .i64 a, .int .i64 y, .int .i64 u, .int .i64 q] w fun e w' => e = .returned (.bool true) ∧ Below w.heap.size w w' := by
  have HO := Lib.hid (fun w => P.over s l b t i a w)
  have HQ := Lib.hid (fun w => rover s l b t i a w)
  have HD := Lib.hid (fun w => P.deliver s l b t y u q w)
  have HE := Lib.hid (fun w => rdeliver s l b t y u q w)
  generalize meW s l b t i a = W at *
  generalize meI s l b t i a = I at *
  generalize meS s l b t y u q = X at *
  generalize meL s l b t y u q = Y at *
  generalize meB s l b t y u q = Z at *
  generalize meG s l b t y u q = G at *
  generalize meE s l b t y u q = E at *
  have km := Blk.new w (meA s l b) TMe
  have em := km.cell
  have hB := mal (Below.refl w.heap.size w) (.cells (meA s l b) TMe)
  go_enter Try.func3, Try.ntmps3
  go_wp2_with (first
    | (go_at_call 7; (with_reducible refine (HO.out _).mono ?_); rintro r w1 ⟨rfl, hb⟩; replace hB := mab hB hb; replace km := km.step hb; replace em := km.cell; clear hb)
    | (go_at_call 8; (with_reducible refine (HQ.out _).mono ?_); rintro r w2 ⟨rfl, hb⟩; replace hB := mab hB hb; replace km := km.step hb; replace em := km.cell; clear hb)
    | (go_at_call 9; (with_reducible refine (HD.out _).mono ?_); rintro r w3 ⟨rfl, hb⟩; replace hB := mal (mab hB hb) (.cells (meA X Y Z) TMe); replace km := (km.step hb).alloc (.cells (meA X Y Z) TMe); have ka := Blk.new w3 (meA X Y Z) TMe; replace em := km.cell; clear hb)
    | (go_at_call 10; (with_reducible refine (HE.out _).mono ?_); rintro r w4 ⟨rfl, hb⟩; replace hB := mal (mab hB hb) (.cells (meA X Y Z) TMe); replace ka := (ka.step hb).alloc (.cells (meA X Y Z) TMe); have kb := Blk.new w4 (meA X Y Z) TMe; have ea := ka.cell; have eb := kb.cell; clear hb km em)
    | (go_at_call 11; (with_reducible refine (lnum _ _).mono ?_); rintro e wn ⟨rfl, rfl⟩)
    | (go_at_call 12; (with_reducible refine (awake19 P _).mono ?_); rintro r w5 ⟨rfl, hb⟩; replace hB := mab hB hb; clear hb))
  go_ret
  exact ⟨rfl, hB⟩
end Go.Proofs.Ytjkcimeeagmmeaa
