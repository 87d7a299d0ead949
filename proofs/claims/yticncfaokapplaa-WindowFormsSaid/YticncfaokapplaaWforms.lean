/- WindowForms answers true at any numbers, where the program's calls answer as the chapter says. -/
import Derived.Test.YticncfaokapplaaWdl
namespace Go.Proofs.Yticncfaokapplaa
open Go Go.RowKit

set_option maxRecDepth 100000 in
set_option maxHeartbeats 8000000 in
theorem wforms0 (P : WinsOk) (n x : Int) (m : Int) (w : World) (hj : (IntKind.u64.wrap n).tmod 9 = 0) (hm : bits .and .i64 x 1023 = m) (m0 : 0 ≤ m) (m1 : m ≤ 1023) :
    Calls Try.prog 5 #[.int .i64 n, .int .i64 x] w fun e w' => e = .returned (.bool true) ∧ Below w.heap.size w w' := by
  have HW := Lib.hid (show wdMay (-1 - (1 + m)) (0) = false from wdMay_no (by omega) (.inl (by omega)))
  have HS := Lib.hid (wd_no (h := 1048575) (b := 4294967295) (s := 1048575 + (1 + m)) (.inr (.inr (by omega))))
  have HN := Lib.hid (wd_no (h := 1048575) (b := 4294967295) (s := -(1 + m)) (.inr (.inl (by omega))))
  go_enter Try.func5, Try.ntmps5
  go_wp2_with (first
    | (go_at_call 13; (with_reducible refine (awake17 P _).mono ?_); rintro e w1 ⟨rfl, hB⟩)
    | (go_at_call 8; first
       | ((with_reducible refine (P.adds (h := (-1 - (1 + m))) (b := (0)) (s := 9) (a := 0) (c := 0) (e := 1700) (wd_no (.inl HW.out)).2.1 (wd_no (.inl HW.out)).2.2 (wd_no (.inl HW.out)).1 _).mono ?_); rintro r w2 ⟨rfl, hb⟩; replace hB := wpab ((hB.alloc hB.size _).alloc (by simp; have := hB.size; omega) _) hb; have kw := (Blk.new' (w1.alloc _) (w1.heap.size + 1) (by simp) #[.int .i64 (-1 - (1 + m)), .int .i64 (0)] TWd).step hb; clear hb)
       | ((with_reducible refine (P.adds (h := 1048575) (b := 4294967295) (s := (1048575 + (1 + m))) (a := 0) (c := 0) (e := 1700) HS.out.2.1 HS.out.2.2 HS.out.1 _).mono ?_); rintro r w3 ⟨rfl, hb⟩; replace hB := wpab ((hB.alloc hB.size _).alloc (by simp; have := hB.size; omega) _) hb; replace kw := ((kw.alloc _).alloc _).step hb; have kg := (Blk.new' (w2.alloc _) (w2.heap.size + 1) (by simp) #[.int .i64 1048575, .int .i64 4294967295] TWd).step hb; have eg := (kg.alloc (.cells #[.int .i64 0, .int .i64 0] TWd)).cell; clear hb)
       | ((with_reducible refine (P.adds (h := 1048575) (b := 4294967295) (s := (-(1 + m))) (a := 0) (c := 0) (e := 1700) HN.out.2.1 HN.out.2.2 HN.out.1 _).mono ?_); rintro r w4 ⟨rfl, hb⟩; replace hB := wpab (hB.alloc hB.size _) hb; replace kw := (kw.alloc _).step hb; replace kg := (kg.alloc _).step hb; have eg := (kg.alloc (.cells #[.int .i64 0, .int .i64 0] TWd)).cell; clear hb)
       | ((with_reducible refine (P.adds (h := 1048575) (b := 4294967295) (s := 1048575) (a := 0) (c := 0) (e := 1701) (by decide) (by decide) (by decide) _).mono ?_); rintro r w5 ⟨rfl, hb⟩; replace hB := wpab (hB.alloc hB.size _) hb; replace kw := (kw.alloc _).step hb; replace kg := (kg.alloc _).step hb; clear hb)
       | ((with_reducible refine (P.adds (h := 3) (b := 1) (s := 0) (a := 3) (c := 9) (e := 0) (by decide) (by decide) (by decide) _).mono ?_); rintro r w6 ⟨rfl, hb⟩; replace hB := wpab (hB.alloc hB.size _) hb; replace hB := hB.alloc hB.size (.cells #[.int .i64 3, .int .i64 9] TWd); replace kw := ((kw.alloc _).step hb).alloc (.cells #[.int .i64 3, .int .i64 9] TWd); replace kg := ((kg.alloc _).step hb).alloc (.cells #[.int .i64 3, .int .i64 9] TWd); have ky := Blk.new w6 #[.int .i64 3, .int .i64 9] TWd; have ew := kw.cell; have eg := kg.cell; have ey := ky.cell; clear hb))
    | (go_at_call 11; first
       | ((with_reducible refine (P.mays (h := (-1 - (1 + m))) (b := (0)) (r := false) HW.out _).mono ?_); rintro r w7 ⟨rfl, hb⟩; replace hB := wpab hB hb; replace kg := kg.step hb; replace ky := ky.step hb; have eg := kg.cell; have ey := ky.cell; clear hb)
       | ((with_reducible refine (P.mays (h := 1048575) (b := 4294967295) (r := true) (by decide) _).mono ?_); rintro r w8 ⟨rfl, hb⟩; replace hB := wpab hB hb; replace ky := ky.step hb; have ey := ky.cell; clear hb))
    | (go_at_call 10; (with_reducible refine (lnum _ _).mono ?_); rintro e wn ⟨rfl, rfl⟩))
  go_ret
  exact ⟨rfl, hB⟩
set_option maxRecDepth 100000 in
set_option maxHeartbeats 8000000 in
theorem wforms1 (P : WinsOk) (n x : Int) (m : Int) (w : World) (hj : (IntKind.u64.wrap n).tmod 9 = 1) (hm : bits .and .i64 x 1023 = m) (m0 : 0 ≤ m) (m1 : m ≤ 1023) :
    Calls Try.prog 5 #[.int .i64 n, .int .i64 x] w fun e w' => e = .returned (.bool true) ∧ Below w.heap.size w w' := by
  have HW := Lib.hid (show wdMay (-1) (1 + m) = false from by rw [wdMay_1]; exact decide_eq_false (by omega))
  have HS := Lib.hid (wd_no (h := 1048575) (b := 4294967295) (s := 1048575 + (1 + m)) (.inr (.inr (by omega))))
  have HN := Lib.hid (wd_no (h := 1048575) (b := 4294967295) (s := -(1 + m)) (.inr (.inl (by omega))))
  go_enter Try.func5, Try.ntmps5
  go_wp2_with (first
    | (go_at_call 13; (with_reducible refine (awake17 P _).mono ?_); rintro e w1 ⟨rfl, hB⟩)
    | (go_at_call 8; first
       | ((with_reducible refine (P.adds (h := (-1)) (b := (1 + m)) (s := 9) (a := 0) (c := 0) (e := 1700) (wd_no (.inl HW.out)).2.1 (wd_no (.inl HW.out)).2.2 (wd_no (.inl HW.out)).1 _).mono ?_); rintro r w2 ⟨rfl, hb⟩; replace hB := wpab ((hB.alloc hB.size _).alloc (by simp; have := hB.size; omega) _) hb; have kw := (Blk.new' (w1.alloc _) (w1.heap.size + 1) (by simp) #[.int .i64 (-1), .int .i64 (1 + m)] TWd).step hb; clear hb)
       | ((with_reducible refine (P.adds (h := 1048575) (b := 4294967295) (s := (1048575 + (1 + m))) (a := 0) (c := 0) (e := 1700) HS.out.2.1 HS.out.2.2 HS.out.1 _).mono ?_); rintro r w3 ⟨rfl, hb⟩; replace hB := wpab ((hB.alloc hB.size _).alloc (by simp; have := hB.size; omega) _) hb; replace kw := ((kw.alloc _).alloc _).step hb; have kg := (Blk.new' (w2.alloc _) (w2.heap.size + 1) (by simp) #[.int .i64 1048575, .int .i64 4294967295] TWd).step hb; have eg := (kg.alloc (.cells #[.int .i64 0, .int .i64 0] TWd)).cell; clear hb)
       | ((with_reducible refine (P.adds (h := 1048575) (b := 4294967295) (s := (-(1 + m))) (a := 0) (c := 0) (e := 1700) HN.out.2.1 HN.out.2.2 HN.out.1 _).mono ?_); rintro r w4 ⟨rfl, hb⟩; replace hB := wpab (hB.alloc hB.size _) hb; replace kw := (kw.alloc _).step hb; replace kg := (kg.alloc _).step hb; have eg := (kg.alloc (.cells #[.int .i64 0, .int .i64 0] TWd)).cell; clear hb)
       | ((with_reducible refine (P.adds (h := 1048575) (b := 4294967295) (s := 1048575) (a := 0) (c := 0) (e := 1701) (by decide) (by decide) (by decide) _).mono ?_); rintro r w5 ⟨rfl, hb⟩; replace hB := wpab (hB.alloc hB.size _) hb; replace kw := (kw.alloc _).step hb; replace kg := (kg.alloc _).step hb; clear hb)
       | ((with_reducible refine (P.adds (h := 3) (b := 1) (s := 0) (a := 3) (c := 9) (e := 0) (by decide) (by decide) (by decide) _).mono ?_); rintro r w6 ⟨rfl, hb⟩; replace hB := wpab (hB.alloc hB.size _) hb; replace hB := hB.alloc hB.size (.cells #[.int .i64 3, .int .i64 9] TWd); replace kw := ((kw.alloc _).step hb).alloc (.cells #[.int .i64 3, .int .i64 9] TWd); replace kg := ((kg.alloc _).step hb).alloc (.cells #[.int .i64 3, .int .i64 9] TWd); have ky := Blk.new w6 #[.int .i64 3, .int .i64 9] TWd; have ew := kw.cell; have eg := kg.cell; have ey := ky.cell; clear hb))
    | (go_at_call 11; first
       | ((with_reducible refine (P.mays (h := (-1)) (b := (1 + m)) (r := false) HW.out _).mono ?_); rintro r w7 ⟨rfl, hb⟩; replace hB := wpab hB hb; replace kg := kg.step hb; replace ky := ky.step hb; have eg := kg.cell; have ey := ky.cell; clear hb)
       | ((with_reducible refine (P.mays (h := 1048575) (b := 4294967295) (r := true) (by decide) _).mono ?_); rintro r w8 ⟨rfl, hb⟩; replace hB := wpab hB hb; replace ky := ky.step hb; have ey := ky.cell; clear hb))
    | (go_at_call 10; (with_reducible refine (lnum _ _).mono ?_); rintro e wn ⟨rfl, rfl⟩))
  go_ret
  exact ⟨rfl, hB⟩
set_option maxRecDepth 100000 in
set_option maxHeartbeats 8000000 in
theorem wforms2 (P : WinsOk) (n x : Int) (m : Int) (w : World) (hj : (IntKind.u64.wrap n).tmod 9 = 2) (hm : bits .and .i64 x 1023 = m) (m0 : 0 ≤ m) (m1 : m ≤ 1023) :
    Calls Try.prog 5 #[.int .i64 n, .int .i64 x] w fun e w' => e = .returned (.bool true) ∧ Below w.heap.size w w' := by
  have HW := Lib.hid (show wdMay (1048575 + (1 + m)) (1) = false from wdMay_no (by omega) (.inr (.inl (by omega))))
  have HS := Lib.hid (wd_no (h := 1048575) (b := 4294967295) (s := 1048575 + (1 + m)) (.inr (.inr (by omega))))
  have HN := Lib.hid (wd_no (h := 1048575) (b := 4294967295) (s := -(1 + m)) (.inr (.inl (by omega))))
  go_enter Try.func5, Try.ntmps5
  go_wp2_with (first
    | (go_at_call 13; (with_reducible refine (awake17 P _).mono ?_); rintro e w1 ⟨rfl, hB⟩)
    | (go_at_call 8; first
       | ((with_reducible refine (P.adds (h := (1048575 + (1 + m))) (b := (1)) (s := 9) (a := 0) (c := 0) (e := 1700) (wd_no (.inl HW.out)).2.1 (wd_no (.inl HW.out)).2.2 (wd_no (.inl HW.out)).1 _).mono ?_); rintro r w2 ⟨rfl, hb⟩; replace hB := wpab ((hB.alloc hB.size _).alloc (by simp; have := hB.size; omega) _) hb; have kw := (Blk.new' (w1.alloc _) (w1.heap.size + 1) (by simp) #[.int .i64 (1048575 + (1 + m)), .int .i64 (1)] TWd).step hb; clear hb)
       | ((with_reducible refine (P.adds (h := 1048575) (b := 4294967295) (s := (1048575 + (1 + m))) (a := 0) (c := 0) (e := 1700) HS.out.2.1 HS.out.2.2 HS.out.1 _).mono ?_); rintro r w3 ⟨rfl, hb⟩; replace hB := wpab ((hB.alloc hB.size _).alloc (by simp; have := hB.size; omega) _) hb; replace kw := ((kw.alloc _).alloc _).step hb; have kg := (Blk.new' (w2.alloc _) (w2.heap.size + 1) (by simp) #[.int .i64 1048575, .int .i64 4294967295] TWd).step hb; have eg := (kg.alloc (.cells #[.int .i64 0, .int .i64 0] TWd)).cell; clear hb)
       | ((with_reducible refine (P.adds (h := 1048575) (b := 4294967295) (s := (-(1 + m))) (a := 0) (c := 0) (e := 1700) HN.out.2.1 HN.out.2.2 HN.out.1 _).mono ?_); rintro r w4 ⟨rfl, hb⟩; replace hB := wpab (hB.alloc hB.size _) hb; replace kw := (kw.alloc _).step hb; replace kg := (kg.alloc _).step hb; have eg := (kg.alloc (.cells #[.int .i64 0, .int .i64 0] TWd)).cell; clear hb)
       | ((with_reducible refine (P.adds (h := 1048575) (b := 4294967295) (s := 1048575) (a := 0) (c := 0) (e := 1701) (by decide) (by decide) (by decide) _).mono ?_); rintro r w5 ⟨rfl, hb⟩; replace hB := wpab (hB.alloc hB.size _) hb; replace kw := (kw.alloc _).step hb; replace kg := (kg.alloc _).step hb; clear hb)
       | ((with_reducible refine (P.adds (h := 3) (b := 1) (s := 0) (a := 3) (c := 9) (e := 0) (by decide) (by decide) (by decide) _).mono ?_); rintro r w6 ⟨rfl, hb⟩; replace hB := wpab (hB.alloc hB.size _) hb; replace hB := hB.alloc hB.size (.cells #[.int .i64 3, .int .i64 9] TWd); replace kw := ((kw.alloc _).step hb).alloc (.cells #[.int .i64 3, .int .i64 9] TWd); replace kg := ((kg.alloc _).step hb).alloc (.cells #[.int .i64 3, .int .i64 9] TWd); have ky := Blk.new w6 #[.int .i64 3, .int .i64 9] TWd; have ew := kw.cell; have eg := kg.cell; have ey := ky.cell; clear hb))
    | (go_at_call 11; first
       | ((with_reducible refine (P.mays (h := (1048575 + (1 + m))) (b := (1)) (r := false) HW.out _).mono ?_); rintro r w7 ⟨rfl, hb⟩; replace hB := wpab hB hb; replace kg := kg.step hb; replace ky := ky.step hb; have eg := kg.cell; have ey := ky.cell; clear hb)
       | ((with_reducible refine (P.mays (h := 1048575) (b := 4294967295) (r := true) (by decide) _).mono ?_); rintro r w8 ⟨rfl, hb⟩; replace hB := wpab hB hb; replace ky := ky.step hb; have ey := ky.cell; clear hb))
    | (go_at_call 10; (with_reducible refine (lnum _ _).mono ?_); rintro e wn ⟨rfl, rfl⟩))
  go_ret
  exact ⟨rfl, hB⟩
set_option maxRecDepth 100000 in
set_option maxHeartbeats 8000000 in
theorem wforms3 (P : WinsOk) (n x : Int) (m : Int) (w : World) (hj : (IntKind.u64.wrap n).tmod 9 = 3) (hm : bits .and .i64 x 1023 = m) (m0 : 0 ≤ m) (m1 : m ≤ 1023) :
    Calls Try.prog 5 #[.int .i64 n, .int .i64 x] w fun e w' => e = .returned (.bool true) ∧ Below w.heap.size w w' := by
  have HW := Lib.hid (show wdMay (50) (0) = false from by decide)
  have HS := Lib.hid (wd_no (h := 1048575) (b := 4294967295) (s := 1048575 + (1 + m)) (.inr (.inr (by omega))))
  have HN := Lib.hid (wd_no (h := 1048575) (b := 4294967295) (s := -(1 + m)) (.inr (.inl (by omega))))
  go_enter Try.func5, Try.ntmps5
  go_wp2_with (first
    | (go_at_call 13; (with_reducible refine (awake17 P _).mono ?_); rintro e w1 ⟨rfl, hB⟩)
    | (go_at_call 8; first
       | ((with_reducible refine (P.adds (h := (50)) (b := (0)) (s := 9) (a := 0) (c := 0) (e := 1700) (wd_no (.inl HW.out)).2.1 (wd_no (.inl HW.out)).2.2 (wd_no (.inl HW.out)).1 _).mono ?_); rintro r w2 ⟨rfl, hb⟩; replace hB := wpab ((hB.alloc hB.size _).alloc (by simp; have := hB.size; omega) _) hb; have kw := (Blk.new' (w1.alloc _) (w1.heap.size + 1) (by simp) #[.int .i64 (50), .int .i64 (0)] TWd).step hb; clear hb)
       | ((with_reducible refine (P.adds (h := 1048575) (b := 4294967295) (s := (1048575 + (1 + m))) (a := 0) (c := 0) (e := 1700) HS.out.2.1 HS.out.2.2 HS.out.1 _).mono ?_); rintro r w3 ⟨rfl, hb⟩; replace hB := wpab ((hB.alloc hB.size _).alloc (by simp; have := hB.size; omega) _) hb; replace kw := ((kw.alloc _).alloc _).step hb; have kg := (Blk.new' (w2.alloc _) (w2.heap.size + 1) (by simp) #[.int .i64 1048575, .int .i64 4294967295] TWd).step hb; have eg := (kg.alloc (.cells #[.int .i64 0, .int .i64 0] TWd)).cell; clear hb)
       | ((with_reducible refine (P.adds (h := 1048575) (b := 4294967295) (s := (-(1 + m))) (a := 0) (c := 0) (e := 1700) HN.out.2.1 HN.out.2.2 HN.out.1 _).mono ?_); rintro r w4 ⟨rfl, hb⟩; replace hB := wpab (hB.alloc hB.size _) hb; replace kw := (kw.alloc _).step hb; replace kg := (kg.alloc _).step hb; have eg := (kg.alloc (.cells #[.int .i64 0, .int .i64 0] TWd)).cell; clear hb)
       | ((with_reducible refine (P.adds (h := 1048575) (b := 4294967295) (s := 1048575) (a := 0) (c := 0) (e := 1701) (by decide) (by decide) (by decide) _).mono ?_); rintro r w5 ⟨rfl, hb⟩; replace hB := wpab (hB.alloc hB.size _) hb; replace kw := (kw.alloc _).step hb; replace kg := (kg.alloc _).step hb; clear hb)
       | ((with_reducible refine (P.adds (h := 3) (b := 1) (s := 0) (a := 3) (c := 9) (e := 0) (by decide) (by decide) (by decide) _).mono ?_); rintro r w6 ⟨rfl, hb⟩; replace hB := wpab (hB.alloc hB.size _) hb; replace hB := hB.alloc hB.size (.cells #[.int .i64 3, .int .i64 9] TWd); replace kw := ((kw.alloc _).step hb).alloc (.cells #[.int .i64 3, .int .i64 9] TWd); replace kg := ((kg.alloc _).step hb).alloc (.cells #[.int .i64 3, .int .i64 9] TWd); have ky := Blk.new w6 #[.int .i64 3, .int .i64 9] TWd; have ew := kw.cell; have eg := kg.cell; have ey := ky.cell; clear hb))
    | (go_at_call 11; first
       | ((with_reducible refine (P.mays (h := (50)) (b := (0)) (r := false) HW.out _).mono ?_); rintro r w7 ⟨rfl, hb⟩; replace hB := wpab hB hb; replace kg := kg.step hb; replace ky := ky.step hb; have eg := kg.cell; have ey := ky.cell; clear hb)
       | ((with_reducible refine (P.mays (h := 1048575) (b := 4294967295) (r := true) (by decide) _).mono ?_); rintro r w8 ⟨rfl, hb⟩; replace hB := wpab hB hb; replace ky := ky.step hb; have ey := ky.cell; clear hb))
    | (go_at_call 10; (with_reducible refine (lnum _ _).mono ?_); rintro e wn ⟨rfl, rfl⟩))
  go_ret
  exact ⟨rfl, hB⟩
set_option maxRecDepth 100000 in
set_option maxHeartbeats 8000000 in
theorem wforms4 (P : WinsOk) (n x : Int) (m : Int) (w : World) (hj : (IntKind.u64.wrap n).tmod 9 = 4) (hm : bits .and .i64 x 1023 = m) (m0 : 0 ≤ m) (m1 : m ≤ 1023) :
    Calls Try.prog 5 #[.int .i64 n, .int .i64 x] w fun e w' => e = .returned (.bool true) ∧ Below w.heap.size w w' := by
  have HW := Lib.hid (show wdMay (50) (2) = false from by decide)
  have HS := Lib.hid (wd_no (h := 1048575) (b := 4294967295) (s := 1048575 + (1 + m)) (.inr (.inr (by omega))))
  have HN := Lib.hid (wd_no (h := 1048575) (b := 4294967295) (s := -(1 + m)) (.inr (.inl (by omega))))
  go_enter Try.func5, Try.ntmps5
  go_wp2_with (first
    | (go_at_call 13; (with_reducible refine (awake17 P _).mono ?_); rintro e w1 ⟨rfl, hB⟩)
    | (go_at_call 8; first
       | ((with_reducible refine (P.adds (h := (50)) (b := (2)) (s := 9) (a := 0) (c := 0) (e := 1700) (wd_no (.inl HW.out)).2.1 (wd_no (.inl HW.out)).2.2 (wd_no (.inl HW.out)).1 _).mono ?_); rintro r w2 ⟨rfl, hb⟩; replace hB := wpab ((hB.alloc hB.size _).alloc (by simp; have := hB.size; omega) _) hb; have kw := (Blk.new' (w1.alloc _) (w1.heap.size + 1) (by simp) #[.int .i64 (50), .int .i64 (2)] TWd).step hb; clear hb)
       | ((with_reducible refine (P.adds (h := 1048575) (b := 4294967295) (s := (1048575 + (1 + m))) (a := 0) (c := 0) (e := 1700) HS.out.2.1 HS.out.2.2 HS.out.1 _).mono ?_); rintro r w3 ⟨rfl, hb⟩; replace hB := wpab ((hB.alloc hB.size _).alloc (by simp; have := hB.size; omega) _) hb; replace kw := ((kw.alloc _).alloc _).step hb; have kg := (Blk.new' (w2.alloc _) (w2.heap.size + 1) (by simp) #[.int .i64 1048575, .int .i64 4294967295] TWd).step hb; have eg := (kg.alloc (.cells #[.int .i64 0, .int .i64 0] TWd)).cell; clear hb)
       | ((with_reducible refine (P.adds (h := 1048575) (b := 4294967295) (s := (-(1 + m))) (a := 0) (c := 0) (e := 1700) HN.out.2.1 HN.out.2.2 HN.out.1 _).mono ?_); rintro r w4 ⟨rfl, hb⟩; replace hB := wpab (hB.alloc hB.size _) hb; replace kw := (kw.alloc _).step hb; replace kg := (kg.alloc _).step hb; have eg := (kg.alloc (.cells #[.int .i64 0, .int .i64 0] TWd)).cell; clear hb)
       | ((with_reducible refine (P.adds (h := 1048575) (b := 4294967295) (s := 1048575) (a := 0) (c := 0) (e := 1701) (by decide) (by decide) (by decide) _).mono ?_); rintro r w5 ⟨rfl, hb⟩; replace hB := wpab (hB.alloc hB.size _) hb; replace kw := (kw.alloc _).step hb; replace kg := (kg.alloc _).step hb; clear hb)
       | ((with_reducible refine (P.adds (h := 3) (b := 1) (s := 0) (a := 3) (c := 9) (e := 0) (by decide) (by decide) (by decide) _).mono ?_); rintro r w6 ⟨rfl, hb⟩; replace hB := wpab (hB.alloc hB.size _) hb; replace hB := hB.alloc hB.size (.cells #[.int .i64 3, .int .i64 9] TWd); replace kw := ((kw.alloc _).step hb).alloc (.cells #[.int .i64 3, .int .i64 9] TWd); replace kg := ((kg.alloc _).step hb).alloc (.cells #[.int .i64 3, .int .i64 9] TWd); have ky := Blk.new w6 #[.int .i64 3, .int .i64 9] TWd; have ew := kw.cell; have eg := kg.cell; have ey := ky.cell; clear hb))
    | (go_at_call 11; first
       | ((with_reducible refine (P.mays (h := (50)) (b := (2)) (r := false) HW.out _).mono ?_); rintro r w7 ⟨rfl, hb⟩; replace hB := wpab hB hb; replace kg := kg.step hb; replace ky := ky.step hb; have eg := kg.cell; have ey := ky.cell; clear hb)
       | ((with_reducible refine (P.mays (h := 1048575) (b := 4294967295) (r := true) (by decide) _).mono ?_); rintro r w8 ⟨rfl, hb⟩; replace hB := wpab hB hb; replace ky := ky.step hb; have ey := ky.cell; clear hb))
    | (go_at_call 10; (with_reducible refine (lnum _ _).mono ?_); rintro e wn ⟨rfl, rfl⟩))
  go_ret
  exact ⟨rfl, hB⟩
set_option maxRecDepth 100000 in
set_option maxHeartbeats 8000000 in
theorem wforms5 (P : WinsOk) (n x : Int) (m : Int) (w : World) (hj : (IntKind.u64.wrap n).tmod 9 = 5) (hm : bits .and .i64 x 1023 = m) (m0 : 0 ≤ m) (m1 : m ≤ 1023) :
    Calls Try.prog 5 #[.int .i64 n, .int .i64 x] w fun e w' => e = .returned (.bool true) ∧ Below w.heap.size w w' := by
  have HW := Lib.hid (show wdMay (50) (-(1 + m)) = false from wdMay_no (by omega) (.inr (.inr (.inl (by omega)))))
  have HS := Lib.hid (wd_no (h := 1048575) (b := 4294967295) (s := 1048575 + (1 + m)) (.inr (.inr (by omega))))
  have HN := Lib.hid (wd_no (h := 1048575) (b := 4294967295) (s := -(1 + m)) (.inr (.inl (by omega))))
  go_enter Try.func5, Try.ntmps5
  go_wp2_with (first
    | (go_at_call 13; (with_reducible refine (awake17 P _).mono ?_); rintro e w1 ⟨rfl, hB⟩)
    | (go_at_call 8; first
       | ((with_reducible refine (P.adds (h := (50)) (b := (-(1 + m))) (s := 9) (a := 0) (c := 0) (e := 1700) (wd_no (.inl HW.out)).2.1 (wd_no (.inl HW.out)).2.2 (wd_no (.inl HW.out)).1 _).mono ?_); rintro r w2 ⟨rfl, hb⟩; replace hB := wpab ((hB.alloc hB.size _).alloc (by simp; have := hB.size; omega) _) hb; have kw := (Blk.new' (w1.alloc _) (w1.heap.size + 1) (by simp) #[.int .i64 (50), .int .i64 (-(1 + m))] TWd).step hb; clear hb)
       | ((with_reducible refine (P.adds (h := 1048575) (b := 4294967295) (s := (1048575 + (1 + m))) (a := 0) (c := 0) (e := 1700) HS.out.2.1 HS.out.2.2 HS.out.1 _).mono ?_); rintro r w3 ⟨rfl, hb⟩; replace hB := wpab ((hB.alloc hB.size _).alloc (by simp; have := hB.size; omega) _) hb; replace kw := ((kw.alloc _).alloc _).step hb; have kg := (Blk.new' (w2.alloc _) (w2.heap.size + 1) (by simp) #[.int .i64 1048575, .int .i64 4294967295] TWd).step hb; have eg := (kg.alloc (.cells #[.int .i64 0, .int .i64 0] TWd)).cell; clear hb)
       | ((with_reducible refine (P.adds (h := 1048575) (b := 4294967295) (s := (-(1 + m))) (a := 0) (c := 0) (e := 1700) HN.out.2.1 HN.out.2.2 HN.out.1 _).mono ?_); rintro r w4 ⟨rfl, hb⟩; replace hB := wpab (hB.alloc hB.size _) hb; replace kw := (kw.alloc _).step hb; replace kg := (kg.alloc _).step hb; have eg := (kg.alloc (.cells #[.int .i64 0, .int .i64 0] TWd)).cell; clear hb)
       | ((with_reducible refine (P.adds (h := 1048575) (b := 4294967295) (s := 1048575) (a := 0) (c := 0) (e := 1701) (by decide) (by decide) (by decide) _).mono ?_); rintro r w5 ⟨rfl, hb⟩; replace hB := wpab (hB.alloc hB.size _) hb; replace kw := (kw.alloc _).step hb; replace kg := (kg.alloc _).step hb; clear hb)
       | ((with_reducible refine (P.adds (h := 3) (b := 1) (s := 0) (a := 3) (c := 9) (e := 0) (by decide) (by decide) (by decide) _).mono ?_); rintro r w6 ⟨rfl, hb⟩; replace hB := wpab (hB.alloc hB.size _) hb; replace hB := hB.alloc hB.size (.cells #[.int .i64 3, .int .i64 9] TWd); replace kw := ((kw.alloc _).step hb).alloc (.cells #[.int .i64 3, .int .i64 9] TWd); replace kg := ((kg.alloc _).step hb).alloc (.cells #[.int .i64 3, .int .i64 9] TWd); have ky := Blk.new w6 #[.int .i64 3, .int .i64 9] TWd; have ew := kw.cell; have eg := kg.cell; have ey := ky.cell; clear hb))
    | (go_at_call 11; first
       | ((with_reducible refine (P.mays (h := (50)) (b := (-(1 + m))) (r := false) HW.out _).mono ?_); rintro r w7 ⟨rfl, hb⟩; replace hB := wpab hB hb; replace kg := kg.step hb; replace ky := ky.step hb; have eg := kg.cell; have ey := ky.cell; clear hb)
       | ((with_reducible refine (P.mays (h := 1048575) (b := 4294967295) (r := true) (by decide) _).mono ?_); rintro r w8 ⟨rfl, hb⟩; replace hB := wpab hB hb; replace ky := ky.step hb; have ey := ky.cell; clear hb))
    | (go_at_call 10; (with_reducible refine (lnum _ _).mono ?_); rintro e wn ⟨rfl, rfl⟩))
  go_ret
  exact ⟨rfl, hB⟩
set_option maxRecDepth 100000 in
set_option maxHeartbeats 8000000 in
theorem wforms6 (P : WinsOk) (n x : Int) (m : Int) (w : World) (hj : (IntKind.u64.wrap n).tmod 9 = 6) (hm : bits .and .i64 x 1023 = m) (m0 : 0 ≤ m) (m1 : m ≤ 1023) :
    Calls Try.prog 5 #[.int .i64 n, .int .i64 x] w fun e w' => e = .returned (.bool true) ∧ Below w.heap.size w w' := by
  have HW := Lib.hid (show wdMay (50) (4294967297) = false from by decide)
  have HS := Lib.hid (wd_no (h := 1048575) (b := 4294967295) (s := 1048575 + (1 + m)) (.inr (.inr (by omega))))
  have HN := Lib.hid (wd_no (h := 1048575) (b := 4294967295) (s := -(1 + m)) (.inr (.inl (by omega))))
  go_enter Try.func5, Try.ntmps5
  go_wp2_with (first
    | (go_at_call 13; (with_reducible refine (awake17 P _).mono ?_); rintro e w1 ⟨rfl, hB⟩)
    | (go_at_call 8; first
       | ((with_reducible refine (P.adds (h := (50)) (b := (4294967297)) (s := 9) (a := 0) (c := 0) (e := 1700) (wd_no (.inl HW.out)).2.1 (wd_no (.inl HW.out)).2.2 (wd_no (.inl HW.out)).1 _).mono ?_); rintro r w2 ⟨rfl, hb⟩; replace hB := wpab ((hB.alloc hB.size _).alloc (by simp; have := hB.size; omega) _) hb; have kw := (Blk.new' (w1.alloc _) (w1.heap.size + 1) (by simp) #[.int .i64 (50), .int .i64 (4294967297)] TWd).step hb; clear hb)
       | ((with_reducible refine (P.adds (h := 1048575) (b := 4294967295) (s := (1048575 + (1 + m))) (a := 0) (c := 0) (e := 1700) HS.out.2.1 HS.out.2.2 HS.out.1 _).mono ?_); rintro r w3 ⟨rfl, hb⟩; replace hB := wpab ((hB.alloc hB.size _).alloc (by simp; have := hB.size; omega) _) hb; replace kw := ((kw.alloc _).alloc _).step hb; have kg := (Blk.new' (w2.alloc _) (w2.heap.size + 1) (by simp) #[.int .i64 1048575, .int .i64 4294967295] TWd).step hb; have eg := (kg.alloc (.cells #[.int .i64 0, .int .i64 0] TWd)).cell; clear hb)
       | ((with_reducible refine (P.adds (h := 1048575) (b := 4294967295) (s := (-(1 + m))) (a := 0) (c := 0) (e := 1700) HN.out.2.1 HN.out.2.2 HN.out.1 _).mono ?_); rintro r w4 ⟨rfl, hb⟩; replace hB := wpab (hB.alloc hB.size _) hb; replace kw := (kw.alloc _).step hb; replace kg := (kg.alloc _).step hb; have eg := (kg.alloc (.cells #[.int .i64 0, .int .i64 0] TWd)).cell; clear hb)
       | ((with_reducible refine (P.adds (h := 1048575) (b := 4294967295) (s := 1048575) (a := 0) (c := 0) (e := 1701) (by decide) (by decide) (by decide) _).mono ?_); rintro r w5 ⟨rfl, hb⟩; replace hB := wpab (hB.alloc hB.size _) hb; replace kw := (kw.alloc _).step hb; replace kg := (kg.alloc _).step hb; clear hb)
       | ((with_reducible refine (P.adds (h := 3) (b := 1) (s := 0) (a := 3) (c := 9) (e := 0) (by decide) (by decide) (by decide) _).mono ?_); rintro r w6 ⟨rfl, hb⟩; replace hB := wpab (hB.alloc hB.size _) hb; replace hB := hB.alloc hB.size (.cells #[.int .i64 3, .int .i64 9] TWd); replace kw := ((kw.alloc _).step hb).alloc (.cells #[.int .i64 3, .int .i64 9] TWd); replace kg := ((kg.alloc _).step hb).alloc (.cells #[.int .i64 3, .int .i64 9] TWd); have ky := Blk.new w6 #[.int .i64 3, .int .i64 9] TWd; have ew := kw.cell; have eg := kg.cell; have ey := ky.cell; clear hb))
    | (go_at_call 11; first
       | ((with_reducible refine (P.mays (h := (50)) (b := (4294967297)) (r := false) HW.out _).mono ?_); rintro r w7 ⟨rfl, hb⟩; replace hB := wpab hB hb; replace kg := kg.step hb; replace ky := ky.step hb; have eg := kg.cell; have ey := ky.cell; clear hb)
       | ((with_reducible refine (P.mays (h := 1048575) (b := 4294967295) (r := true) (by decide) _).mono ?_); rintro r w8 ⟨rfl, hb⟩; replace hB := wpab hB hb; replace ky := ky.step hb; have ey := ky.cell; clear hb))
    | (go_at_call 10; (with_reducible refine (lnum _ _).mono ?_); rintro e wn ⟨rfl, rfl⟩))
  go_ret
  exact ⟨rfl, hB⟩
set_option maxRecDepth 100000 in
set_option maxHeartbeats 8000000 in
theorem wforms7 (P : WinsOk) (n x : Int) (m : Int) (w : World) (hj : (IntKind.u64.wrap n).tmod 9 = 7) (hm : bits .and .i64 x 1023 = m) (m0 : 0 ≤ m) (m1 : m ≤ 1023) :
    Calls Try.prog 5 #[.int .i64 n, .int .i64 x] w fun e w' => e = .returned (.bool true) ∧ Below w.heap.size w w' := by
  have HW := Lib.hid (show wdMay (3) (17) = false from by decide)
  have HS := Lib.hid (wd_no (h := 1048575) (b := 4294967295) (s := 1048575 + (1 + m)) (.inr (.inr (by omega))))
  have HN := Lib.hid (wd_no (h := 1048575) (b := 4294967295) (s := -(1 + m)) (.inr (.inl (by omega))))
  go_enter Try.func5, Try.ntmps5
  go_wp2_with (first
    | (go_at_call 13; (with_reducible refine (awake17 P _).mono ?_); rintro e w1 ⟨rfl, hB⟩)
    | (go_at_call 8; first
       | ((with_reducible refine (P.adds (h := (3)) (b := (17)) (s := 9) (a := 0) (c := 0) (e := 1700) (wd_no (.inl HW.out)).2.1 (wd_no (.inl HW.out)).2.2 (wd_no (.inl HW.out)).1 _).mono ?_); rintro r w2 ⟨rfl, hb⟩; replace hB := wpab ((hB.alloc hB.size _).alloc (by simp; have := hB.size; omega) _) hb; have kw := (Blk.new' (w1.alloc _) (w1.heap.size + 1) (by simp) #[.int .i64 (3), .int .i64 (17)] TWd).step hb; clear hb)
       | ((with_reducible refine (P.adds (h := 1048575) (b := 4294967295) (s := (1048575 + (1 + m))) (a := 0) (c := 0) (e := 1700) HS.out.2.1 HS.out.2.2 HS.out.1 _).mono ?_); rintro r w3 ⟨rfl, hb⟩; replace hB := wpab ((hB.alloc hB.size _).alloc (by simp; have := hB.size; omega) _) hb; replace kw := ((kw.alloc _).alloc _).step hb; have kg := (Blk.new' (w2.alloc _) (w2.heap.size + 1) (by simp) #[.int .i64 1048575, .int .i64 4294967295] TWd).step hb; have eg := (kg.alloc (.cells #[.int .i64 0, .int .i64 0] TWd)).cell; clear hb)
       | ((with_reducible refine (P.adds (h := 1048575) (b := 4294967295) (s := (-(1 + m))) (a := 0) (c := 0) (e := 1700) HN.out.2.1 HN.out.2.2 HN.out.1 _).mono ?_); rintro r w4 ⟨rfl, hb⟩; replace hB := wpab (hB.alloc hB.size _) hb; replace kw := (kw.alloc _).step hb; replace kg := (kg.alloc _).step hb; have eg := (kg.alloc (.cells #[.int .i64 0, .int .i64 0] TWd)).cell; clear hb)
       | ((with_reducible refine (P.adds (h := 1048575) (b := 4294967295) (s := 1048575) (a := 0) (c := 0) (e := 1701) (by decide) (by decide) (by decide) _).mono ?_); rintro r w5 ⟨rfl, hb⟩; replace hB := wpab (hB.alloc hB.size _) hb; replace kw := (kw.alloc _).step hb; replace kg := (kg.alloc _).step hb; clear hb)
       | ((with_reducible refine (P.adds (h := 3) (b := 1) (s := 0) (a := 3) (c := 9) (e := 0) (by decide) (by decide) (by decide) _).mono ?_); rintro r w6 ⟨rfl, hb⟩; replace hB := wpab (hB.alloc hB.size _) hb; replace hB := hB.alloc hB.size (.cells #[.int .i64 3, .int .i64 9] TWd); replace kw := ((kw.alloc _).step hb).alloc (.cells #[.int .i64 3, .int .i64 9] TWd); replace kg := ((kg.alloc _).step hb).alloc (.cells #[.int .i64 3, .int .i64 9] TWd); have ky := Blk.new w6 #[.int .i64 3, .int .i64 9] TWd; have ew := kw.cell; have eg := kg.cell; have ey := ky.cell; clear hb))
    | (go_at_call 11; first
       | ((with_reducible refine (P.mays (h := (3)) (b := (17)) (r := false) HW.out _).mono ?_); rintro r w7 ⟨rfl, hb⟩; replace hB := wpab hB hb; replace kg := kg.step hb; replace ky := ky.step hb; have eg := kg.cell; have ey := ky.cell; clear hb)
       | ((with_reducible refine (P.mays (h := 1048575) (b := 4294967295) (r := true) (by decide) _).mono ?_); rintro r w8 ⟨rfl, hb⟩; replace hB := wpab hB hb; replace ky := ky.step hb; have ey := ky.cell; clear hb))
    | (go_at_call 10; (with_reducible refine (lnum _ _).mono ?_); rintro e wn ⟨rfl, rfl⟩))
  go_ret
  exact ⟨rfl, hB⟩
set_option maxRecDepth 100000 in
set_option maxHeartbeats 8000000 in
theorem wforms8 (P : WinsOk) (n x : Int) (m : Int) (w : World) (hj : (IntKind.u64.wrap n).tmod 9 = 8) (hm : bits .and .i64 x 1023 = m) (m0 : 0 ≤ m) (m1 : m ≤ 1023) :
    Calls Try.prog 5 #[.int .i64 n, .int .i64 x] w fun e w' => e = .returned (.bool true) ∧ Below w.heap.size w w' := by
  have HW := Lib.hid (show wdMay (0) (0) = false from by decide)
  have HS := Lib.hid (wd_no (h := 1048575) (b := 4294967295) (s := 1048575 + (1 + m)) (.inr (.inr (by omega))))
  have HN := Lib.hid (wd_no (h := 1048575) (b := 4294967295) (s := -(1 + m)) (.inr (.inl (by omega))))
  go_enter Try.func5, Try.ntmps5
  go_wp2_with (first
    | (go_at_call 13; (with_reducible refine (awake17 P _).mono ?_); rintro e w1 ⟨rfl, hB⟩)
    | (go_at_call 8; first
       | ((with_reducible refine (P.adds (h := (0)) (b := (0)) (s := 9) (a := 0) (c := 0) (e := 1700) (wd_no (.inl HW.out)).2.1 (wd_no (.inl HW.out)).2.2 (wd_no (.inl HW.out)).1 _).mono ?_); rintro r w2 ⟨rfl, hb⟩; replace hB := wpab ((hB.alloc hB.size _).alloc (by simp; have := hB.size; omega) _) hb; have kw := (Blk.new' (w1.alloc _) (w1.heap.size + 1) (by simp) #[.int .i64 (0), .int .i64 (0)] TWd).step hb; clear hb)
       | ((with_reducible refine (P.adds (h := 1048575) (b := 4294967295) (s := (1048575 + (1 + m))) (a := 0) (c := 0) (e := 1700) HS.out.2.1 HS.out.2.2 HS.out.1 _).mono ?_); rintro r w3 ⟨rfl, hb⟩; replace hB := wpab ((hB.alloc hB.size _).alloc (by simp; have := hB.size; omega) _) hb; replace kw := ((kw.alloc _).alloc _).step hb; have kg := (Blk.new' (w2.alloc _) (w2.heap.size + 1) (by simp) #[.int .i64 1048575, .int .i64 4294967295] TWd).step hb; have eg := (kg.alloc (.cells #[.int .i64 0, .int .i64 0] TWd)).cell; clear hb)
       | ((with_reducible refine (P.adds (h := 1048575) (b := 4294967295) (s := (-(1 + m))) (a := 0) (c := 0) (e := 1700) HN.out.2.1 HN.out.2.2 HN.out.1 _).mono ?_); rintro r w4 ⟨rfl, hb⟩; replace hB := wpab (hB.alloc hB.size _) hb; replace kw := (kw.alloc _).step hb; replace kg := (kg.alloc _).step hb; have eg := (kg.alloc (.cells #[.int .i64 0, .int .i64 0] TWd)).cell; clear hb)
       | ((with_reducible refine (P.adds (h := 1048575) (b := 4294967295) (s := 1048575) (a := 0) (c := 0) (e := 1701) (by decide) (by decide) (by decide) _).mono ?_); rintro r w5 ⟨rfl, hb⟩; replace hB := wpab (hB.alloc hB.size _) hb; replace kw := (kw.alloc _).step hb; replace kg := (kg.alloc _).step hb; clear hb)
       | ((with_reducible refine (P.adds (h := 3) (b := 1) (s := 0) (a := 3) (c := 9) (e := 0) (by decide) (by decide) (by decide) _).mono ?_); rintro r w6 ⟨rfl, hb⟩; replace hB := wpab (hB.alloc hB.size _) hb; replace hB := hB.alloc hB.size (.cells #[.int .i64 3, .int .i64 9] TWd); replace kw := ((kw.alloc _).step hb).alloc (.cells #[.int .i64 3, .int .i64 9] TWd); replace kg := ((kg.alloc _).step hb).alloc (.cells #[.int .i64 3, .int .i64 9] TWd); have ky := Blk.new w6 #[.int .i64 3, .int .i64 9] TWd; have ew := kw.cell; have eg := kg.cell; have ey := ky.cell; clear hb))
    | (go_at_call 11; first
       | ((with_reducible refine (P.mays (h := (0)) (b := (0)) (r := false) HW.out _).mono ?_); rintro r w7 ⟨rfl, hb⟩; replace hB := wpab hB hb; replace kg := kg.step hb; replace ky := ky.step hb; have eg := kg.cell; have ey := ky.cell; clear hb)
       | ((with_reducible refine (P.mays (h := 1048575) (b := 4294967295) (r := true) (by decide) _).mono ?_); rintro r w8 ⟨rfl, hb⟩; replace hB := wpab hB hb; replace ky := ky.step hb; have ey := ky.cell; clear hb))
    | (go_at_call 10; (with_reducible refine (lnum _ _).mono ?_); rintro e wn ⟨rfl, rfl⟩))
  go_ret
  exact ⟨rfl, hB⟩
theorem wforms (P : WinsOk) (n x : Int) (w : World) : Calls Try.prog 5 #[.int .i64 n, .int .i64 x] w fun e w' => e = .returned (.bool true) ∧ Below w.heap.size w w' := by
  have hu0 : 0 ≤ IntKind.u64.wrap n := by rw [IntKind.wrap_u64]; omega
  have hm := i64_mask x 10 (by omega)
  rw [show ((2 ^ 10 - 1 : Nat) : Int) = 1023 from by decide, show ((2 ^ 10 : Nat) : Int) = 1024 from by decide] at hm
  have h0 : 0 ≤ (IntKind.u64.wrap n).tmod 9 := by rw [Int.tmod_eq_emod_of_nonneg hu0]; omega
  have h1 : (IntKind.u64.wrap n).tmod 9 < 9 := by rw [Int.tmod_eq_emod_of_nonneg hu0]; omega
  generalize hk : (IntKind.u64.wrap n).tmod 9 = k at h0 h1
  rcases (show k = 0 ∨ k = 1 ∨ k = 2 ∨ k = 3 ∨ k = 4 ∨ k = 5 ∨ k = 6 ∨ k = 7 ∨ k = 8 by omega) with rfl | rfl | rfl | rfl | rfl | rfl | rfl | rfl | rfl
  · exact wforms0 P n x _ w hk hm (by omega) (by omega)
  · exact wforms1 P n x _ w hk hm (by omega) (by omega)
  · exact wforms2 P n x _ w hk hm (by omega) (by omega)
  · exact wforms3 P n x _ w hk hm (by omega) (by omega)
  · exact wforms4 P n x _ w hk hm (by omega) (by omega)
  · exact wforms5 P n x _ w hk hm (by omega) (by omega)
  · exact wforms6 P n x _ w hk hm (by omega) (by omega)
  · exact wforms7 P n x _ w hk hm (by omega) (by omega)
  · exact wforms8 P n x _ w hk hm (by omega) (by omega)
end Go.Proofs.Yticncfaokapplaa
