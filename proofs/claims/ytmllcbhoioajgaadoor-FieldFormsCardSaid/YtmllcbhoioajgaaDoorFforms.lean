/- The walk of FieldForms: first bytes, numbers, texts and places that are none. Condition: errors.errorType holds the handle of the type error. -/
import Derived.Test.YtmllcbhoioajgaaDoorFsizes
namespace Go.Proofs.YtmllcbhoioajgaaDoor
open Go.RowKit

theorem Gr.alloc {w0 w : World} (h : Gr w0 w) (o : Obj) : Gr w0 (w.alloc o) := h.step ((Below.refl _ _).alloc (Nat.le_refl _) o)
/-- Called so, the function answers v, and of what was there nothing has turned. -/
def Fn (f : Nat) (args : Array Value) (v : Value) : Prop := ∀ w0 W, Gr w0 W → Calls Tryd.prog f args W fun e w' => e = .returned v ∧ Gr w0 w'
theorem Fn.go {f : Nat} {args : Array Value} {v : Value} (h : Fn f args v) {w0 W : World} (hr : Gr w0 W) : Calls Tryd.prog f args W fun e w' => e = .returned v ∧ Gr w0 w' := h w0 W hr
theorem Fn.mk {f : Nat} {args : Array Value} {v : Value} (h : ∀ W, Gd W → Calls Tryd.prog f args W fun e w' => e = .returned v ∧ Below W.heap.size W w') : Fn f args v :=
  fun _ W hr => (h W hr.good).mono fun _ _ ⟨he, hb⟩ => ⟨he, hr.step hb⟩
theorem fn_awake : Fn 17 #[] (.bool true) := Fn.mk fun W hg => (awake W hg).mono fun _ _ ⟨he, hb⟩ => ⟨he, hb.below⟩
theorem cget (s : ByteArray) (a x t e : Int) (hs : s.size ≤ 9223372036854770000) (ha0 : -9223372036854775808 ≤ a) (ha1 : a ≤ 9223372036854775807) (h1 : getX s a = x) (h2 : getTo s a = t) (h3 : getE s a = e) (w : World) (hg : Gd w) :
    Calls Tryd.prog 11 #[.string s, .int .i64 a] w fun en w' => en = .returned (.tuple #[.int .i64 x, .int .i64 t, .int .i64 e]) ∧ Below w.heap.size w w' := by
  have := fget s a w hs ha0 ha1 hg
  rwa [h1, h2, h3] at this
theorem cgete (s : ByteArray) (a e : Int) (hs : s.size ≤ 9223372036854770000) (ha0 : -9223372036854775808 ≤ a) (ha1 : a ≤ 9223372036854775807) (h3 : getE s a = e) (h0 : e ≠ 0) (w : World) (hg : Gd w) :
    Calls Tryd.prog 11 #[.string s, .int .i64 a] w fun en w' => en = .returned (.tuple #[.int .i64 0, .int .i64 0, .int .i64 e]) ∧ Below w.heap.size w w' :=
  cget s a 0 0 e hs ha0 ha1 (getX_ne (by rw [h3]; exact h0)) (getTo_ne (by rw [h3]; exact h0)) h3 w hg

/-- Nine zeros. -/
def z9 : ByteArray := ⟨#[0, 0, 0, 0, 0, 0, 0, 0, 0]⟩
theorem make9 (w : World) : (Instr.makeSlice 45 (.int .i64 9) (.int .i64 9)).run Tryd.prog w = .ok (.slice (some ⟨w.heap.size, 0, none⟩) 9 9) (w.alloc (.cells #[.int .u8 0, .int .u8 0, .int .u8 0, .int .u8 0, .int .u8 0, .int .u8 0, .int .u8 0, .int .u8 0, .int .u8 0] 5)) := by kernel_rfl
theorem conv9 (W : World) : (convert 45 9 (.slice (some ⟨W.heap.size, 0, none⟩) 9 9)).run Tryd.prog (W.alloc (.cells #[.int .u8 0, .int .u8 0, .int .u8 0, .int .u8 0, .int .u8 0, .int .u8 0, .int .u8 0, .int .u8 0, .int .u8 0] 5))
    = .ok (.string z9) (W.alloc (.cells #[.int .u8 0, .int .u8 0, .int .u8 0, .int .u8 0, .int .u8 0, .int .u8 0, .int .u8 0, .int .u8 0, .int .u8 0] 5)) := by
  have h : (W.alloc (.cells #[.int .u8 0, .int .u8 0, .int .u8 0, .int .u8 0, .int .u8 0, .int .u8 0, .int .u8 0, .int .u8 0, .int .u8 0] 5)).ownsRow W.heap.size 5 1 (.slice (some ⟨W.heap.size, 0, none⟩) 9 9) 9 (([0, 0, 0, 0, 0, 0, 0, 0, 0] : List Int).map (Value.int .u8)) :=
    ⟨rfl, .inr ⟨W.heap.size, 9, _, rfl, Nat.le_refl _, heap_alloc_new W _, Nat.le_refl _, by unfold maxLen; omega, rfl, rfl⟩⟩
  exact conv_own h
theorem text9 : txtE (⟨#[3, 1, 0, 1]⟩ ++ z9) 0 = 100 := by kernel_rfl
theorem sz9 : z9.size = 9 := rfl
theorem ctext9 (w : World) (hg : Gd w) : Calls Tryd.prog 15 #[.string (⟨#[3, 1, 0, 1]⟩ ++ z9), .int .i64 0] w fun e w' => e = .returned (.tuple #[.string ⟨#[]⟩, .int .i64 0, .int .i64 100]) ∧ Below w.heap.size w w' := by
  have := fgett (⟨#[3, 1, 0, 1]⟩ ++ z9) 0 w (by decide) (by omega) (by omega) hg
  rwa [txtS_ne (by rw [text9]; decide), txtTo_ne (by rw [text9]; decide), text9] at this
theorem cnume (x : Int) (h0 : -9223372036854775808 ≤ x) (h1 : x ≤ 9223372036854775807) (h : x < 0 ∨ 1073741823 < x) (w : World) :
    Calls Tryd.prog 8 #[.int .i64 x] w fun e w' => e = .returned (.tuple #[.string ⟨#[]⟩, .int .i64 100]) ∧ Below w.heap.size w w' := by
  have := fnum x w h0 h1
  rwa [numS_bad h, numE_bad h] at this
theorem one_big (c : Int) (h0 : 5 ≤ c) (h1 : c ≤ 255) : getE (oneB c) 0 = 100 := by
  have hs : (oneB c).size = 1 := rfl
  have hg : gb (oneB c) 0 = c.toNat := by
    unfold gb oneB
    simp
    omega
  exact getE_big (k := 0) (by rw [hs]; omega) (by rw [hg]; omega)

theorem sel7 (c : Int) (j : Nat) (hj : j < 7) (h0 : 5 ≤ c) (h1 : c ≤ 255) : ∃ t : ByteArray,
    [Value.string ⟨#[5, 1, 1, 1, 1, 1]⟩, .string (oneB c), .string ⟨#[1, 0]⟩, .string ⟨#[4, 0, 1, 1, 1]⟩, .string ⟨#[4, 64, 0, 0, 0]⟩, .string ⟨#[4, 255, 255, 255, 255]⟩, .string ⟨#[2, 0, 0]⟩][j]'(by simpa using hj) = .string t ∧ t.size ≤ 10 ∧ getE t 0 = 100 := by
  match j, hj with
  | 0, _ => exact ⟨_, rfl, by decide, by kernel_rfl⟩
  | 1, _ => exact ⟨_, rfl, by show 1 ≤ 10; omega, one_big c h0 h1⟩
  | 2, _ => exact ⟨_, rfl, by decide, by kernel_rfl⟩
  | 3, _ => exact ⟨_, rfl, by decide, by kernel_rfl⟩
  | 4, _ => exact ⟨_, rfl, by decide, by kernel_rfl⟩
  | 5, _ => exact ⟨_, rfl, by decide, by kernel_rfl⟩
  | 6, _ => exact ⟨_, rfl, by decide, by kernel_rfl⟩

set_option maxRecDepth 100000 in
set_option maxHeartbeats 8000000 in
theorem forms_walk (n x : Int) (w : World) (hg : Gd w) :
    Calls Tryd.prog 7 #[.int .i64 n, .int .i64 x] w fun e w' => e = .returned (.bool true) ∧ Gr w w' := by
  have hr := Gr.refl hg
  have hu0 : 0 ≤ IntKind.u64.wrap n := by rw [IntKind.wrap_u64]; omega
  obtain ⟨j, hj, hj7⟩ : ∃ j : Nat, (IntKind.u64.wrap n).tmod 7 = (j : Int) ∧ j < 7 := by
    refine ⟨((IntKind.u64.wrap n) % 7).toNat, ?_, ?_⟩
    · rw [Int.tmod_eq_emod_of_nonneg hu0]; omega
    · omega
  obtain ⟨m, hm⟩ : ∃ m, x % 1024 = m := ⟨_, rfl⟩
  have m0 : 0 ≤ m := by omega
  have m1 : m ≤ 1023 := by omega
  have hmask : bits .and .i64 x 1023 = m := (i64_mask x 10 (by omega)).trans hm
  clear hm hu0
  have G1 : Fn 11 #[.string ⟨#[0]⟩, .int .i64 (1 + (1 + m))] _ := Fn.mk (cgete ⟨#[0]⟩ (1 + (1 + m)) 100 (by decide) (by omega) (by omega) (getE_far (by show (1 : Int) < _; omega)) (by decide))
  have G2 : Fn 11 #[.string ⟨#[0]⟩, .int .i64 (-(1 + m))] _ := Fn.mk (cgete ⟨#[0]⟩ (-(1 + m)) 100 (by decide) (by omega) (by omega) (getE_neg (by omega)) (by decide))
  have G3 : Fn 11 #[.string ⟨#[0]⟩, .int .i64 1] _ := Fn.mk (cgete ⟨#[0]⟩ 1 101 (by decide) (by omega) (by omega) (getE_end rfl) (by decide))
  have G4 : Fn 11 #[.string ⟨#[4, 63, 255, 255, 255]⟩, .int .i64 0] _ := Fn.mk (cget ⟨#[4, 63, 255, 255, 255]⟩ 0 1073741823 5 0 (by decide) (by omega) (by omega) (by kernel_rfl) (by kernel_rfl) (by kernel_rfl))
  have N1 : Fn 8 #[.int .i64 (1073741823 + (1 + m))] _ := Fn.mk fun W _ => cnume (1073741823 + (1 + m)) (by omega) (by omega) (by omega) W
  have N2 : Fn 8 #[.int .i64 (-(1 + m))] _ := Fn.mk fun W _ => cnume (-(1 + m)) (by omega) (by omega) (by omega) W
  have T9 : Fn 15 #[.string (⟨#[3, 1, 0, 1]⟩ ++ z9), .int .i64 0] _ := Fn.mk ctext9
  have ho := conv_one1
  have hmk := make9
  have hc9 := conv9
  have hs9 := sz9
  obtain ⟨c, hc⟩ : ∃ c, 5 + (1 + m) % 251 = c := ⟨_, rfl⟩
  obtain ⟨t, ht, hts, hE⟩ := sel7 c j hj7 (by omega) (by omega)
  have Q : Fn 11 #[.string t, .int .i64 0] _ := Fn.mk (cgete t 0 100 (by omega) (by omega) (by omega) hE (by decide))
  clear hts hE
  go_enter Tryd.func7, Tryd.ntmps7
  go_wp2_with (first
    | (go_at_call 11; first | ((with_reducible refine (Q.go (by first | assumption | exact (hr.alloc _).alloc _)).mono ?_); rintro e w1 ⟨rfl, hr⟩) | ((with_reducible refine (G1.go (by assumption)).mono ?_); rintro e w1 ⟨rfl, hr⟩) | ((with_reducible refine (G2.go (by assumption)).mono ?_); rintro e w1 ⟨rfl, hr⟩) | ((with_reducible refine (G3.go (by assumption)).mono ?_); rintro e w1 ⟨rfl, hr⟩) | ((with_reducible refine (G4.go (by assumption)).mono ?_); rintro e w1 ⟨rfl, hr⟩))
    | (go_at_call 15; (with_reducible refine (T9.go (by first | assumption | exact hr.alloc _)).mono ?_); rintro e w1 ⟨rfl, hr⟩)
    | (go_at_call 8; first | ((with_reducible refine (N1.go (by assumption)).mono ?_); rintro e w1 ⟨rfl, hr⟩) | ((with_reducible refine (N2.go (by assumption)).mono ?_); rintro e w1 ⟨rfl, hr⟩))
    | (go_at_call 17; (with_reducible refine (fn_awake.go (by assumption)).mono ?_); rintro e w1 ⟨rfl, hr⟩)
    | (go_at_call 10; refine (lnum _ _).mono ?_; rintro e w1 ⟨rfl, rfl⟩))
  go_ret
  exact ⟨rfl, hr⟩
end Go.Proofs.YtmllcbhoioajgaaDoor
