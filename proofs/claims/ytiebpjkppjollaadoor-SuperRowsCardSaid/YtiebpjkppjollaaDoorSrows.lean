/- The walk of SuperRows. Condition: the handle of the type error. -/
import Derived.Test.YtiebpjkppjollaaDoorSrr
import Derived.Test.YtiebpjkppjollaaDoorSup3
import Derived.Test.YtiebpjkppjollaaDoorBfp
import Derived.IntWalk
import Derived.Laws.BitsLemmas
namespace Go.Proofs.YtiebpjkppjollaaDoor
open Go Go.RowKit

theorem At.poke0 {b : Nat} {x y v : Value} {T : TypeId} {C : Ass} {w0 w : World} (hC : C.Good) (h : At w0 ((ownA b #[x, y] T).star C) w) : At w0 ((ownA b #[v, y] T).star C) (w.setCell ⟨b, 0, Option.none⟩ v) := by
  have := At.poke hC h 0 v
  simpa only [List.setIfInBounds_toArray, List.set_cons_zero, List.set_cons_succ] using this
theorem At.poke1 {b : Nat} {x y v : Value} {T : TypeId} {C : Ass} {w0 w : World} (hC : C.Good) (h : At w0 ((ownA b #[x, y] T).star C) w) : At w0 ((ownA b #[x, v] T).star C) (w.setCell ⟨b, 1, Option.none⟩ v) := by
  have := At.poke hC h 1 v
  simpa only [List.setIfInBounds_toArray, List.set_cons_zero, List.set_cons_succ] using this
theorem suS_small9 (most : Int) (ts : List ByteArray) (b : Int) : (suS most ts b).size ≤ 9223372036854770000 := by
  unfold suS
  split
  · rw [suSec_size]; decide
  · exact Nat.zero_le _
theorem exec_pick {a : Act} {w : World} {op : Oper} (x y z : Operand) (ho : op.op = .call { callee := .value (.func 28), args := #[x, y, z], argTypes := #[23, 9, 9] }) {u v r : Value} (hx : a.eval x = u) (hy : a.eval y = v) (hz : a.eval z = r) : (execOp a.eval op).run Tryd.prog w = .ok (.enter 28 #[u, v, r]) w := by
  unfold execOp
  simp only [ho, resolve, Sem.run_bind, List.map_toArray, List.map_cons, List.map_nil, hx, hy, hz]
  go_simp
set_option maxRecDepth 100000 in
set_option maxHeartbeats 8000000 in
theorem srows_of (many fr : Int) (m a : Nat) (m1 : m ≤ 31) (a1 : a ≤ 255) (hm : bits .and .i64 many 31 = (m : Int)) (ha : bits .and .i64 fr 255 = (a : Int)) (w : World) (hg : Gd w) :
    Calls Tryd.prog 11 #[.int .i64 many, .int .i64 fr] w fun e w' => e = .returned (.bool true) ∧ Below w.heap.size w w' := by
  have HG := Lib.hid hg
  have HW := Lib.hid (awake10 w hg)
  clear hg
  go_enter Tryd.func11, Tryd.ntmps11
  go_wp2_with (first
    | (go_at_call 23; (with_reducible refine (HW.out).mono ?_); rintro e w1 ⟨rfl, hb0⟩; have hS0 := At.none hb0; clear hb0)
    | (go_at_call 21; (with_reducible refine (bnew_ok 999 _ (by omega) (by omega)).mono ?_); rintro e w1 ⟨p, rfl, hb⟩; have hS := At.add emp_good hS0 hb; clear hb hS0)
    | (go_at_call 16; (with_reducible refine (lnum _ _).mono ?_); rintro e w1 ⟨rfl, rfl⟩))
  replace hS := hS.hold (good1 _ _ _) #[.string ⟨#[]⟩, .string ⟨#[]⟩] 9
  go_loopw [10, 11] (fun x y wr => ∃ (j : Nat) (ts : List ByteArray) (A B : ByteArray), 1 ≤ j ∧ j ≤ m + 2 ∧ y = .int .i64 (j : Int) ∧ ts.length + 1 ≤ j ∧ (A = ⟨#[]⟩ ∨ ∃ b : Int, b < (a : Int) + (j : Int) ∧ Stand ts b A) ∧ ((j = 1 ∧ B = ⟨#[]⟩) ∨ (2 ≤ j ∧ Stand ts ((a : Int) + (j : Int) - 1) B)) ∧
      ((j % 2 = 1 ∧ x = .int .i64 0 ∧ At w ((ownA w1.heap.size #[.string A, .string B] 9).star ((bookA p 999 ts).star emp)) wr) ∨ (j % 2 = 0 ∧ x = .int .i64 1 ∧ At w ((ownA w1.heap.size #[.string B, .string A] 9).star ((bookA p 999 ts).star emp)) wr))) (fun _ y _ => m + 2 - (intOf y).toNat)
  case atStart => exact ⟨1, [], ⟨#[]⟩, ⟨#[]⟩, Nat.le_refl _, by omega, rfl, Nat.le_refl _, .inl rfl, .inl ⟨rfl, rfl⟩, .inl ⟨rfl, rfl, hS⟩⟩
  case round =>
    clear hS
    obtain ⟨j, ts, A, B, hj1, hj2, rfl, hts, hA, hB, hX⟩ := hrel
    by_cases hlt : j ≤ m + 1
    · have hmay : suMay ((a : Int) + (j : Int)) = true := (suMay_iff _).2 ⟨by omega, by omega⟩
      have hE : suE 999 ts ((a : Int) + (j : Int)) = 0 := su_room hmay (by omega)
      have hT := suT_len (most := 999) (ts := ts) ((a : Int) + (j : Int))
      have hst := Stand.made hE
      have HP := (dsput p 999 ts ((a : Int) + (j : Int)) (by omega)).g
      rw [hE] at HP
      have hAn : (A.toList == (suS 999 ts ((a : Int) + (j : Int))).toList) = false := by
        rcases hA with rfl | ⟨b, hb, hb2⟩
        · exact bne9 (fun c => by have := hst.size; rw [← c] at this; cases this)
        · exact bne9 ((hb2.keep 999 _).ne hst (by omega) (by omega))
      have hB2 : (j = 1 ∧ B = ⟨#[]⟩) ∨ (2 ≤ j ∧ Stand (suT 999 ts ((a : Int) + (j : Int))) ((a : Int) + (j : Int) - 1) B) := by
        rcases hB with h | ⟨h1, h2⟩
        · exact .inl h
        · exact .inr ⟨h1, h2.keep 999 _⟩
      obtain ⟨g1, g2⟩ := hst.get (by omega)
      have hts2 : (suT 999 ts ((a : Int) + (j : Int))).length + 1 ≤ j + 1 := by omega
      have hl2 : (suT 999 ts ((a : Int) + (j : Int))).length ≤ 1000000 := by omega
      have hss := suS_small9 999 ts ((a : Int) + (j : Int))
      have htorn := su_short (ts := suT 999 ts ((a : Int) + (j : Int))) (s := ⟨#[116, 111, 114, 110]⟩) (by decide)
      have hemp := su_short (ts := suT 999 ts ((a : Int) + (j : Int))) (s := ⟨#[]⟩) (by decide)
      clear hE hT hmay hA hB
      generalize suT 999 ts ((a : Int) + (j : Int)) = T at *
      generalize suS 999 ts ((a : Int) + (j : Int)) = S at *
      replace HP := Lib.hid HP
      rcases hB2 with ⟨rfl, rfl⟩ | ⟨h2, hb2⟩
      · obtain ⟨_, rfl, hS⟩ : _ ∧ _ := by
          rcases hX with h | ⟨h, _⟩
          · exact h
          · exact absurd h (by decide)
        have HK1 := dspick p 999 T ⟨#[116, 111, 114, 110]⟩ ⟨#[]⟩ (by decide) (by decide)
        obtain ⟨q1, q2, q3⟩ := pk_none htorn.2 hemp.2
        rw [q1, q2, q3] at HK1
        have HK2 := dspick p 999 T S ⟨#[]⟩ hss (by decide)
        obtain ⟨q1, q2, q3⟩ := pk_one g2 hemp.2
        rw [q1, q2, q3, g1] at HK2
        rw [show ((1 : Nat) : Int) = 1 from rfl] at *
        replace HK1 := Lib.hid HK1
        replace HK2 := Lib.hid HK2
        obtain ⟨e1, g1, l1⟩ := hS.own
        have HF := Lib.hid (And.intro hst hts2)
        clear hst hts2 htorn hemp q1 q2 q3 g2 hX
        go_wp2_with (first
          | (go_at_call 24; (with_reducible refine (At.op1G HP.out (ownA_good _ _ _) emp_good HG.out hS).mono ?_); rintro e w2 ⟨rfl, hS1⟩; replace hS := hS1; clear hS1; obtain ⟨e1, g1, l1⟩ := hS.own)
          | (go_at_call 16; (with_reducible refine (lnum _ _).mono ?_); rintro e w2 ⟨rfl, rfl⟩))
        have HC := Lib.hid (fun (W : World) (h : At w ((ownA w1.heap.size #[.string (⟨#[116, 111, 114, 110]⟩), .string (⟨#[]⟩)] 9).star ((bookA p 999 T).star emp)) W) => (And.intro ((h.own.1 0).trans rfl) ((h.own.1 1).trans rfl) : W.cell? ⟨w1.heap.size, 0, Option.none⟩ = some (.string (⟨#[116, 111, 114, 110]⟩)) ∧ W.cell? ⟨w1.heap.size, 1, Option.none⟩ = some (.string (⟨#[]⟩))))
        refine region_held (S := fun W => At w ((ownA w1.heap.size #[.string (⟨#[116, 111, 114, 110]⟩), .string (⟨#[]⟩)] 9).star ((bookA p 999 T).star emp)) W) 15 [false, false, false, false, false, false, false, false, false, false, false, false, false, false, false] rfl rfl (by kernel_rfl) fun W hW => ?_
        have hBW : At w ((ownA w1.heap.size #[.string (⟨#[116, 111, 114, 110]⟩), .string (⟨#[]⟩)] 9).star ((bookA p 999 T).star emp)) W := by subst hW; exact (hS.poke0 (v := .string (⟨#[116, 111, 114, 110]⟩)) (good1 _ _ _)).lay ((ownA_good _ _ _).star (good1 _ _ _)) (bdrew _)
        clear hW hS e1 g1 l1
        refine held_take 0 sra0 (some 63) ?_ rfl rfl (by kernel_rfl) (by kernel_rfl) (by kernel_rfl) (fun _ _ _ h => h) (Or.inl ⟨by rfl, ?_⟩) hBW ?_
        rotate_left
        · intro w0 hy0; obtain ⟨y1, y2⟩ := HC.out _ hy0; (go_simp <;> with_reducible rfl)
        simp only [Act.put, List.setIfInBounds_toArray, List.set_cons_zero, List.set_cons_succ]
        refine held_take 1 sra1 (some 64) ?_ rfl rfl (by kernel_rfl) (by kernel_rfl) (by kernel_rfl) (fun _ _ _ h => h) (Or.inl ⟨by rfl, ?_⟩) hBW ?_
        rotate_left
        · intro w0 hy0; obtain ⟨y1, y2⟩ := HC.out _ hy0; (go_simp <;> with_reducible rfl)
        simp only [Act.put, List.setIfInBounds_toArray, List.set_cons_zero, List.set_cons_succ]
        refine held_take 2 sra2 (some 65) ?_ rfl rfl (by kernel_rfl) (by kernel_rfl) (by kernel_rfl) (fun _ _ _ h => h) (Or.inl ⟨by rfl, ?_⟩) hBW ?_
        rotate_left
        · intro w0 hy0; obtain ⟨y1, y2⟩ := HC.out _ hy0; (go_simp <;> with_reducible rfl)
        simp only [Act.put, List.setIfInBounds_toArray, List.set_cons_zero, List.set_cons_succ]
        refine held_take 3 sra3 (some 66) ?_ rfl rfl (by kernel_rfl) (by kernel_rfl) (by kernel_rfl) (fun _ _ _ h => h) (Or.inl ⟨by rfl, ?_⟩) hBW ?_
        rotate_left
        · intro w0 hy0; obtain ⟨y1, y2⟩ := HC.out _ hy0; (go_simp <;> with_reducible rfl)
        simp only [Act.put, List.setIfInBounds_toArray, List.set_cons_zero, List.set_cons_succ]
        refine held_take 4 sra4 (some 67) ?_ rfl rfl (by kernel_rfl) (by kernel_rfl) (by kernel_rfl) (fun _ _ _ h => h) (Or.inl ⟨by rfl, ?_⟩) hBW ?_
        rotate_left
        · intro w0 hy0; obtain ⟨y1, y2⟩ := HC.out _ hy0; (go_simp <;> with_reducible rfl)
        simp only [Act.put, List.setIfInBounds_toArray, List.set_cons_zero, List.set_cons_succ]
        refine held_take 5 sra5 (some 68) ?_ rfl rfl (by kernel_rfl) (by kernel_rfl) (by kernel_rfl) (fun _ _ _ h => h) (Or.inl ⟨by rfl, ?_⟩) hBW ?_
        rotate_left
        · intro w0 hy0; obtain ⟨y1, y2⟩ := HC.out _ hy0; (go_simp <;> with_reducible rfl)
        simp only [Act.put, List.setIfInBounds_toArray, List.set_cons_zero, List.set_cons_succ]
        refine held_take 6 sra6 (some 69) ?_ rfl rfl (by kernel_rfl) (by kernel_rfl) (by kernel_rfl) (fun _ _ _ h => h) (Or.inl ⟨by rfl, ?_⟩) hBW ?_
        rotate_left
        · intro w0 hy0; obtain ⟨y1, y2⟩ := HC.out _ hy0; (go_simp <;> with_reducible rfl)
        simp only [Act.put, List.setIfInBounds_toArray, List.set_cons_zero, List.set_cons_succ]
        have hcall := At.op1G HK1.out (ownA_good w1.heap.size #[.string (⟨#[116, 111, 114, 110]⟩), .string (⟨#[]⟩)] 9) emp_good HG.out hBW
        refine held_call 7 sra7 (some 70) (.tuple #[.int .i64 0, .int .i64 0, .int .i64 1001]) (fun W => At w ((ownA w1.heap.size #[.string (⟨#[116, 111, 114, 110]⟩), .string (⟨#[]⟩)] 9).star ((bookA p 999 T).star emp)) W) 28 #[.pointer (some ⟨p, 0, none⟩), .string (⟨#[116, 111, 114, 110]⟩), .string (⟨#[]⟩)] (by kernel_rfl) rfl rfl (by rfl) (exec_pick (u := .pointer (some ⟨p, 0, none⟩)) (v := .string (⟨#[116, 111, 114, 110]⟩)) (r := .string (⟨#[]⟩)) (.tmp 63) (.tmp 66) (.tmp 69) rfl rfl rfl rfl) hcall (fun _ h => h) ?_
        intro X hS
        simp only [Act.put, List.setIfInBounds_toArray, List.set_cons_zero, List.set_cons_succ]
        refine held_take 8 sra8 (some 62) ?_ rfl rfl (by kernel_rfl) (by kernel_rfl) (by kernel_rfl) (fun _ _ _ h => h) (Or.inl ⟨by rfl, ?_⟩) hS ?_
        rotate_left
        · intro w0 hy0; obtain ⟨y1, y2⟩ := HC.out _ hy0; (go_simp <;> with_reducible rfl)
        simp only [Act.put, List.setIfInBounds_toArray, List.set_cons_zero, List.set_cons_succ]
        refine held_take 9 sra9 (some 71) ?_ rfl rfl (by kernel_rfl) (by kernel_rfl) (by kernel_rfl) (fun _ _ _ h => h) (Or.inl ⟨by rfl, ?_⟩) hS ?_
        rotate_left
        · intro w0 hy0; obtain ⟨y1, y2⟩ := HC.out _ hy0; (go_simp <;> with_reducible rfl)
        simp only [Act.put, List.setIfInBounds_toArray, List.set_cons_zero, List.set_cons_succ]
        refine held_take 10 sra10 (some 72) ?_ rfl rfl (by kernel_rfl) (by kernel_rfl) (by kernel_rfl) (fun _ _ _ h => h) (Or.inl ⟨by rfl, ?_⟩) hS ?_
        rotate_left
        · intro w0 hy0; obtain ⟨y1, y2⟩ := HC.out _ hy0; (go_simp <;> with_reducible rfl)
        simp only [Act.put, List.setIfInBounds_toArray, List.set_cons_zero, List.set_cons_succ]
        refine held_take 11 sra11 (some 73) ?_ rfl rfl (by kernel_rfl) (by kernel_rfl) (by kernel_rfl) (fun _ _ _ h => h) (Or.inl ⟨by rfl, ?_⟩) hS ?_
        rotate_left
        · intro w0 hy0; obtain ⟨y1, y2⟩ := HC.out _ hy0; (go_simp <;> with_reducible rfl)
        simp only [Act.put, List.setIfInBounds_toArray, List.set_cons_zero, List.set_cons_succ]
        refine held_take 12 sra12 (some 15) ?_ rfl rfl (by kernel_rfl) (by kernel_rfl) (by kernel_rfl) (fun _ _ _ h => h) (Or.inl ⟨by rfl, ?_⟩) hS ?_
        rotate_left
        · intro w0 hy0; obtain ⟨y1, y2⟩ := HC.out _ hy0; (go_simp <;> with_reducible rfl)
        simp only [Act.put, List.setIfInBounds_toArray, List.set_cons_zero, List.set_cons_succ]
        refine held_take 13 sra13 (some 16) ?_ rfl rfl (by kernel_rfl) (by kernel_rfl) (by kernel_rfl) (fun _ _ _ h => h) (Or.inl ⟨by rfl, ?_⟩) hS ?_
        rotate_left
        · intro w0 hy0; obtain ⟨y1, y2⟩ := HC.out _ hy0; (go_simp <;> with_reducible rfl)
        simp only [Act.put, List.setIfInBounds_toArray, List.set_cons_zero, List.set_cons_succ]
        refine held_take 14 sra14 (some 17) ?_ rfl rfl (by kernel_rfl) (by kernel_rfl) (by kernel_rfl) (fun _ _ _ h => h) (Or.inl ⟨by rfl, ?_⟩) hS ?_
        rotate_left
        · intro w0 hy0; obtain ⟨y1, y2⟩ := HC.out _ hy0; (go_simp <;> with_reducible rfl)
        simp only [Act.put, List.setIfInBounds_toArray, List.set_cons_zero, List.set_cons_succ]
        refine wpAnyH_done (by kernel_rfl) ?_ _
        clear hcall hBW HC
        obtain ⟨e1, g1, l1⟩ := hS.own
        go_wp2_with (go_at_call 16; (with_reducible refine (lnum _ _).mono ?_); rintro e w2 ⟨rfl, rfl⟩)
        have HC := Lib.hid (fun (W : World) (h : At w ((ownA w1.heap.size #[.string (S), .string (⟨#[]⟩)] 9).star ((bookA p 999 T).star emp)) W) => (And.intro ((h.own.1 0).trans rfl) ((h.own.1 1).trans rfl) : W.cell? ⟨w1.heap.size, 0, Option.none⟩ = some (.string (S)) ∧ W.cell? ⟨w1.heap.size, 1, Option.none⟩ = some (.string (⟨#[]⟩))))
        refine region_held (S := fun W => At w ((ownA w1.heap.size #[.string (S), .string (⟨#[]⟩)] 9).star ((bookA p 999 T).star emp)) W) 15 [false, false, false, false, false, false, false, false, false, false, false, false, false, false, false] rfl rfl (by kernel_rfl) fun W hW => ?_
        have hBW : At w ((ownA w1.heap.size #[.string (S), .string (⟨#[]⟩)] 9).star ((bookA p 999 T).star emp)) W := by subst hW; exact (hS.poke0 (v := .string (S)) (good1 _ _ _)).lay ((ownA_good _ _ _).star (good1 _ _ _)) (bdrew _)
        clear hW hS e1 g1 l1
        refine held_take 0 srb0 (some 108) ?_ rfl rfl (by kernel_rfl) (by kernel_rfl) (by kernel_rfl) (fun _ _ _ h => h) (Or.inl ⟨by rfl, ?_⟩) hBW ?_
        rotate_left
        · intro w0 hy0; obtain ⟨y1, y2⟩ := HC.out _ hy0; (go_simp <;> with_reducible rfl)
        simp only [Act.put, List.setIfInBounds_toArray, List.set_cons_zero, List.set_cons_succ]
        refine held_take 1 srb1 (some 109) ?_ rfl rfl (by kernel_rfl) (by kernel_rfl) (by kernel_rfl) (fun _ _ _ h => h) (Or.inl ⟨by rfl, ?_⟩) hBW ?_
        rotate_left
        · intro w0 hy0; obtain ⟨y1, y2⟩ := HC.out _ hy0; (go_simp <;> with_reducible rfl)
        simp only [Act.put, List.setIfInBounds_toArray, List.set_cons_zero, List.set_cons_succ]
        refine held_take 2 srb2 (some 110) ?_ rfl rfl (by kernel_rfl) (by kernel_rfl) (by kernel_rfl) (fun _ _ _ h => h) (Or.inl ⟨by rfl, ?_⟩) hBW ?_
        rotate_left
        · intro w0 hy0; obtain ⟨y1, y2⟩ := HC.out _ hy0; (go_simp <;> with_reducible rfl)
        simp only [Act.put, List.setIfInBounds_toArray, List.set_cons_zero, List.set_cons_succ]
        refine held_take 3 srb3 (some 111) ?_ rfl rfl (by kernel_rfl) (by kernel_rfl) (by kernel_rfl) (fun _ _ _ h => h) (Or.inl ⟨by rfl, ?_⟩) hBW ?_
        rotate_left
        · intro w0 hy0; obtain ⟨y1, y2⟩ := HC.out _ hy0; (go_simp <;> with_reducible rfl)
        simp only [Act.put, List.setIfInBounds_toArray, List.set_cons_zero, List.set_cons_succ]
        refine held_take 4 srb4 (some 112) ?_ rfl rfl (by kernel_rfl) (by kernel_rfl) (by kernel_rfl) (fun _ _ _ h => h) (Or.inl ⟨by rfl, ?_⟩) hBW ?_
        rotate_left
        · intro w0 hy0; obtain ⟨y1, y2⟩ := HC.out _ hy0; (go_simp <;> with_reducible rfl)
        simp only [Act.put, List.setIfInBounds_toArray, List.set_cons_zero, List.set_cons_succ]
        refine held_take 5 srb5 (some 113) ?_ rfl rfl (by kernel_rfl) (by kernel_rfl) (by kernel_rfl) (fun _ _ _ h => h) (Or.inl ⟨by rfl, ?_⟩) hBW ?_
        rotate_left
        · intro w0 hy0; obtain ⟨y1, y2⟩ := HC.out _ hy0; (go_simp <;> with_reducible rfl)
        simp only [Act.put, List.setIfInBounds_toArray, List.set_cons_zero, List.set_cons_succ]
        refine held_take 6 srb6 (some 114) ?_ rfl rfl (by kernel_rfl) (by kernel_rfl) (by kernel_rfl) (fun _ _ _ h => h) (Or.inl ⟨by rfl, ?_⟩) hBW ?_
        rotate_left
        · intro w0 hy0; obtain ⟨y1, y2⟩ := HC.out _ hy0; (go_simp <;> with_reducible rfl)
        simp only [Act.put, List.setIfInBounds_toArray, List.set_cons_zero, List.set_cons_succ]
        have hcall := At.op1G HK2.out (ownA_good w1.heap.size #[.string (S), .string (⟨#[]⟩)] 9) emp_good HG.out hBW
        refine held_call 7 srb7 (some 115) (.tuple #[.int .i64 ((a : Int) + 1), .int .i64 1, .int .i64 0]) (fun W => At w ((ownA w1.heap.size #[.string (S), .string (⟨#[]⟩)] 9).star ((bookA p 999 T).star emp)) W) 28 #[.pointer (some ⟨p, 0, none⟩), .string (S), .string (⟨#[]⟩)] (by kernel_rfl) rfl rfl (by rfl) (exec_pick (u := .pointer (some ⟨p, 0, none⟩)) (v := .string (S)) (r := .string (⟨#[]⟩)) (.tmp 108) (.tmp 111) (.tmp 114) rfl rfl rfl rfl) hcall (fun _ h => h) ?_
        intro X hS
        simp only [Act.put, List.setIfInBounds_toArray, List.set_cons_zero, List.set_cons_succ]
        refine held_take 8 srb8 (some 107) ?_ rfl rfl (by kernel_rfl) (by kernel_rfl) (by kernel_rfl) (fun _ _ _ h => h) (Or.inl ⟨by rfl, ?_⟩) hS ?_
        rotate_left
        · intro w0 hy0; obtain ⟨y1, y2⟩ := HC.out _ hy0; (go_simp <;> with_reducible rfl)
        simp only [Act.put, List.setIfInBounds_toArray, List.set_cons_zero, List.set_cons_succ]
        refine held_take 9 srb9 (some 116) ?_ rfl rfl (by kernel_rfl) (by kernel_rfl) (by kernel_rfl) (fun _ _ _ h => h) (Or.inl ⟨by rfl, ?_⟩) hS ?_
        rotate_left
        · intro w0 hy0; obtain ⟨y1, y2⟩ := HC.out _ hy0; (go_simp <;> with_reducible rfl)
        simp only [Act.put, List.setIfInBounds_toArray, List.set_cons_zero, List.set_cons_succ]
        refine held_take 10 srb10 (some 117) ?_ rfl rfl (by kernel_rfl) (by kernel_rfl) (by kernel_rfl) (fun _ _ _ h => h) (Or.inl ⟨by rfl, ?_⟩) hS ?_
        rotate_left
        · intro w0 hy0; obtain ⟨y1, y2⟩ := HC.out _ hy0; (go_simp <;> with_reducible rfl)
        simp only [Act.put, List.setIfInBounds_toArray, List.set_cons_zero, List.set_cons_succ]
        refine held_take 11 srb11 (some 118) ?_ rfl rfl (by kernel_rfl) (by kernel_rfl) (by kernel_rfl) (fun _ _ _ h => h) (Or.inl ⟨by rfl, ?_⟩) hS ?_
        rotate_left
        · intro w0 hy0; obtain ⟨y1, y2⟩ := HC.out _ hy0; (go_simp <;> with_reducible rfl)
        simp only [Act.put, List.setIfInBounds_toArray, List.set_cons_zero, List.set_cons_succ]
        refine held_take 12 srb12 (some 15) ?_ rfl rfl (by kernel_rfl) (by kernel_rfl) (by kernel_rfl) (fun _ _ _ h => h) (Or.inl ⟨by rfl, ?_⟩) hS ?_
        rotate_left
        · intro w0 hy0; obtain ⟨y1, y2⟩ := HC.out _ hy0; (go_simp <;> with_reducible rfl)
        simp only [Act.put, List.setIfInBounds_toArray, List.set_cons_zero, List.set_cons_succ]
        refine held_take 13 srb13 (some 18) ?_ rfl rfl (by kernel_rfl) (by kernel_rfl) (by kernel_rfl) (fun _ _ _ h => h) (Or.inl ⟨by rfl, ?_⟩) hS ?_
        rotate_left
        · intro w0 hy0; obtain ⟨y1, y2⟩ := HC.out _ hy0; (go_simp <;> with_reducible rfl)
        simp only [Act.put, List.setIfInBounds_toArray, List.set_cons_zero, List.set_cons_succ]
        refine held_take 14 srb14 (some 19) ?_ rfl rfl (by kernel_rfl) (by kernel_rfl) (by kernel_rfl) (fun _ _ _ h => h) (Or.inl ⟨by rfl, ?_⟩) hS ?_
        rotate_left
        · intro w0 hy0; obtain ⟨y1, y2⟩ := HC.out _ hy0; (go_simp <;> with_reducible rfl)
        simp only [Act.put, List.setIfInBounds_toArray, List.set_cons_zero, List.set_cons_succ]
        refine wpAnyH_done (by kernel_rfl) ?_ _
        clear hcall hBW HC
        obtain ⟨e1, g1, l1⟩ := hS.own
        go_wp2_with (go_at_call 16; (with_reducible refine (lnum _ _).mono ?_); rintro e w2 ⟨rfl, rfl⟩)
        go_roundw
        case rel => exact ⟨2, T, ⟨#[]⟩, S, by omega, by omega, by go_num, HF.out.2, .inl rfl, .inr ⟨by omega, by rw [show (a : Int) + ((2 : Nat) : Int) - 1 = (a : Int) + 1 by omega]; exact HF.out.1⟩, .inr ⟨rfl, rfl, hS⟩⟩
        case measure => simp [intOf]
      · obtain ⟨k1, k2⟩ := hb2.get hl2
        have hbs := hb2.size
        have c1 : ((j : Int) == 1) = false := by simp; omega
        have c2 : (1 : Int) < (j : Int) := by omega
        have c3 : ¬ (j : Int) = 1 := by omega
        have HF := Lib.hid (And.intro hst (And.intro hts2 hb2))
        rcases hX with ⟨hpar, rfl, hS⟩ | ⟨hpar, rfl, hS⟩
        · have HK1 := dspick p 999 T ⟨#[116, 111, 114, 110]⟩ B (by decide) (by omega)
          obtain ⟨q1, q2, q3⟩ := pk_two htorn.2 k2
          rw [q1, q2, q3, k1] at HK1
          have HK2 := dspick p 999 T S B hss (by omega)
          obtain ⟨q1, q2, q3⟩ := pk_ge g2 k2 (by rw [g1, k1]; omega)
          rw [q1, q2, q3, g1] at HK2
          replace HK1 := Lib.hid HK1
          replace HK2 := Lib.hid HK2
          obtain ⟨e1, g1, l1⟩ := hS.own
          clear hst hts2 htorn hemp q1 q2 q3 g2 k1 k2 hb2
          go_wp2_with (first
            | (go_at_call 24; (with_reducible refine (At.op1G HP.out (ownA_good _ _ _) emp_good HG.out hS).mono ?_); rintro e w2 ⟨rfl, hS1⟩; replace hS := hS1; clear hS1; obtain ⟨e1, g1, l1⟩ := hS.own)
            | (go_at_call 16; (with_reducible refine (lnum _ _).mono ?_); rintro e w2 ⟨rfl, rfl⟩))
          have HC := Lib.hid (fun (W : World) (h : At w ((ownA w1.heap.size #[.string (⟨#[116, 111, 114, 110]⟩), .string (B)] 9).star ((bookA p 999 T).star emp)) W) => (And.intro ((h.own.1 0).trans rfl) ((h.own.1 1).trans rfl) : W.cell? ⟨w1.heap.size, 0, Option.none⟩ = some (.string (⟨#[116, 111, 114, 110]⟩)) ∧ W.cell? ⟨w1.heap.size, 1, Option.none⟩ = some (.string (B))))
          refine region_held (S := fun W => At w ((ownA w1.heap.size #[.string (⟨#[116, 111, 114, 110]⟩), .string (B)] 9).star ((bookA p 999 T).star emp)) W) 15 [false, false, false, false, false, false, false, false, false, false, false, false, false, false, false] rfl rfl (by kernel_rfl) fun W hW => ?_
          have hBW : At w ((ownA w1.heap.size #[.string (⟨#[116, 111, 114, 110]⟩), .string (B)] 9).star ((bookA p 999 T).star emp)) W := by subst hW; exact (hS.poke0 (v := .string (⟨#[116, 111, 114, 110]⟩)) (good1 _ _ _)).lay ((ownA_good _ _ _).star (good1 _ _ _)) (bdrew _)
          clear hW hS e1 g1 l1
          refine held_take 0 sra0 (some 63) ?_ rfl rfl (by kernel_rfl) (by kernel_rfl) (by kernel_rfl) (fun _ _ _ h => h) (Or.inl ⟨by rfl, ?_⟩) hBW ?_
          rotate_left
          · intro w0 hy0; obtain ⟨y1, y2⟩ := HC.out _ hy0; (go_simp <;> with_reducible rfl)
          simp only [Act.put, List.setIfInBounds_toArray, List.set_cons_zero, List.set_cons_succ]
          refine held_take 1 sra1 (some 64) ?_ rfl rfl (by kernel_rfl) (by kernel_rfl) (by kernel_rfl) (fun _ _ _ h => h) (Or.inl ⟨by rfl, ?_⟩) hBW ?_
          rotate_left
          · intro w0 hy0; obtain ⟨y1, y2⟩ := HC.out _ hy0; (go_simp <;> with_reducible rfl)
          simp only [Act.put, List.setIfInBounds_toArray, List.set_cons_zero, List.set_cons_succ]
          refine held_take 2 sra2 (some 65) ?_ rfl rfl (by kernel_rfl) (by kernel_rfl) (by kernel_rfl) (fun _ _ _ h => h) (Or.inl ⟨by rfl, ?_⟩) hBW ?_
          rotate_left
          · intro w0 hy0; obtain ⟨y1, y2⟩ := HC.out _ hy0; (go_simp <;> with_reducible rfl)
          simp only [Act.put, List.setIfInBounds_toArray, List.set_cons_zero, List.set_cons_succ]
          refine held_take 3 sra3 (some 66) ?_ rfl rfl (by kernel_rfl) (by kernel_rfl) (by kernel_rfl) (fun _ _ _ h => h) (Or.inl ⟨by rfl, ?_⟩) hBW ?_
          rotate_left
          · intro w0 hy0; obtain ⟨y1, y2⟩ := HC.out _ hy0; (go_simp <;> with_reducible rfl)
          simp only [Act.put, List.setIfInBounds_toArray, List.set_cons_zero, List.set_cons_succ]
          refine held_take 4 sra4 (some 67) ?_ rfl rfl (by kernel_rfl) (by kernel_rfl) (by kernel_rfl) (fun _ _ _ h => h) (Or.inl ⟨by rfl, ?_⟩) hBW ?_
          rotate_left
          · intro w0 hy0; obtain ⟨y1, y2⟩ := HC.out _ hy0; (go_simp <;> with_reducible rfl)
          simp only [Act.put, List.setIfInBounds_toArray, List.set_cons_zero, List.set_cons_succ]
          refine held_take 5 sra5 (some 68) ?_ rfl rfl (by kernel_rfl) (by kernel_rfl) (by kernel_rfl) (fun _ _ _ h => h) (Or.inl ⟨by rfl, ?_⟩) hBW ?_
          rotate_left
          · intro w0 hy0; obtain ⟨y1, y2⟩ := HC.out _ hy0; (go_simp <;> with_reducible rfl)
          simp only [Act.put, List.setIfInBounds_toArray, List.set_cons_zero, List.set_cons_succ]
          refine held_take 6 sra6 (some 69) ?_ rfl rfl (by kernel_rfl) (by kernel_rfl) (by kernel_rfl) (fun _ _ _ h => h) (Or.inl ⟨by rfl, ?_⟩) hBW ?_
          rotate_left
          · intro w0 hy0; obtain ⟨y1, y2⟩ := HC.out _ hy0; (go_simp <;> with_reducible rfl)
          simp only [Act.put, List.setIfInBounds_toArray, List.set_cons_zero, List.set_cons_succ]
          have hcall := At.op1G HK1.out (ownA_good w1.heap.size #[.string (⟨#[116, 111, 114, 110]⟩), .string (B)] 9) emp_good HG.out hBW
          refine held_call 7 sra7 (some 70) (.tuple #[.int .i64 ((a : Int) + (j : Int) - 1), .int .i64 0, .int .i64 0]) (fun W => At w ((ownA w1.heap.size #[.string (⟨#[116, 111, 114, 110]⟩), .string (B)] 9).star ((bookA p 999 T).star emp)) W) 28 #[.pointer (some ⟨p, 0, none⟩), .string (⟨#[116, 111, 114, 110]⟩), .string (B)] (by kernel_rfl) rfl rfl (by rfl) (exec_pick (u := .pointer (some ⟨p, 0, none⟩)) (v := .string (⟨#[116, 111, 114, 110]⟩)) (r := .string (B)) (.tmp 63) (.tmp 66) (.tmp 69) rfl rfl rfl rfl) hcall (fun _ h => h) ?_
          intro X hS
          simp only [Act.put, List.setIfInBounds_toArray, List.set_cons_zero, List.set_cons_succ]
          refine held_take 8 sra8 (some 62) ?_ rfl rfl (by kernel_rfl) (by kernel_rfl) (by kernel_rfl) (fun _ _ _ h => h) (Or.inl ⟨by rfl, ?_⟩) hS ?_
          rotate_left
          · intro w0 hy0; obtain ⟨y1, y2⟩ := HC.out _ hy0; (go_simp <;> with_reducible rfl)
          simp only [Act.put, List.setIfInBounds_toArray, List.set_cons_zero, List.set_cons_succ]
          refine held_take 9 sra9 (some 71) ?_ rfl rfl (by kernel_rfl) (by kernel_rfl) (by kernel_rfl) (fun _ _ _ h => h) (Or.inl ⟨by rfl, ?_⟩) hS ?_
          rotate_left
          · intro w0 hy0; obtain ⟨y1, y2⟩ := HC.out _ hy0; (go_simp <;> with_reducible rfl)
          simp only [Act.put, List.setIfInBounds_toArray, List.set_cons_zero, List.set_cons_succ]
          refine held_take 10 sra10 (some 72) ?_ rfl rfl (by kernel_rfl) (by kernel_rfl) (by kernel_rfl) (fun _ _ _ h => h) (Or.inl ⟨by rfl, ?_⟩) hS ?_
          rotate_left
          · intro w0 hy0; obtain ⟨y1, y2⟩ := HC.out _ hy0; (go_simp <;> with_reducible rfl)
          simp only [Act.put, List.setIfInBounds_toArray, List.set_cons_zero, List.set_cons_succ]
          refine held_take 11 sra11 (some 73) ?_ rfl rfl (by kernel_rfl) (by kernel_rfl) (by kernel_rfl) (fun _ _ _ h => h) (Or.inl ⟨by rfl, ?_⟩) hS ?_
          rotate_left
          · intro w0 hy0; obtain ⟨y1, y2⟩ := HC.out _ hy0; (go_simp <;> with_reducible rfl)
          simp only [Act.put, List.setIfInBounds_toArray, List.set_cons_zero, List.set_cons_succ]
          refine held_take 12 sra12 (some 15) ?_ rfl rfl (by kernel_rfl) (by kernel_rfl) (by kernel_rfl) (fun _ _ _ h => h) (Or.inl ⟨by rfl, ?_⟩) hS ?_
          rotate_left
          · intro w0 hy0; obtain ⟨y1, y2⟩ := HC.out _ hy0; (go_simp <;> with_reducible rfl)
          simp only [Act.put, List.setIfInBounds_toArray, List.set_cons_zero, List.set_cons_succ]
          refine held_take 13 sra13 (some 16) ?_ rfl rfl (by kernel_rfl) (by kernel_rfl) (by kernel_rfl) (fun _ _ _ h => h) (Or.inl ⟨by rfl, ?_⟩) hS ?_
          rotate_left
          · intro w0 hy0; obtain ⟨y1, y2⟩ := HC.out _ hy0; (go_simp <;> with_reducible rfl)
          simp only [Act.put, List.setIfInBounds_toArray, List.set_cons_zero, List.set_cons_succ]
          refine held_take 14 sra14 (some 17) ?_ rfl rfl (by kernel_rfl) (by kernel_rfl) (by kernel_rfl) (fun _ _ _ h => h) (Or.inl ⟨by rfl, ?_⟩) hS ?_
          rotate_left
          · intro w0 hy0; obtain ⟨y1, y2⟩ := HC.out _ hy0; (go_simp <;> with_reducible rfl)
          simp only [Act.put, List.setIfInBounds_toArray, List.set_cons_zero, List.set_cons_succ]
          refine wpAnyH_done (by kernel_rfl) ?_ _
          clear hcall hBW HC
          obtain ⟨e1, g1, l1⟩ := hS.own
          go_wp2_with (go_at_call 16; (with_reducible refine (lnum _ _).mono ?_); rintro e w2 ⟨rfl, rfl⟩)
          have HC := Lib.hid (fun (W : World) (h : At w ((ownA w1.heap.size #[.string (S), .string (B)] 9).star ((bookA p 999 T).star emp)) W) => (And.intro ((h.own.1 0).trans rfl) ((h.own.1 1).trans rfl) : W.cell? ⟨w1.heap.size, 0, Option.none⟩ = some (.string (S)) ∧ W.cell? ⟨w1.heap.size, 1, Option.none⟩ = some (.string (B))))
          refine region_held (S := fun W => At w ((ownA w1.heap.size #[.string (S), .string (B)] 9).star ((bookA p 999 T).star emp)) W) 15 [false, false, false, false, false, false, false, false, false, false, false, false, false, false, false] rfl rfl (by kernel_rfl) fun W hW => ?_
          have hBW : At w ((ownA w1.heap.size #[.string (S), .string (B)] 9).star ((bookA p 999 T).star emp)) W := by subst hW; exact (hS.poke0 (v := .string (S)) (good1 _ _ _)).lay ((ownA_good _ _ _).star (good1 _ _ _)) (bdrew _)
          clear hW hS e1 g1 l1
          refine held_take 0 srb0 (some 108) ?_ rfl rfl (by kernel_rfl) (by kernel_rfl) (by kernel_rfl) (fun _ _ _ h => h) (Or.inl ⟨by rfl, ?_⟩) hBW ?_
          rotate_left
          · intro w0 hy0; obtain ⟨y1, y2⟩ := HC.out _ hy0; (go_simp <;> with_reducible rfl)
          simp only [Act.put, List.setIfInBounds_toArray, List.set_cons_zero, List.set_cons_succ]
          refine held_take 1 srb1 (some 109) ?_ rfl rfl (by kernel_rfl) (by kernel_rfl) (by kernel_rfl) (fun _ _ _ h => h) (Or.inl ⟨by rfl, ?_⟩) hBW ?_
          rotate_left
          · intro w0 hy0; obtain ⟨y1, y2⟩ := HC.out _ hy0; (go_simp <;> with_reducible rfl)
          simp only [Act.put, List.setIfInBounds_toArray, List.set_cons_zero, List.set_cons_succ]
          refine held_take 2 srb2 (some 110) ?_ rfl rfl (by kernel_rfl) (by kernel_rfl) (by kernel_rfl) (fun _ _ _ h => h) (Or.inl ⟨by rfl, ?_⟩) hBW ?_
          rotate_left
          · intro w0 hy0; obtain ⟨y1, y2⟩ := HC.out _ hy0; (go_simp <;> with_reducible rfl)
          simp only [Act.put, List.setIfInBounds_toArray, List.set_cons_zero, List.set_cons_succ]
          refine held_take 3 srb3 (some 111) ?_ rfl rfl (by kernel_rfl) (by kernel_rfl) (by kernel_rfl) (fun _ _ _ h => h) (Or.inl ⟨by rfl, ?_⟩) hBW ?_
          rotate_left
          · intro w0 hy0; obtain ⟨y1, y2⟩ := HC.out _ hy0; (go_simp <;> with_reducible rfl)
          simp only [Act.put, List.setIfInBounds_toArray, List.set_cons_zero, List.set_cons_succ]
          refine held_take 4 srb4 (some 112) ?_ rfl rfl (by kernel_rfl) (by kernel_rfl) (by kernel_rfl) (fun _ _ _ h => h) (Or.inl ⟨by rfl, ?_⟩) hBW ?_
          rotate_left
          · intro w0 hy0; obtain ⟨y1, y2⟩ := HC.out _ hy0; (go_simp <;> with_reducible rfl)
          simp only [Act.put, List.setIfInBounds_toArray, List.set_cons_zero, List.set_cons_succ]
          refine held_take 5 srb5 (some 113) ?_ rfl rfl (by kernel_rfl) (by kernel_rfl) (by kernel_rfl) (fun _ _ _ h => h) (Or.inl ⟨by rfl, ?_⟩) hBW ?_
          rotate_left
          · intro w0 hy0; obtain ⟨y1, y2⟩ := HC.out _ hy0; (go_simp <;> with_reducible rfl)
          simp only [Act.put, List.setIfInBounds_toArray, List.set_cons_zero, List.set_cons_succ]
          refine held_take 6 srb6 (some 114) ?_ rfl rfl (by kernel_rfl) (by kernel_rfl) (by kernel_rfl) (fun _ _ _ h => h) (Or.inl ⟨by rfl, ?_⟩) hBW ?_
          rotate_left
          · intro w0 hy0; obtain ⟨y1, y2⟩ := HC.out _ hy0; (go_simp <;> with_reducible rfl)
          simp only [Act.put, List.setIfInBounds_toArray, List.set_cons_zero, List.set_cons_succ]
          have hcall := At.op1G HK2.out (ownA_good w1.heap.size #[.string (S), .string (B)] 9) emp_good HG.out hBW
          refine held_call 7 srb7 (some 115) (.tuple #[.int .i64 ((a : Int) + (j : Int)), .int .i64 1, .int .i64 0]) (fun W => At w ((ownA w1.heap.size #[.string (S), .string (B)] 9).star ((bookA p 999 T).star emp)) W) 28 #[.pointer (some ⟨p, 0, none⟩), .string (S), .string (B)] (by kernel_rfl) rfl rfl (by rfl) (exec_pick (u := .pointer (some ⟨p, 0, none⟩)) (v := .string (S)) (r := .string (B)) (.tmp 108) (.tmp 111) (.tmp 114) rfl rfl rfl rfl) hcall (fun _ h => h) ?_
          intro X hS
          simp only [Act.put, List.setIfInBounds_toArray, List.set_cons_zero, List.set_cons_succ]
          refine held_take 8 srb8 (some 107) ?_ rfl rfl (by kernel_rfl) (by kernel_rfl) (by kernel_rfl) (fun _ _ _ h => h) (Or.inl ⟨by rfl, ?_⟩) hS ?_
          rotate_left
          · intro w0 hy0; obtain ⟨y1, y2⟩ := HC.out _ hy0; (go_simp <;> with_reducible rfl)
          simp only [Act.put, List.setIfInBounds_toArray, List.set_cons_zero, List.set_cons_succ]
          refine held_take 9 srb9 (some 116) ?_ rfl rfl (by kernel_rfl) (by kernel_rfl) (by kernel_rfl) (fun _ _ _ h => h) (Or.inl ⟨by rfl, ?_⟩) hS ?_
          rotate_left
          · intro w0 hy0; obtain ⟨y1, y2⟩ := HC.out _ hy0; (go_simp <;> with_reducible rfl)
          simp only [Act.put, List.setIfInBounds_toArray, List.set_cons_zero, List.set_cons_succ]
          refine held_take 10 srb10 (some 117) ?_ rfl rfl (by kernel_rfl) (by kernel_rfl) (by kernel_rfl) (fun _ _ _ h => h) (Or.inl ⟨by rfl, ?_⟩) hS ?_
          rotate_left
          · intro w0 hy0; obtain ⟨y1, y2⟩ := HC.out _ hy0; (go_simp <;> with_reducible rfl)
          simp only [Act.put, List.setIfInBounds_toArray, List.set_cons_zero, List.set_cons_succ]
          refine held_take 11 srb11 (some 118) ?_ rfl rfl (by kernel_rfl) (by kernel_rfl) (by kernel_rfl) (fun _ _ _ h => h) (Or.inl ⟨by rfl, ?_⟩) hS ?_
          rotate_left
          · intro w0 hy0; obtain ⟨y1, y2⟩ := HC.out _ hy0; (go_simp <;> with_reducible rfl)
          simp only [Act.put, List.setIfInBounds_toArray, List.set_cons_zero, List.set_cons_succ]
          refine held_take 12 srb12 (some 15) ?_ rfl rfl (by kernel_rfl) (by kernel_rfl) (by kernel_rfl) (fun _ _ _ h => h) (Or.inl ⟨by rfl, ?_⟩) hS ?_
          rotate_left
          · intro w0 hy0; obtain ⟨y1, y2⟩ := HC.out _ hy0; (go_simp <;> with_reducible rfl)
          simp only [Act.put, List.setIfInBounds_toArray, List.set_cons_zero, List.set_cons_succ]
          refine held_take 13 srb13 (some 18) ?_ rfl rfl (by kernel_rfl) (by kernel_rfl) (by kernel_rfl) (fun _ _ _ h => h) (Or.inl ⟨by rfl, ?_⟩) hS ?_
          rotate_left
          · intro w0 hy0; obtain ⟨y1, y2⟩ := HC.out _ hy0; (go_simp <;> with_reducible rfl)
          simp only [Act.put, List.setIfInBounds_toArray, List.set_cons_zero, List.set_cons_succ]
          refine held_take 14 srb14 (some 19) ?_ rfl rfl (by kernel_rfl) (by kernel_rfl) (by kernel_rfl) (fun _ _ _ h => h) (Or.inl ⟨by rfl, ?_⟩) hS ?_
          rotate_left
          · intro w0 hy0; obtain ⟨y1, y2⟩ := HC.out _ hy0; (go_simp <;> with_reducible rfl)
          simp only [Act.put, List.setIfInBounds_toArray, List.set_cons_zero, List.set_cons_succ]
          refine wpAnyH_done (by kernel_rfl) ?_ _
          clear hcall hBW HC
          obtain ⟨e1, g1, l1⟩ := hS.own
          go_wp2_with (go_at_call 16; (with_reducible refine (lnum _ _).mono ?_); rintro e w2 ⟨rfl, rfl⟩)
          go_roundw
          case rel => exact ⟨j + 1, T, B, S, by omega, by omega, by go_num, HF.out.2.1, .inr ⟨_, by omega, HF.out.2.2⟩, .inr ⟨by omega, by rw [show (a : Int) + ((j + 1 : Nat) : Int) - 1 = (a : Int) + (j : Int) by omega]; exact HF.out.1⟩, .inr ⟨by omega, rfl, hS⟩⟩
          case measure => simp [intOf]; omega
        · have HK1 := dspick p 999 T B ⟨#[116, 111, 114, 110]⟩ (by omega) (by decide)
          obtain ⟨q1, q2, q3⟩ := pk_one k2 htorn.2
          rw [q1, q2, q3, k1] at HK1
          have HK2 := dspick p 999 T B S (by omega) hss
          obtain ⟨q1, q2, q3⟩ := pk_lt k2 g2 (by rw [g1, k1]; omega)
          rw [q1, q2, q3, g1] at HK2
          replace HK1 := Lib.hid HK1
          replace HK2 := Lib.hid HK2
          obtain ⟨e1, g1, l1⟩ := hS.own
          clear hst hts2 htorn hemp q1 q2 q3 g2 k1 k2 hb2
          go_wp2_with (first
            | (go_at_call 24; (with_reducible refine (At.op1G HP.out (ownA_good _ _ _) emp_good HG.out hS).mono ?_); rintro e w2 ⟨rfl, hS1⟩; replace hS := hS1; clear hS1; obtain ⟨e1, g1, l1⟩ := hS.own)
            | (go_at_call 16; (with_reducible refine (lnum _ _).mono ?_); rintro e w2 ⟨rfl, rfl⟩))
          have HC := Lib.hid (fun (W : World) (h : At w ((ownA w1.heap.size #[.string (B), .string (⟨#[116, 111, 114, 110]⟩)] 9).star ((bookA p 999 T).star emp)) W) => (And.intro ((h.own.1 0).trans rfl) ((h.own.1 1).trans rfl) : W.cell? ⟨w1.heap.size, 0, Option.none⟩ = some (.string (B)) ∧ W.cell? ⟨w1.heap.size, 1, Option.none⟩ = some (.string (⟨#[116, 111, 114, 110]⟩))))
          refine region_held (S := fun W => At w ((ownA w1.heap.size #[.string (B), .string (⟨#[116, 111, 114, 110]⟩)] 9).star ((bookA p 999 T).star emp)) W) 15 [false, false, false, false, false, false, false, false, false, false, false, false, false, false, false] rfl rfl (by kernel_rfl) fun W hW => ?_
          have hBW : At w ((ownA w1.heap.size #[.string (B), .string (⟨#[116, 111, 114, 110]⟩)] 9).star ((bookA p 999 T).star emp)) W := by subst hW; exact (hS.poke1 (v := .string (⟨#[116, 111, 114, 110]⟩)) (good1 _ _ _)).lay ((ownA_good _ _ _).star (good1 _ _ _)) (bdrew _)
          clear hW hS e1 g1 l1
          refine held_take 0 sra0 (some 63) ?_ rfl rfl (by kernel_rfl) (by kernel_rfl) (by kernel_rfl) (fun _ _ _ h => h) (Or.inl ⟨by rfl, ?_⟩) hBW ?_
          rotate_left
          · intro w0 hy0; obtain ⟨y1, y2⟩ := HC.out _ hy0; (go_simp <;> with_reducible rfl)
          simp only [Act.put, List.setIfInBounds_toArray, List.set_cons_zero, List.set_cons_succ]
          refine held_take 1 sra1 (some 64) ?_ rfl rfl (by kernel_rfl) (by kernel_rfl) (by kernel_rfl) (fun _ _ _ h => h) (Or.inl ⟨by rfl, ?_⟩) hBW ?_
          rotate_left
          · intro w0 hy0; obtain ⟨y1, y2⟩ := HC.out _ hy0; (go_simp <;> with_reducible rfl)
          simp only [Act.put, List.setIfInBounds_toArray, List.set_cons_zero, List.set_cons_succ]
          refine held_take 2 sra2 (some 65) ?_ rfl rfl (by kernel_rfl) (by kernel_rfl) (by kernel_rfl) (fun _ _ _ h => h) (Or.inl ⟨by rfl, ?_⟩) hBW ?_
          rotate_left
          · intro w0 hy0; obtain ⟨y1, y2⟩ := HC.out _ hy0; (go_simp <;> with_reducible rfl)
          simp only [Act.put, List.setIfInBounds_toArray, List.set_cons_zero, List.set_cons_succ]
          refine held_take 3 sra3 (some 66) ?_ rfl rfl (by kernel_rfl) (by kernel_rfl) (by kernel_rfl) (fun _ _ _ h => h) (Or.inl ⟨by rfl, ?_⟩) hBW ?_
          rotate_left
          · intro w0 hy0; obtain ⟨y1, y2⟩ := HC.out _ hy0; (go_simp <;> with_reducible rfl)
          simp only [Act.put, List.setIfInBounds_toArray, List.set_cons_zero, List.set_cons_succ]
          refine held_take 4 sra4 (some 67) ?_ rfl rfl (by kernel_rfl) (by kernel_rfl) (by kernel_rfl) (fun _ _ _ h => h) (Or.inl ⟨by rfl, ?_⟩) hBW ?_
          rotate_left
          · intro w0 hy0; obtain ⟨y1, y2⟩ := HC.out _ hy0; (go_simp <;> with_reducible rfl)
          simp only [Act.put, List.setIfInBounds_toArray, List.set_cons_zero, List.set_cons_succ]
          refine held_take 5 sra5 (some 68) ?_ rfl rfl (by kernel_rfl) (by kernel_rfl) (by kernel_rfl) (fun _ _ _ h => h) (Or.inl ⟨by rfl, ?_⟩) hBW ?_
          rotate_left
          · intro w0 hy0; obtain ⟨y1, y2⟩ := HC.out _ hy0; (go_simp <;> with_reducible rfl)
          simp only [Act.put, List.setIfInBounds_toArray, List.set_cons_zero, List.set_cons_succ]
          refine held_take 6 sra6 (some 69) ?_ rfl rfl (by kernel_rfl) (by kernel_rfl) (by kernel_rfl) (fun _ _ _ h => h) (Or.inl ⟨by rfl, ?_⟩) hBW ?_
          rotate_left
          · intro w0 hy0; obtain ⟨y1, y2⟩ := HC.out _ hy0; (go_simp <;> with_reducible rfl)
          simp only [Act.put, List.setIfInBounds_toArray, List.set_cons_zero, List.set_cons_succ]
          have hcall := At.op1G HK1.out (ownA_good w1.heap.size #[.string (B), .string (⟨#[116, 111, 114, 110]⟩)] 9) emp_good HG.out hBW
          refine held_call 7 sra7 (some 70) (.tuple #[.int .i64 ((a : Int) + (j : Int) - 1), .int .i64 1, .int .i64 0]) (fun W => At w ((ownA w1.heap.size #[.string (B), .string (⟨#[116, 111, 114, 110]⟩)] 9).star ((bookA p 999 T).star emp)) W) 28 #[.pointer (some ⟨p, 0, none⟩), .string (B), .string (⟨#[116, 111, 114, 110]⟩)] (by kernel_rfl) rfl rfl (by rfl) (exec_pick (u := .pointer (some ⟨p, 0, none⟩)) (v := .string (B)) (r := .string (⟨#[116, 111, 114, 110]⟩)) (.tmp 63) (.tmp 66) (.tmp 69) rfl rfl rfl rfl) hcall (fun _ h => h) ?_
          intro X hS
          simp only [Act.put, List.setIfInBounds_toArray, List.set_cons_zero, List.set_cons_succ]
          refine held_take 8 sra8 (some 62) ?_ rfl rfl (by kernel_rfl) (by kernel_rfl) (by kernel_rfl) (fun _ _ _ h => h) (Or.inl ⟨by rfl, ?_⟩) hS ?_
          rotate_left
          · intro w0 hy0; obtain ⟨y1, y2⟩ := HC.out _ hy0; (go_simp <;> with_reducible rfl)
          simp only [Act.put, List.setIfInBounds_toArray, List.set_cons_zero, List.set_cons_succ]
          refine held_take 9 sra9 (some 71) ?_ rfl rfl (by kernel_rfl) (by kernel_rfl) (by kernel_rfl) (fun _ _ _ h => h) (Or.inl ⟨by rfl, ?_⟩) hS ?_
          rotate_left
          · intro w0 hy0; obtain ⟨y1, y2⟩ := HC.out _ hy0; (go_simp <;> with_reducible rfl)
          simp only [Act.put, List.setIfInBounds_toArray, List.set_cons_zero, List.set_cons_succ]
          refine held_take 10 sra10 (some 72) ?_ rfl rfl (by kernel_rfl) (by kernel_rfl) (by kernel_rfl) (fun _ _ _ h => h) (Or.inl ⟨by rfl, ?_⟩) hS ?_
          rotate_left
          · intro w0 hy0; obtain ⟨y1, y2⟩ := HC.out _ hy0; (go_simp <;> with_reducible rfl)
          simp only [Act.put, List.setIfInBounds_toArray, List.set_cons_zero, List.set_cons_succ]
          refine held_take 11 sra11 (some 73) ?_ rfl rfl (by kernel_rfl) (by kernel_rfl) (by kernel_rfl) (fun _ _ _ h => h) (Or.inl ⟨by rfl, ?_⟩) hS ?_
          rotate_left
          · intro w0 hy0; obtain ⟨y1, y2⟩ := HC.out _ hy0; (go_simp <;> with_reducible rfl)
          simp only [Act.put, List.setIfInBounds_toArray, List.set_cons_zero, List.set_cons_succ]
          refine held_take 12 sra12 (some 15) ?_ rfl rfl (by kernel_rfl) (by kernel_rfl) (by kernel_rfl) (fun _ _ _ h => h) (Or.inl ⟨by rfl, ?_⟩) hS ?_
          rotate_left
          · intro w0 hy0; obtain ⟨y1, y2⟩ := HC.out _ hy0; (go_simp <;> with_reducible rfl)
          simp only [Act.put, List.setIfInBounds_toArray, List.set_cons_zero, List.set_cons_succ]
          refine held_take 13 sra13 (some 16) ?_ rfl rfl (by kernel_rfl) (by kernel_rfl) (by kernel_rfl) (fun _ _ _ h => h) (Or.inl ⟨by rfl, ?_⟩) hS ?_
          rotate_left
          · intro w0 hy0; obtain ⟨y1, y2⟩ := HC.out _ hy0; (go_simp <;> with_reducible rfl)
          simp only [Act.put, List.setIfInBounds_toArray, List.set_cons_zero, List.set_cons_succ]
          refine held_take 14 sra14 (some 17) ?_ rfl rfl (by kernel_rfl) (by kernel_rfl) (by kernel_rfl) (fun _ _ _ h => h) (Or.inl ⟨by rfl, ?_⟩) hS ?_
          rotate_left
          · intro w0 hy0; obtain ⟨y1, y2⟩ := HC.out _ hy0; (go_simp <;> with_reducible rfl)
          simp only [Act.put, List.setIfInBounds_toArray, List.set_cons_zero, List.set_cons_succ]
          refine wpAnyH_done (by kernel_rfl) ?_ _
          clear hcall hBW HC
          obtain ⟨e1, g1, l1⟩ := hS.own
          go_wp2_with (go_at_call 16; (with_reducible refine (lnum _ _).mono ?_); rintro e w2 ⟨rfl, rfl⟩)
          have HC := Lib.hid (fun (W : World) (h : At w ((ownA w1.heap.size #[.string (B), .string (S)] 9).star ((bookA p 999 T).star emp)) W) => (And.intro ((h.own.1 0).trans rfl) ((h.own.1 1).trans rfl) : W.cell? ⟨w1.heap.size, 0, Option.none⟩ = some (.string (B)) ∧ W.cell? ⟨w1.heap.size, 1, Option.none⟩ = some (.string (S))))
          refine region_held (S := fun W => At w ((ownA w1.heap.size #[.string (B), .string (S)] 9).star ((bookA p 999 T).star emp)) W) 15 [false, false, false, false, false, false, false, false, false, false, false, false, false, false, false] rfl rfl (by kernel_rfl) fun W hW => ?_
          have hBW : At w ((ownA w1.heap.size #[.string (B), .string (S)] 9).star ((bookA p 999 T).star emp)) W := by subst hW; exact (hS.poke1 (v := .string (S)) (good1 _ _ _)).lay ((ownA_good _ _ _).star (good1 _ _ _)) (bdrew _)
          clear hW hS e1 g1 l1
          refine held_take 0 srb0 (some 108) ?_ rfl rfl (by kernel_rfl) (by kernel_rfl) (by kernel_rfl) (fun _ _ _ h => h) (Or.inl ⟨by rfl, ?_⟩) hBW ?_
          rotate_left
          · intro w0 hy0; obtain ⟨y1, y2⟩ := HC.out _ hy0; (go_simp <;> with_reducible rfl)
          simp only [Act.put, List.setIfInBounds_toArray, List.set_cons_zero, List.set_cons_succ]
          refine held_take 1 srb1 (some 109) ?_ rfl rfl (by kernel_rfl) (by kernel_rfl) (by kernel_rfl) (fun _ _ _ h => h) (Or.inl ⟨by rfl, ?_⟩) hBW ?_
          rotate_left
          · intro w0 hy0; obtain ⟨y1, y2⟩ := HC.out _ hy0; (go_simp <;> with_reducible rfl)
          simp only [Act.put, List.setIfInBounds_toArray, List.set_cons_zero, List.set_cons_succ]
          refine held_take 2 srb2 (some 110) ?_ rfl rfl (by kernel_rfl) (by kernel_rfl) (by kernel_rfl) (fun _ _ _ h => h) (Or.inl ⟨by rfl, ?_⟩) hBW ?_
          rotate_left
          · intro w0 hy0; obtain ⟨y1, y2⟩ := HC.out _ hy0; (go_simp <;> with_reducible rfl)
          simp only [Act.put, List.setIfInBounds_toArray, List.set_cons_zero, List.set_cons_succ]
          refine held_take 3 srb3 (some 111) ?_ rfl rfl (by kernel_rfl) (by kernel_rfl) (by kernel_rfl) (fun _ _ _ h => h) (Or.inl ⟨by rfl, ?_⟩) hBW ?_
          rotate_left
          · intro w0 hy0; obtain ⟨y1, y2⟩ := HC.out _ hy0; (go_simp <;> with_reducible rfl)
          simp only [Act.put, List.setIfInBounds_toArray, List.set_cons_zero, List.set_cons_succ]
          refine held_take 4 srb4 (some 112) ?_ rfl rfl (by kernel_rfl) (by kernel_rfl) (by kernel_rfl) (fun _ _ _ h => h) (Or.inl ⟨by rfl, ?_⟩) hBW ?_
          rotate_left
          · intro w0 hy0; obtain ⟨y1, y2⟩ := HC.out _ hy0; (go_simp <;> with_reducible rfl)
          simp only [Act.put, List.setIfInBounds_toArray, List.set_cons_zero, List.set_cons_succ]
          refine held_take 5 srb5 (some 113) ?_ rfl rfl (by kernel_rfl) (by kernel_rfl) (by kernel_rfl) (fun _ _ _ h => h) (Or.inl ⟨by rfl, ?_⟩) hBW ?_
          rotate_left
          · intro w0 hy0; obtain ⟨y1, y2⟩ := HC.out _ hy0; (go_simp <;> with_reducible rfl)
          simp only [Act.put, List.setIfInBounds_toArray, List.set_cons_zero, List.set_cons_succ]
          refine held_take 6 srb6 (some 114) ?_ rfl rfl (by kernel_rfl) (by kernel_rfl) (by kernel_rfl) (fun _ _ _ h => h) (Or.inl ⟨by rfl, ?_⟩) hBW ?_
          rotate_left
          · intro w0 hy0; obtain ⟨y1, y2⟩ := HC.out _ hy0; (go_simp <;> with_reducible rfl)
          simp only [Act.put, List.setIfInBounds_toArray, List.set_cons_zero, List.set_cons_succ]
          have hcall := At.op1G HK2.out (ownA_good w1.heap.size #[.string (B), .string (S)] 9) emp_good HG.out hBW
          refine held_call 7 srb7 (some 115) (.tuple #[.int .i64 ((a : Int) + (j : Int)), .int .i64 0, .int .i64 0]) (fun W => At w ((ownA w1.heap.size #[.string (B), .string (S)] 9).star ((bookA p 999 T).star emp)) W) 28 #[.pointer (some ⟨p, 0, none⟩), .string (B), .string (S)] (by kernel_rfl) rfl rfl (by rfl) (exec_pick (u := .pointer (some ⟨p, 0, none⟩)) (v := .string (B)) (r := .string (S)) (.tmp 108) (.tmp 111) (.tmp 114) rfl rfl rfl rfl) hcall (fun _ h => h) ?_
          intro X hS
          simp only [Act.put, List.setIfInBounds_toArray, List.set_cons_zero, List.set_cons_succ]
          refine held_take 8 srb8 (some 107) ?_ rfl rfl (by kernel_rfl) (by kernel_rfl) (by kernel_rfl) (fun _ _ _ h => h) (Or.inl ⟨by rfl, ?_⟩) hS ?_
          rotate_left
          · intro w0 hy0; obtain ⟨y1, y2⟩ := HC.out _ hy0; (go_simp <;> with_reducible rfl)
          simp only [Act.put, List.setIfInBounds_toArray, List.set_cons_zero, List.set_cons_succ]
          refine held_take 9 srb9 (some 116) ?_ rfl rfl (by kernel_rfl) (by kernel_rfl) (by kernel_rfl) (fun _ _ _ h => h) (Or.inl ⟨by rfl, ?_⟩) hS ?_
          rotate_left
          · intro w0 hy0; obtain ⟨y1, y2⟩ := HC.out _ hy0; (go_simp <;> with_reducible rfl)
          simp only [Act.put, List.setIfInBounds_toArray, List.set_cons_zero, List.set_cons_succ]
          refine held_take 10 srb10 (some 117) ?_ rfl rfl (by kernel_rfl) (by kernel_rfl) (by kernel_rfl) (fun _ _ _ h => h) (Or.inl ⟨by rfl, ?_⟩) hS ?_
          rotate_left
          · intro w0 hy0; obtain ⟨y1, y2⟩ := HC.out _ hy0; (go_simp <;> with_reducible rfl)
          simp only [Act.put, List.setIfInBounds_toArray, List.set_cons_zero, List.set_cons_succ]
          refine held_take 11 srb11 (some 118) ?_ rfl rfl (by kernel_rfl) (by kernel_rfl) (by kernel_rfl) (fun _ _ _ h => h) (Or.inl ⟨by rfl, ?_⟩) hS ?_
          rotate_left
          · intro w0 hy0; obtain ⟨y1, y2⟩ := HC.out _ hy0; (go_simp <;> with_reducible rfl)
          simp only [Act.put, List.setIfInBounds_toArray, List.set_cons_zero, List.set_cons_succ]
          refine held_take 12 srb12 (some 15) ?_ rfl rfl (by kernel_rfl) (by kernel_rfl) (by kernel_rfl) (fun _ _ _ h => h) (Or.inl ⟨by rfl, ?_⟩) hS ?_
          rotate_left
          · intro w0 hy0; obtain ⟨y1, y2⟩ := HC.out _ hy0; (go_simp <;> with_reducible rfl)
          simp only [Act.put, List.setIfInBounds_toArray, List.set_cons_zero, List.set_cons_succ]
          refine held_take 13 srb13 (some 18) ?_ rfl rfl (by kernel_rfl) (by kernel_rfl) (by kernel_rfl) (fun _ _ _ h => h) (Or.inl ⟨by rfl, ?_⟩) hS ?_
          rotate_left
          · intro w0 hy0; obtain ⟨y1, y2⟩ := HC.out _ hy0; (go_simp <;> with_reducible rfl)
          simp only [Act.put, List.setIfInBounds_toArray, List.set_cons_zero, List.set_cons_succ]
          refine held_take 14 srb14 (some 19) ?_ rfl rfl (by kernel_rfl) (by kernel_rfl) (by kernel_rfl) (fun _ _ _ h => h) (Or.inl ⟨by rfl, ?_⟩) hS ?_
          rotate_left
          · intro w0 hy0; obtain ⟨y1, y2⟩ := HC.out _ hy0; (go_simp <;> with_reducible rfl)
          simp only [Act.put, List.setIfInBounds_toArray, List.set_cons_zero, List.set_cons_succ]
          refine wpAnyH_done (by kernel_rfl) ?_ _
          clear hcall hBW HC
          obtain ⟨e1, g1, l1⟩ := hS.own
          go_wp2_with (go_at_call 16; (with_reducible refine (lnum _ _).mono ?_); rintro e w2 ⟨rfl, rfl⟩)
          go_roundw
          case rel => exact ⟨j + 1, T, B, S, by omega, by omega, by go_num, HF.out.2.1, .inr ⟨_, by omega, HF.out.2.2⟩, .inr ⟨by omega, by rw [show (a : Int) + ((j + 1 : Nat) : Int) - 1 = (a : Int) + (j : Int) by omega]; exact HF.out.1⟩, .inl ⟨by omega, rfl, hS⟩⟩
          case measure => simp [intOf]; omega
    · have hbel : Below w.heap.size w wr := by
        rcases hX with ⟨_, _, hS⟩ | ⟨_, _, hS⟩ <;> exact hS.bel
      have hend : ¬ (j : Int) ≤ 1 + (m : Int) := by omega
      have hend2 : (1 : Int) + (m : Int) < (j : Int) := by omega
      clear hX hA hB
      go_wp2
      go_ret
      exact ⟨rfl, hbel⟩
theorem srows_walk (many fr : Int) (w : World) (hg : Gd w) : Calls Tryd.prog 11 #[.int .i64 many, .int .i64 fr] w fun e w' => e = .returned (.bool true) ∧ Below w.heap.size w w' := by
  have hm := i64_mask many 5 (by omega)
  rw [show ((2 ^ 5 - 1 : Nat) : Int) = 31 from by decide, show ((2 ^ 5 : Nat) : Int) = 32 from by decide] at hm
  obtain ⟨m, hmm, m1⟩ : ∃ m : Nat, many % 32 = (m : Int) ∧ m ≤ 31 := ⟨(many % 32).toNat, by omega, by omega⟩
  rw [hmm] at hm
  have ha := i64_mask fr 8 (by omega)
  rw [show ((2 ^ 8 - 1 : Nat) : Int) = 255 from by decide, show ((2 ^ 8 : Nat) : Int) = 256 from by decide] at ha
  obtain ⟨a, haa, a1⟩ : ∃ a : Nat, fr % 256 = (a : Int) ∧ a ≤ 255 := ⟨(fr % 256).toNat, by omega, by omega⟩
  rw [haa] at ha
  exact srows_of many fr m a m1 a1 hm ha w hg
end Go.Proofs.YtiebpjkppjollaaDoor
