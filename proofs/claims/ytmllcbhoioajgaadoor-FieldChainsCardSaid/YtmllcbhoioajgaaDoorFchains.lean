/- The walk of FieldChains: numbers and texts in turn come back in their row, and of less than all the last one is cut. Condition: errors.errorType holds the handle of the type error. -/
import Derived.Test.YtmllcbhoioajgaaDoorFforms
import Derived.Test.YtmllcbhoioajgaaDoorFplain4
namespace Go.Proofs.YtmllcbhoioajgaaDoor
open Go.RowKit

def Small (ts : List ByteArray) (m : Nat) : Prop := ∀ i, i < m → (ts.getD i ByteArray.empty).size ≤ 100
theorem Small.succ {ts : List ByteArray} {m : Nat} (h : Small ts m) (h1 : (ts.getD m ByteArray.empty).size ≤ 100) : Small ts (m + 1) := by
  intro i hi
  by_cases e : i = m
  · subst e; exact h1
  · exact h i (by omega)
theorem encB_size {zs : List Int} {ts : List ByteArray} {m : Nat} (h : Small ts m) : (encB zs ts m).size ≤ 110 * m := by
  induction m with
  | zero => simp [encB, ByteArray.size]
  | succ m ih =>
    have h1 := ih (fun i hi => h i (by omega))
    have h2 := h m (by omega)
    have h3 := numS_size (zAt zs m)
    have h4 := numS_size ((ts.getD m ByteArray.empty).size : Int)
    rw [encB, ByteArray.size_append, ByteArray.size_append, textS_ok (by omega), ByteArray.size_append]
    omega
theorem encB_succ {zs : List Int} {ts : List ByteArray} {m : Nat} {q : Int} {t : ByteArray} (hq : zAt zs m = q) (ht : ts.getD m ByteArray.empty = t) : (encB zs ts m ++ numS q) ++ textS t = encB zs ts (m + 1) := by rw [encB, hq, ht]

theorem encB_pos {zs : List Int} {ts : List ByteArray} {K : Nat} {S : ByteArray} (hS : encB zs ts K = S) (h : 0 < K) : 1 ≤ S.size := by
  obtain ⟨k, rfl⟩ : ∃ k, K = k + 1 := ⟨K - 1, by omega⟩
  have := numS_pos (zAt zs k) (zAt_bd zs k).1 (zAt_bd zs k).2
  rw [← hS, encB, ByteArray.size_append, ByteArray.size_append]
  omega
theorem chain_num {zs : List Int} {ts : List ByteArray} {m K : Nat} {q : Int} {S : ByteArray} (hm : m < K) (hS : encB zs ts K = S) (hq : zAt zs m = q) (hsz : S.size ≤ 1000) :
    Fn 11 #[.string S, .int .i64 ((encB zs ts m).size : Nat)] (.tuple #[.int .i64 q, .int .i64 (((encB zs ts m).size + (numS q).size : Nat) : Int), .int .i64 0]) := by
  obtain ⟨R, hR⟩ := encB_pre zs ts (m + 1) K hm
  subst hS; subst hq
  rw [hR, encB, ba_assoc] at hsz ⊢
  have hb := zAt_bd zs m
  obtain ⟨g1, g2, g3⟩ := get_at (encB zs ts m) (textS (ts.getD m ByteArray.empty) ++ R) (zAt zs m) hb.1 hb.2
  have hp : (encB zs ts m).size ≤ 1000 := by rw [ByteArray.size_append, ByteArray.size_append] at hsz; omega
  exact Fn.mk (cget _ _ _ _ _ (by omega) (by omega) (by omega) g2 g3 g1)
theorem ctext (s : ByteArray) (a t e : Int) (x : ByteArray) (hs : s.size ≤ 9223372036854770000) (ha0 : -9223372036854775808 ≤ a) (ha1 : a ≤ 9223372036854775807) (h1 : txtS s a = x) (h2 : txtTo s a = t) (h3 : txtE s a = e) (w : World) (hg : Gd w) :
    Calls Tryd.prog 15 #[.string s, .int .i64 a] w fun en w' => en = .returned (.tuple #[.string x, .int .i64 t, .int .i64 e]) ∧ Below w.heap.size w w' := by
  have := fgett s a w hs ha0 ha1 hg
  rwa [h1, h2, h3] at this
theorem chain_text {zs : List Int} {ts : List ByteArray} {m K : Nat} {q : Int} {t S : ByteArray} (hm : m < K) (hS : encB zs ts K = S) (hq : zAt zs m = q) (ht : ts.getD m ByteArray.empty = t) (h100 : t.size ≤ 100) (hsz : S.size ≤ 1000) :
    Fn 15 #[.string S, .int .i64 (((encB zs ts m).size + (numS q).size : Nat) : Int)] (.tuple #[.string t, .int .i64 ((encB zs ts (m + 1)).size : Nat), .int .i64 0]) := by
  obtain ⟨R, hR⟩ := encB_pre zs ts (m + 1) K hm
  subst hS; subst hq; subst ht
  rw [hR] at hsz ⊢
  rw [ByteArray.size_append] at hsz
  obtain ⟨g1, g2, g3⟩ := txt_at (encB zs ts m ++ numS (zAt zs m)) R (ts.getD m ByteArray.empty) (by omega)
  have e : (encB zs ts (m + 1)).size = (encB zs ts m ++ numS (zAt zs m)).size + (textS (ts.getD m ByteArray.empty)).size := by rw [encB, ByteArray.size_append]
  rw [e]
  rw [e] at hsz
  rw [ByteArray.size_append] at g1 g2 g3 hsz ⊢
  exact Fn.mk (ctext _ _ _ _ _ (by rw [ByteArray.size_append, e, ByteArray.size_append]; omega) (by omega) (by omega) g2 g3 g1)
theorem chain_cut {zs : List Int} {ts : List ByteArray} {m K : Nat} {q : Int} {S : ByteArray} (hm : m + 1 = K) (hS : encB zs ts K = S) (hq : zAt zs m = q) (h100 : (ts.getD m ByteArray.empty).size ≤ 100) (hsz : S.size ≤ 1000) :
    Fn 15 #[.string (S.extract 0 (S.size - 1)), .int .i64 (((encB zs ts m).size + (numS q).size : Nat) : Int)] (.tuple #[.string ⟨#[]⟩, .int .i64 0, .int .i64 101]) := by
  have g1 := txt_cut (encB zs ts m ++ numS (zAt zs m)) (ts.getD m ByteArray.empty) (by omega)
  have e : (encB zs ts m ++ numS (zAt zs m)) ++ textS (ts.getD m ByteArray.empty) = S := by rw [← hS, ← hm, encB]
  have hz : (encB zs ts m).size + (numS q).size ≤ 1000 := by rw [← e, ByteArray.size_append, ByteArray.size_append, hq] at hsz; omega
  rw [e, ByteArray.size_append, hq] at g1
  have h1 : (S.extract 0 (S.size - 1)).size ≤ 9223372036854770000 := by rw [ByteArray.size_extract]; omega
  exact Fn.mk (ctext _ _ _ _ _ h1 (by omega) (by omega) (txtS_ne (by rw [g1]; decide)) (txtTo_ne (by rw [g1]; decide)) g1)
theorem fn_num (q : Int) (h0 : 0 ≤ q) (h1 : q ≤ 1073741823) : Fn 8 #[.int .i64 q] (.tuple #[.string (numS q), .int .i64 0]) := Fn.mk fun W _ => by
  have := fnum q W (by omega) (by omega)
  rwa [numE_ok h0 h1] at this
theorem fn_text (t : ByteArray) (h : t.size ≤ 100) : Fn 13 #[.string t] (.tuple #[.string (textS t), .int .i64 0]) := Fn.mk fun W _ => by
  have := ftext t W (by omega)
  rwa [textE, if_pos (by omega)] at this
theorem cellsX {w : World} {bx ox lx : Nat} {zs : List Int} (hbx : bx < w.heap.size) (hcx : ∀ i, i < lx → w.cell? ⟨bx, ox + i, none⟩ = some (.int .i64 (zs.getD i 0))) (m : Nat) (hm : m < lx) :
    ∀ W, Gr w W → W.cell? ⟨bx, ox + m, none⟩ = some (.int .i64 (zs.getD m 0)) := fun _ hr => (hr.below.cell (p := ⟨bx, ox + m, none⟩) hbx).trans (hcx m hm)
theorem cellsT {w : World} {bx ox lx : Nat} {ts : List ByteArray} (hbx : bx < w.heap.size) (hcx : ∀ i, i < lx → w.cell? ⟨bx, ox + i, none⟩ = some (.string (ts.getD i ByteArray.empty))) (m : Nat) (hm : m < lx) :
    ∀ W, Gr w W → W.cell? ⟨bx, ox + m, none⟩ = some (.string (ts.getD m ByteArray.empty)) := fun _ hr => (hr.below.cell (p := ⟨bx, ox + m, none⟩) hbx).trans (hcx m hm)

set_option maxRecDepth 100000 in
set_option maxHeartbeats 4000000 in
theorem chains_zero (ax ay : Option Addr) (lx cx ls cs : Nat) (w : World) (hz : lx = 0 ∨ ls = 0) (hg : Gd w) :
    Calls Tryd.prog 6 #[.slice ax lx cx, .slice ay ls cs] w fun e w' => e = .returned (.bool true) ∧ Gr w w' := by
  have hr := Gr.refl hg
  by_cases h0 : lx = 0
  · subst h0
    clear hz
    go_enter Tryd.func6, Tryd.ntmps6
    go_wp2_with (go_at_call 17; (with_reducible refine (fn_awake.go (by assumption)).mono ?_); rintro e w1 ⟨rfl, hr⟩)
    refine wp_loop_rounds 1 ?_
    rw [rounds_succ]
    go_wp2
    refine wp_loop_rounds 1 ?_
    rw [rounds_succ]
    go_wp2
    go_ret
    exact ⟨rfl, hr⟩
  · obtain rfl : ls = 0 := by omega
    have h1 : 0 < lx := by omega
    clear hz h0
    go_enter Tryd.func6, Tryd.ntmps6
    go_wp2_with (go_at_call 17; (with_reducible refine (fn_awake.go (by assumption)).mono ?_); rintro e w1 ⟨rfl, hr⟩)
    refine wp_loop_rounds 1 ?_
    rw [rounds_succ]
    go_wp2
    refine wp_loop_rounds 1 ?_
    rw [rounds_succ]
    go_wp2
    go_ret
    exact ⟨rfl, hr⟩

set_option maxRecDepth 100000 in
set_option maxHeartbeats 8000000 in
theorem chains_a (bx ox cx bt ot ct : Nat) (K ls : Nat) (zs : List Int) (ts : List ByteArray) (w : World) (hK : K ≤ ls) (hK8 : K ≤ 8) (_hls : ls ≤ 9223372036854775807) (hbx : bx < w.heap.size) (hbt : bt < w.heap.size)
    (hcx : ∀ i, i < K → w.cell? ⟨bx, ox + i, none⟩ = some (.int .i64 (zs.getD i 0))) (hct : ∀ i, i < ls → w.cell? ⟨bt, ot + i, none⟩ = some (.string (ts.getD i ByteArray.empty))) (hg : Gd w) :
    Calls Tryd.prog 6 #[.slice (some ⟨bx, ox, none⟩) K cx, .slice (some ⟨bt, ot, none⟩) ls ct] w fun e w' => e = .returned (.bool true) ∧ Gr w w' := by
  have hr := Gr.refl hg
  have HX := Lib.hid (cellsX hbx hcx)
  have HT := Lib.hid (cellsT hbt hct)
  clear hcx hct
  go_enter Tryd.func6, Tryd.ntmps6
  go_wp2_with (go_at_call 17; (with_reducible refine (fn_awake.go (by assumption)).mono ?_); rintro e w1 ⟨rfl, hr⟩)
  go_loopw [5, 7] (fun s i wr => ∃ m : Nat, m ≤ K ∧ i = .int .i64 m ∧ s = .string (encB zs ts m) ∧ Small ts m ∧ Gr w wr) (fun _ i _ => K - (intOf i).toNat)
  case atStart => exact ⟨0, Nat.zero_le _, rfl, rfl, fun i hi => absurd hi (by omega), hr⟩
  case round =>
    obtain ⟨m, hm, rfl, rfl, hsm, hr⟩ := hrel
    have hes := encB_size (zs := zs) hsm
    by_cases hlt : m < K
    · have HX1 := Lib.hid (HX.out m (by omega))
      have HT1 := Lib.hid (HT.out m (by omega))
      obtain ⟨t, ht⟩ : ∃ t, ts.getD m ByteArray.empty = t := ⟨_, rfl⟩
      obtain ⟨q, hq⟩ : ∃ q, zAt zs m = q := ⟨_, rfl⟩
      obtain ⟨z, hz⟩ : ∃ z, zs.getD m 0 = z := ⟨_, rfl⟩
      rw [ht] at HT1
      rw [hz] at HX1
      have hmask : bits .and .i64 z 1073741823 = q := (i64_mask z 30 (by omega)).trans (by rw [← hz]; exact hq)
      have hqb := zAt_bd zs m
      rw [hq] at hqb
      have HS := Lib.hid (encB_succ hq ht)
      have HSM := Lib.hid (fun h => hsm.succ (ht ▸ h : (ts.getD m ByteArray.empty).size ≤ 100))
      have HF := Lib.hid (fn_num q hqb.1 hqb.2)
      have hx1 := HX1.out _ hr
      have ht1 := HT1.out _ hr
      clear ht hq hz hqb
      by_cases hbig : 100 < t.size
      · go_wp2
        go_ret
        exact ⟨rfl, hr⟩
      · have hsmall : t.size ≤ 100 := by omega
        have HG := Lib.hid (fn_text t hsmall)
        have hn5 := numS_size q
        have hts : (textS t).size ≤ 105 := by have := numS_size (t.size : Int); rw [textS_ok (by omega), ByteArray.size_append]; omega
        have hts1 : 1 ≤ (textS t).size := by have h1 : 1 ≤ (numS t.size).size := numS_pos _ (by omega) (by omega); rw [textS_ok (by omega), ByteArray.size_append]; omega
        clear hbig
        go_wp2_with (first
          | (go_at_call 8; (with_reducible refine (HF.out.go hr).mono ?_); rintro e w2 ⟨rfl, hr2⟩; have hx2 := HX1.out _ hr2; have ht2 := HT1.out _ hr2)
          | (go_at_call 13; (with_reducible refine (HG.out.go hr2).mono ?_); rintro e w3 ⟨rfl, hr3⟩)
          | (go_at_call 10; refine (lnum _ _).mono ?_; rintro e w1 ⟨rfl, rfl⟩))
        go_roundw
        case rel => exact ⟨m + 1, by omega, by go_num, by rw [HS.out], HSM.out hsmall, hr3⟩
        case measure => simp [intOf]; omega
    · have hmK : K = m := by omega
      subst hmK
      clear hlt
      have HSM := Lib.hid hsm
      clear hsm
      obtain ⟨S, hS⟩ : ∃ S, encB zs ts K = S := ⟨_, rfl⟩
      have HSS := Lib.hid hS
      rw [hS] at hes ⊢
      clear hS
      have hS1000 : S.size ≤ 1000 := by omega
      clear hes
      go_wp2
      go_loopw [12, 13] (fun a i wr => ∃ n : Nat, n ≤ K ∧ i = .int .i64 n ∧ a = .int .i64 ((encB zs ts n).size : Nat) ∧ Gr w wr) (fun _ i _ => K - (intOf i).toNat)
      case atStart => exact ⟨0, Nat.zero_le _, rfl, rfl, hr⟩
      case round =>
        obtain ⟨n, hn, rfl, rfl, hr⟩ := hrel
        by_cases hlt : n < K
        · have HX1 := Lib.hid (HX.out n (by omega))
          have HT1 := Lib.hid (HT.out n (by omega))
          have h100 := HSM.out n hlt
          obtain ⟨t, ht⟩ : ∃ t, ts.getD n ByteArray.empty = t := ⟨_, rfl⟩
          obtain ⟨q, hq⟩ : ∃ q, zAt zs n = q := ⟨_, rfl⟩
          obtain ⟨z, hz⟩ : ∃ z, zs.getD n 0 = z := ⟨_, rfl⟩
          have HC3 : Hid (n + 1 = K → Fn 15 #[.string (S.extract 0 (S.size - 1)), .int .i64 (((encB zs ts n).size + (numS q).size : Nat) : Int)] (.tuple #[.string ⟨#[]⟩, .int .i64 0, .int .i64 101])) := fun h => chain_cut h HSS.out hq h100 hS1000
          rw [ht] at HT1 h100
          rw [hz] at HX1
          have hmask : bits .and .i64 z 1073741823 = q := (i64_mask z 30 (by omega)).trans (by rw [← hz]; exact hq)
          have HC1 := Lib.hid (chain_num hlt HSS.out hq hS1000)
          have HC2 := Lib.hid (chain_text hlt HSS.out hq ht h100 hS1000)
          have hSpos : 1 ≤ S.size := encB_pos HSS.out (by omega)
          clear ht hq hz h100
          obtain ⟨p2, hp2⟩ : ∃ p2 : Nat, (encB zs ts n).size + (numS q).size = p2 := ⟨_, rfl⟩
          rw [hp2] at HC1 HC2 HC3
          clear hp2
          by_cases hlast : n + 1 = K
          · have HC := Lib.hid (HC3.out hlast)
            have hl2 : ((n : Int) == (K : Int) - 1) = true := by rw [beq_iff_eq]; omega
            clear HC3
            have HLT := Lib.hid hlast
            clear hlast
            go_wp2_with (first
              | (go_at_call 11; (with_reducible refine (HC1.out.go hr).mono ?_); rintro e w2 ⟨rfl, hr2⟩)
              | (go_at_call 15; first | ((with_reducible refine (HC2.out.go hr2).mono ?_); rintro e w3 ⟨rfl, hr3⟩; have hx3 := HX1.out _ hr3; have ht3 := HT1.out _ hr3) | ((with_reducible refine (HC.out.go hr3).mono ?_); rintro e w4 ⟨rfl, hr4⟩))
              | (go_at_call 10; refine (lnum _ _).mono ?_; rintro e w1 ⟨rfl, rfl⟩))
            go_roundw
            case rel => exact ⟨n + 1, Nat.le_of_eq HLT.out, by go_num, rfl, hr4⟩
            case measure => have := HLT.out; simp [intOf]; omega
          · have hl2 : ((n : Int) == (K : Int) - 1) = false := by rw [beq_eq_false_iff_ne]; omega
            clear HC3
            go_wp2_with (first
              | (go_at_call 11; (with_reducible refine (HC1.out.go hr).mono ?_); rintro e w2 ⟨rfl, hr2⟩)
              | (go_at_call 15; ((with_reducible refine (HC2.out.go hr2).mono ?_); rintro e w3 ⟨rfl, hr3⟩; have hx3 := HX1.out _ hr3; have ht3 := HT1.out _ hr3))
              | (go_at_call 10; refine (lnum _ _).mono ?_; rintro e w1 ⟨rfl, rfl⟩))
            go_roundw
            case rel => exact ⟨n + 1, by omega, by go_num, rfl, hr3⟩
            case measure => simp [intOf]; omega
        · have hnK : n = K := by omega
          have HE : Hid ((encB zs ts n).size = S.size) := by rw [hnK, HSS.out]; rfl
          have he := HE.out
          have hge : K ≤ n := by omega
          clear hlt hnK
          rw [he]
          go_wp2
          go_ret
          exact ⟨rfl, hr⟩

set_option maxRecDepth 100000 in
set_option maxHeartbeats 8000000 in
theorem chains_b (bx ox cx bt ot ct : Nat) (K lx : Nat) (zs : List Int) (ts : List ByteArray) (w : World) (hK : K < lx) (hK8 : K ≤ 8) (_hlx : lx ≤ 9223372036854775807) (hbx : bx < w.heap.size) (hbt : bt < w.heap.size)
    (hcx : ∀ i, i < lx → w.cell? ⟨bx, ox + i, none⟩ = some (.int .i64 (zs.getD i 0))) (hct : ∀ i, i < K → w.cell? ⟨bt, ot + i, none⟩ = some (.string (ts.getD i ByteArray.empty))) (hg : Gd w) :
    Calls Tryd.prog 6 #[.slice (some ⟨bx, ox, none⟩) lx cx, .slice (some ⟨bt, ot, none⟩) K ct] w fun e w' => e = .returned (.bool true) ∧ Gr w w' := by
  have hr := Gr.refl hg
  have HX := Lib.hid (cellsX hbx hcx)
  have HT := Lib.hid (cellsT hbt hct)
  clear hcx hct
  go_enter Tryd.func6, Tryd.ntmps6
  go_wp2_with (go_at_call 17; (with_reducible refine (fn_awake.go (by assumption)).mono ?_); rintro e w1 ⟨rfl, hr⟩)
  go_loopw [5, 7] (fun s i wr => ∃ m : Nat, m ≤ K ∧ i = .int .i64 m ∧ s = .string (encB zs ts m) ∧ Small ts m ∧ Gr w wr) (fun _ i _ => K - (intOf i).toNat)
  case atStart => exact ⟨0, Nat.zero_le _, rfl, rfl, fun i hi => absurd hi (by omega), hr⟩
  case round =>
    obtain ⟨m, hm, rfl, rfl, hsm, hr⟩ := hrel
    have hes := encB_size (zs := zs) hsm
    by_cases hlt : m < K
    · have HX1 := Lib.hid (HX.out m (by omega))
      have HT1 := Lib.hid (HT.out m (by omega))
      obtain ⟨t, ht⟩ : ∃ t, ts.getD m ByteArray.empty = t := ⟨_, rfl⟩
      obtain ⟨q, hq⟩ : ∃ q, zAt zs m = q := ⟨_, rfl⟩
      obtain ⟨z, hz⟩ : ∃ z, zs.getD m 0 = z := ⟨_, rfl⟩
      rw [ht] at HT1
      rw [hz] at HX1
      have hmask : bits .and .i64 z 1073741823 = q := (i64_mask z 30 (by omega)).trans (by rw [← hz]; exact hq)
      have hqb := zAt_bd zs m
      rw [hq] at hqb
      have HS := Lib.hid (encB_succ hq ht)
      have HSM := Lib.hid (fun h => hsm.succ (ht ▸ h : (ts.getD m ByteArray.empty).size ≤ 100))
      have HF := Lib.hid (fn_num q hqb.1 hqb.2)
      have hx1 := HX1.out _ hr
      have ht1 := HT1.out _ hr
      clear ht hq hz hqb
      by_cases hbig : 100 < t.size
      · go_wp2
        go_ret
        exact ⟨rfl, hr⟩
      · have hsmall : t.size ≤ 100 := by omega
        have HG := Lib.hid (fn_text t hsmall)
        have hn5 := numS_size q
        have hts : (textS t).size ≤ 105 := by have := numS_size (t.size : Int); rw [textS_ok (by omega), ByteArray.size_append]; omega
        have hts1 : 1 ≤ (textS t).size := by have h1 : 1 ≤ (numS t.size).size := numS_pos _ (by omega) (by omega); rw [textS_ok (by omega), ByteArray.size_append]; omega
        clear hbig
        go_wp2_with (first
          | (go_at_call 8; (with_reducible refine (HF.out.go hr).mono ?_); rintro e w2 ⟨rfl, hr2⟩; have hx2 := HX1.out _ hr2; have ht2 := HT1.out _ hr2)
          | (go_at_call 13; (with_reducible refine (HG.out.go hr2).mono ?_); rintro e w3 ⟨rfl, hr3⟩)
          | (go_at_call 10; refine (lnum _ _).mono ?_; rintro e w1 ⟨rfl, rfl⟩))
        go_roundw
        case rel => exact ⟨m + 1, by omega, by go_num, by rw [HS.out], HSM.out hsmall, hr3⟩
        case measure => simp [intOf]; omega
    · have hmK : K = m := by omega
      subst hmK
      clear hlt
      have HSM := Lib.hid hsm
      clear hsm
      obtain ⟨S, hS⟩ : ∃ S, encB zs ts K = S := ⟨_, rfl⟩
      have HSS := Lib.hid hS
      rw [hS] at hes ⊢
      clear hS
      have hS1000 : S.size ≤ 1000 := by omega
      clear hes
      go_wp2
      go_loopw [12, 13] (fun a i wr => ∃ n : Nat, n ≤ K ∧ i = .int .i64 n ∧ a = .int .i64 ((encB zs ts n).size : Nat) ∧ Gr w wr) (fun _ i _ => K - (intOf i).toNat)
      case atStart => exact ⟨0, Nat.zero_le _, rfl, rfl, hr⟩
      case round =>
        obtain ⟨n, hn, rfl, rfl, hr⟩ := hrel
        by_cases hlt : n < K
        · have HX1 := Lib.hid (HX.out n (by omega))
          have HT1 := Lib.hid (HT.out n (by omega))
          have h100 := HSM.out n hlt
          obtain ⟨t, ht⟩ : ∃ t, ts.getD n ByteArray.empty = t := ⟨_, rfl⟩
          obtain ⟨q, hq⟩ : ∃ q, zAt zs n = q := ⟨_, rfl⟩
          obtain ⟨z, hz⟩ : ∃ z, zs.getD n 0 = z := ⟨_, rfl⟩
          have HC3 : Hid (n + 1 = K → Fn 15 #[.string (S.extract 0 (S.size - 1)), .int .i64 (((encB zs ts n).size + (numS q).size : Nat) : Int)] (.tuple #[.string ⟨#[]⟩, .int .i64 0, .int .i64 101])) := fun h => chain_cut h HSS.out hq h100 hS1000
          rw [ht] at HT1 h100
          rw [hz] at HX1
          have hmask : bits .and .i64 z 1073741823 = q := (i64_mask z 30 (by omega)).trans (by rw [← hz]; exact hq)
          have HC1 := Lib.hid (chain_num hlt HSS.out hq hS1000)
          have HC2 := Lib.hid (chain_text hlt HSS.out hq ht h100 hS1000)
          have hSpos : 1 ≤ S.size := encB_pos HSS.out (by omega)
          clear ht hq hz h100
          obtain ⟨p2, hp2⟩ : ∃ p2 : Nat, (encB zs ts n).size + (numS q).size = p2 := ⟨_, rfl⟩
          rw [hp2] at HC1 HC2 HC3
          clear hp2
          by_cases hlast : n + 1 = K
          · have HC := Lib.hid (HC3.out hlast)
            have hl2 : ((n : Int) == (K : Int) - 1) = true := by rw [beq_iff_eq]; omega
            clear HC3
            have HLT := Lib.hid hlast
            clear hlast
            go_wp2_with (first
              | (go_at_call 11; (with_reducible refine (HC1.out.go hr).mono ?_); rintro e w2 ⟨rfl, hr2⟩)
              | (go_at_call 15; first | ((with_reducible refine (HC2.out.go hr2).mono ?_); rintro e w3 ⟨rfl, hr3⟩; have hx3 := HX1.out _ hr3; have ht3 := HT1.out _ hr3) | ((with_reducible refine (HC.out.go hr3).mono ?_); rintro e w4 ⟨rfl, hr4⟩))
              | (go_at_call 10; refine (lnum _ _).mono ?_; rintro e w1 ⟨rfl, rfl⟩))
            go_roundw
            case rel => exact ⟨n + 1, Nat.le_of_eq HLT.out, by go_num, rfl, hr4⟩
            case measure => have := HLT.out; simp [intOf]; omega
          · have hl2 : ((n : Int) == (K : Int) - 1) = false := by rw [beq_eq_false_iff_ne]; omega
            clear HC3
            go_wp2_with (first
              | (go_at_call 11; (with_reducible refine (HC1.out.go hr).mono ?_); rintro e w2 ⟨rfl, hr2⟩)
              | (go_at_call 15; ((with_reducible refine (HC2.out.go hr2).mono ?_); rintro e w3 ⟨rfl, hr3⟩; have hx3 := HX1.out _ hr3; have ht3 := HT1.out _ hr3))
              | (go_at_call 10; refine (lnum _ _).mono ?_; rintro e w1 ⟨rfl, rfl⟩))
            go_roundw
            case rel => exact ⟨n + 1, by omega, by go_num, rfl, hr3⟩
            case measure => simp [intOf]; omega
        · have hnK : n = K := by omega
          have HE : Hid ((encB zs ts n).size = S.size) := by rw [hnK, HSS.out]; rfl
          have he := HE.out
          have hge : K ≤ n := by omega
          clear hlt hnK
          rw [he]
          go_wp2
          go_ret
          exact ⟨rfl, hr⟩

set_option maxRecDepth 100000 in
set_option maxHeartbeats 8000000 in
theorem chains_c (bx ox cx bt ot ct : Nat) (lx ls : Nat) (zs : List Int) (ts : List ByteArray) (w : World) (hx8 : 8 < lx) (ht8 : 8 < ls) (_hlx : lx ≤ 9223372036854775807) (_hls : ls ≤ 9223372036854775807) (hbx : bx < w.heap.size) (hbt : bt < w.heap.size)
    (hcx : ∀ i, i < lx → w.cell? ⟨bx, ox + i, none⟩ = some (.int .i64 (zs.getD i 0))) (hct : ∀ i, i < ls → w.cell? ⟨bt, ot + i, none⟩ = some (.string (ts.getD i ByteArray.empty))) (hg : Gd w) :
    Calls Tryd.prog 6 #[.slice (some ⟨bx, ox, none⟩) lx cx, .slice (some ⟨bt, ot, none⟩) ls ct] w fun e w' => e = .returned (.bool true) ∧ Gr w w' := by
  have hr := Gr.refl hg
  have HX := Lib.hid (cellsX hbx hcx)
  have HT := Lib.hid (cellsT hbt hct)
  clear hcx hct
  go_enter Tryd.func6, Tryd.ntmps6
  go_wp2_with (go_at_call 17; (with_reducible refine (fn_awake.go (by assumption)).mono ?_); rintro e w1 ⟨rfl, hr⟩)
  go_loopw [5, 7] (fun s i wr => ∃ m : Nat, m ≤ 8 ∧ i = .int .i64 m ∧ s = .string (encB zs ts m) ∧ Small ts m ∧ Gr w wr) (fun _ i _ => 8 - (intOf i).toNat)
  case atStart => exact ⟨0, Nat.zero_le _, rfl, rfl, fun i hi => absurd hi (by omega), hr⟩
  case round =>
    obtain ⟨m, hm, rfl, rfl, hsm, hr⟩ := hrel
    have hes := encB_size (zs := zs) hsm
    by_cases hlt : m < 8
    · have HX1 := Lib.hid (HX.out m (by omega))
      have HT1 := Lib.hid (HT.out m (by omega))
      obtain ⟨t, ht⟩ : ∃ t, ts.getD m ByteArray.empty = t := ⟨_, rfl⟩
      obtain ⟨q, hq⟩ : ∃ q, zAt zs m = q := ⟨_, rfl⟩
      obtain ⟨z, hz⟩ : ∃ z, zs.getD m 0 = z := ⟨_, rfl⟩
      rw [ht] at HT1
      rw [hz] at HX1
      have hmask : bits .and .i64 z 1073741823 = q := (i64_mask z 30 (by omega)).trans (by rw [← hz]; exact hq)
      have hqb := zAt_bd zs m
      rw [hq] at hqb
      have HS := Lib.hid (encB_succ hq ht)
      have HSM := Lib.hid (fun h => hsm.succ (ht ▸ h : (ts.getD m ByteArray.empty).size ≤ 100))
      have HF := Lib.hid (fn_num q hqb.1 hqb.2)
      have hx1 := HX1.out _ hr
      have ht1 := HT1.out _ hr
      clear ht hq hz hqb
      by_cases hbig : 100 < t.size
      · go_wp2
        go_ret
        exact ⟨rfl, hr⟩
      · have hsmall : t.size ≤ 100 := by omega
        have HG := Lib.hid (fn_text t hsmall)
        have hn5 := numS_size q
        have hts : (textS t).size ≤ 105 := by have := numS_size (t.size : Int); rw [textS_ok (by omega), ByteArray.size_append]; omega
        have hts1 : 1 ≤ (textS t).size := by have h1 : 1 ≤ (numS t.size).size := numS_pos _ (by omega) (by omega); rw [textS_ok (by omega), ByteArray.size_append]; omega
        clear hbig
        go_wp2_with (first
          | (go_at_call 8; (with_reducible refine (HF.out.go hr).mono ?_); rintro e w2 ⟨rfl, hr2⟩; have hx2 := HX1.out _ hr2; have ht2 := HT1.out _ hr2)
          | (go_at_call 13; (with_reducible refine (HG.out.go hr2).mono ?_); rintro e w3 ⟨rfl, hr3⟩)
          | (go_at_call 10; refine (lnum _ _).mono ?_; rintro e w1 ⟨rfl, rfl⟩))
        go_roundw
        case rel => exact ⟨m + 1, by omega, by go_num, by rw [HS.out], HSM.out hsmall, hr3⟩
        case measure => simp [intOf]; omega
    · have hmK : 8 = m := by omega
      subst hmK
      rw [show ((8 : Nat) : Int) = 8 from rfl]
      clear hlt
      have HSM := Lib.hid hsm
      clear hsm
      obtain ⟨S, hS⟩ : ∃ S, encB zs ts 8 = S := ⟨_, rfl⟩
      have HSS := Lib.hid hS
      rw [hS] at hes ⊢
      clear hS
      have hS1000 : S.size ≤ 1000 := by omega
      clear hes
      go_wp2
      go_loopw [12, 13] (fun a i wr => ∃ n : Nat, n ≤ 8 ∧ i = .int .i64 n ∧ a = .int .i64 ((encB zs ts n).size : Nat) ∧ Gr w wr) (fun _ i _ => 8 - (intOf i).toNat)
      case atStart => exact ⟨0, Nat.zero_le _, rfl, rfl, hr⟩
      case round =>
        obtain ⟨n, hn, rfl, rfl, hr⟩ := hrel
        by_cases hlt : n < 8
        · have HX1 := Lib.hid (HX.out n (by omega))
          have HT1 := Lib.hid (HT.out n (by omega))
          have h100 := HSM.out n hlt
          obtain ⟨t, ht⟩ : ∃ t, ts.getD n ByteArray.empty = t := ⟨_, rfl⟩
          obtain ⟨q, hq⟩ : ∃ q, zAt zs n = q := ⟨_, rfl⟩
          obtain ⟨z, hz⟩ : ∃ z, zs.getD n 0 = z := ⟨_, rfl⟩
          have HC3 : Hid (n + 1 = 8 → Fn 15 #[.string (S.extract 0 (S.size - 1)), .int .i64 (((encB zs ts n).size + (numS q).size : Nat) : Int)] (.tuple #[.string ⟨#[]⟩, .int .i64 0, .int .i64 101])) := fun h => chain_cut h HSS.out hq h100 hS1000
          rw [ht] at HT1 h100
          rw [hz] at HX1
          have hmask : bits .and .i64 z 1073741823 = q := (i64_mask z 30 (by omega)).trans (by rw [← hz]; exact hq)
          have HC1 := Lib.hid (chain_num hlt HSS.out hq hS1000)
          have HC2 := Lib.hid (chain_text hlt HSS.out hq ht h100 hS1000)
          have hSpos : 1 ≤ S.size := encB_pos HSS.out (by omega)
          clear ht hq hz h100
          obtain ⟨p2, hp2⟩ : ∃ p2 : Nat, (encB zs ts n).size + (numS q).size = p2 := ⟨_, rfl⟩
          rw [hp2] at HC1 HC2 HC3
          clear hp2
          by_cases hlast : n + 1 = 8
          · have HC := Lib.hid (HC3.out hlast)
            have hl2 : ((n : Int) == 7) = true := by rw [beq_iff_eq]; omega
            clear HC3
            have HLT := Lib.hid hlast
            clear hlast
            go_wp2_with (first
              | (go_at_call 11; (with_reducible refine (HC1.out.go hr).mono ?_); rintro e w2 ⟨rfl, hr2⟩)
              | (go_at_call 15; first | ((with_reducible refine (HC2.out.go hr2).mono ?_); rintro e w3 ⟨rfl, hr3⟩; have hx3 := HX1.out _ hr3; have ht3 := HT1.out _ hr3) | ((with_reducible refine (HC.out.go hr3).mono ?_); rintro e w4 ⟨rfl, hr4⟩))
              | (go_at_call 10; refine (lnum _ _).mono ?_; rintro e w1 ⟨rfl, rfl⟩))
            go_roundw
            case rel => exact ⟨n + 1, Nat.le_of_eq HLT.out, by go_num, rfl, hr4⟩
            case measure => have := HLT.out; simp [intOf]; omega
          · have hl2 : ((n : Int) == 7) = false := by rw [beq_eq_false_iff_ne]; omega
            clear HC3
            go_wp2_with (first
              | (go_at_call 11; (with_reducible refine (HC1.out.go hr).mono ?_); rintro e w2 ⟨rfl, hr2⟩)
              | (go_at_call 15; ((with_reducible refine (HC2.out.go hr2).mono ?_); rintro e w3 ⟨rfl, hr3⟩; have hx3 := HX1.out _ hr3; have ht3 := HT1.out _ hr3))
              | (go_at_call 10; refine (lnum _ _).mono ?_; rintro e w1 ⟨rfl, rfl⟩))
            go_roundw
            case rel => exact ⟨n + 1, by omega, by go_num, rfl, hr3⟩
            case measure => simp [intOf]; omega
        · have hnK : n = 8 := by omega
          have HE : Hid ((encB zs ts n).size = S.size) := by rw [hnK, HSS.out]; rfl
          have he := HE.out
          have hge : 8 ≤ n := by omega
          clear hlt hnK
          rw [he]
          go_wp2
          go_ret
          exact ⟨rfl, hr⟩
end Go.Proofs.YtmllcbhoioajgaaDoor
