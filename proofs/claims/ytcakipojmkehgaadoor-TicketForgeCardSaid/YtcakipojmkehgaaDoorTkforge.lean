/- The walk of TicketForge: no other term opens as a ticket. Condition: the handle of the type error. -/
import Derived.Test.YtcakipojmkehgaaDoorTkback
import Derived.Test.YtcakipojmkehgaaDoorTkfo
import Derived.Test.YtcakipojmkehgaaDoorTkfr
import Derived.Test.YtcakipojmkehgaaDoorIArg
namespace Go.Proofs.YtcakipojmkehgaaDoor
open Go Go.RowKit Go.Maps

theorem fg_start0 (e : Int) (e0 : 0 ≤ e) (e1 : e ≤ 7) : ∃ (T : List ByteArray) (X K : Int), tpX 99 [] e fgB = X ∧ tpE 99 [] e fgB = 0 ∧ tpT 99 [] e fgB = T ∧ fnd T (epK e) = K ∧ isB T (epK e) = true ∧ Fg T e K X 2 ∧ 0 ≤ K ∧ K ≤ 1 := by
  obtain ⟨l, q1, q2, q3, q4, q5, q6⟩ := tp_ok (most := 99) (ts := []) (e := e) (t := fgB) (by decide) (by decide) e0 (by omega) fgB_may
  obtain ⟨i1, i2⟩ := tmS_idx q5
  have hb := (isB_iff _ _).2 q4
  have hl : (tpT 99 [] e fgB).length ≤ 2 := by rw [q1]; simpa using q2
  have hi := idx_lt q4
  have hf : fnd (tpT 99 [] e fgB) (epK e) = ((idx (tpT 99 [] e fgB) (epK e) : Nat) : Int) := by unfold fnd; rw [if_pos hb]
  exact ⟨_, _, _, rfl, q3, rfl, hf, hb, ⟨⟨q4, by rw [q6, i1], by rw [q6, i2]⟩, rfl, hl⟩, by omega, by omega⟩
theorem fg_start (e : Int) (e0 : 0 ≤ e) (e1 : e ≤ 7) : ∃ (T : List ByteArray) (X K : Int), tpX 99 [] e ⟨1, 0, 0, 0, 2⟩ = X ∧ tpE 99 [] e ⟨1, 0, 0, 0, 2⟩ = 0 ∧ tpT 99 [] e ⟨1, 0, 0, 0, 2⟩ = T ∧ fnd T (epK e) = K ∧ isB T (epK e) = true ∧ Fg T e K X 2 ∧ 0 ≤ K ∧ K ≤ 1 := fg_start0 e e0 e1
theorem rnumsE (e : Int) (e0 : -9223372036854775808 ≤ e) (e1 : e ≤ 9223372036854775807) (W : World) (T : TypeId) : Calls Tryd.prog 18 #[.slice (some ⟨W.heap.size, 0, none⟩) 1 1] (W.alloc (.cells #[.int .i64 e] T)) fun r w' => r = .returned (.string (numS e)) ∧ Below W.heap.size W w' :=
  (tkf_numsOf e e0 e1 _ _ (Blk.new W #[.int .i64 e] T)).mono fun _ _ ⟨a, b⟩ => ⟨a, (balloc2 W _).trans (b.mono (balloc2 W _).size)⟩
theorem epK_lit2 (e : Int) : (⟨#[65, 101, 112, 111, 99, 104]⟩ : ByteArray) ++ numS e = epK e := by
  show _ = (cA ++ (epW ++ numS e))
  rw [← ba_assoc]; rfl
theorem rnumsF (W : World) (T : TypeId) : Calls Tryd.prog 18 #[.slice (some ⟨W.heap.size, 0, none⟩) 5 5] (W.alloc (.cells #[.int .i64 1, .int .i64 0, .int .i64 0, .int .i64 0, .int .i64 2] T)) fun e w' => e = .returned (.string fgB.enc) ∧ Below W.heap.size W w' := by
  have hb0 := balloc2 W (.cells #[.int .i64 1, .int .i64 0, .int .i64 0, .int .i64 0, .int .i64 2] T)
  have hK := Blk.new W #[.int .i64 1, .int .i64 0, .int .i64 0, .int .i64 0, .int .i64 2] T
  have := rnums [1, 0, 0, 0, 2] W.heap.size 5 _ rfl (by omega) (fun j hj => (hK.cell j).trans (five_at _ _ _ _ _ j hj)) (fun j hj => by
    match j, hj with
    | 0, _ => decide
    | 1, _ => decide
    | 2, _ => decide
    | 3, _ => decide
    | 4, _ => decide) hK.lt
  exact this.mono fun e w' ⟨a, b⟩ => ⟨a, hb0.trans (b.mono hb0.size)⟩
theorem fgL_at (NK NN bd tx : ByteArray) (j : Nat) (hj : j < 6) : (#[.string (⟨#[72]⟩ ++ bd), .string (⟨#[65]⟩ ++ bd), .string (⟨#[77]⟩ ++ NK ++ bd), .string (⟨#[83]⟩ ++ NN ++ bd), .string (⟨#[83]⟩ ++ NK ++ bd ++ ⟨#[0]⟩ ++ tx), .string (⟨#[83]⟩ ++ NK ++ bd.extract 1 7)] : Array Value)[j]? = some (.string ((fgL NK NN bd tx).getD j ⟨#[]⟩)) := by
  match j, hj with
  | 0, _ => rfl
  | 1, _ => rfl
  | 2, _ => rfl
  | 3, _ => rfl
  | 4, _ => rfl
  | 5, _ => rfl
theorem fgL_size (NK NN bd tx : ByteArray) (h1 : NK.size ≤ 5) (h2 : NN.size ≤ 5) (h3 : bd.size = 7) (h4 : tx.size ≤ 140737488351232) (f : ByteArray) (hf : f ∈ fgL NK NN bd tx) : f.size ≤ maxLen := by
  have s1 : ∀ b : UInt8, (⟨#[b]⟩ : ByteArray).size = 1 := fun _ => rfl
  unfold maxLen
  simp only [fgL, List.mem_cons, List.not_mem_nil, or_false] at hf
  rcases hf with rfl | rfl | rfl | rfl | rfl | rfl <;> simp only [ByteArray.size_append, ByteArray.size_extract, s1] <;> omega
set_option maxRecDepth 100000 in
set_option maxHeartbeats 16000000 in
theorem tkforge_walk' (epoch : Int) (ao bo : Option Addr) (ca cb : Nat) (ss : List ByteArray) (zs : List Int) (w : World) (hg : Gd w) (hA : SArg w ao ss) (hAz : ∀ s ∈ ss, s.size ≤ 140737488351232) (hZ : IArg w bo zs) (e : Int) (he : bits .and .i64 epoch 7 = e) (e0 : 0 ≤ e) (e1 : e ≤ 7) :
    Calls Tryd.prog 6 #[.slice ao ss.length ca, .slice bo zs.length cb, .int .i64 epoch] w fun e w' => e = .returned (.bool true) ∧ Below w.heap.size w w' := by
  have hfs := hA.few
  have hfz := hZ.few
  obtain ⟨T, X, K, t1, t2, t3, t4, t5, hF, K0, K1⟩ := fg_start e e0 e1
  have P1 := fun p => dtput_to (p := p) (by omega) (by omega) t1 t2 t3
  have P2 := fun p => dfind p 99 T (epK e) (by have := (okT_iff _).1 (epK_ok e); unfold maxLen; omega)
  rw [t4, t5, ← epK_lit2] at P2
  have hn1 := fun W => rnumsE e (by omega) (by omega) W 3
  have hn5 := fun W => rnumsF W 3
  have hs5 := numS_size5 e
  have H1 := Lib.hid P1
  have H2 := Lib.hid P2
  have H3 := Lib.hid hn1
  have H4 := Lib.hid hn5
  have HF := Lib.hid hF
  have HG := Lib.hid hg
  have HA := Lib.hid hA
  have HZ := Lib.hid hZ
  have HAz := Lib.hid hAz
  generalize numS e = NS at *
  obtain ⟨bd, hbd⟩ : ∃ bd, fgB.enc = bd := ⟨_, rfl⟩
  rw [hbd] at H4
  clear P1 P2 hn1 hn5 hg hA hZ t1 t2 t3 t4 t5 hF hAz
  go_enter Tryd.func6, Tryd.ntmps6
  go_wp2_with (first
    | (go_at_call 9; (with_reducible refine (awake15 _ HG.out).mono ?_); rintro r w1 ⟨rfl, hb1⟩)
    | (go_at_call 8; (with_reducible refine (twin_none15 99 _ (by omega) (by omega)).mono ?_); rintro r w2 ⟨p, q, rfl, hb⟩; have hS := LA.start ((At.start hb).under hb1); clear hb hb1)
    | (go_at_call 10; (with_reducible refine (LA.op1 (H1.out _) (refA_good _ _ _) emp_good hS).mono ?_); rintro r w3 ⟨rfl, hS1⟩; replace hS := hS1; clear hS1)
    | (go_at_call 18; first
      | ((with_reducible refine (H3.out _).mono ?_); rintro r w4 ⟨rfl, hb4⟩; replace hS := hS.step (rb_good _ _ _ _ _ _) hb4; clear hb4)
      | ((with_reducible refine (H4.out _).mono ?_); rintro r w5 ⟨rfl, hb5⟩; replace hS := hS.step (rb_good _ _ _ _ _ _) hb5; clear hb5))
    | (go_at_call 17; (with_reducible refine (LA.op1 (H2.out _) (refA_good _ _ _) emp_good hS).mono ?_); rintro r w6 ⟨rfl, hS1⟩; replace hS := hS1; clear hS1)
    | (go_at_call 14; (with_reducible refine (lnum _ _).mono ?_); rintro r w9 ⟨rfl, rfl⟩))
  go_loopw [15] (fun i wr => ∃ (k : Nat) (ts : List ByteArray), k ≤ ss.length ∧ k ≤ 10 ∧ i = .int .i64 k ∧ LA w ((refA q 99 []).star ((bookA p 99 ts).star emp)) [] wr ∧ Fg ts e K X (2 + 6 * k)) (fun i _ => ss.length - (intOf i).toNat)
  case atStart => exact ⟨0, T, Nat.zero_le _, by omega, rfl, hS, HF.out⟩
  case round =>
    clear hS
    obtain ⟨k, ts, hk, hk10, rfl, hS, hF⟩ := hrel
    have HF2 := Lib.hid hF
    clear hF
    by_cases hlt : k < ss.length ∧ k < 10
    · obtain ⟨hlt, h10⟩ := hlt
      obtain ⟨bt, ot, tx, rfl, htx, hsz, hcw⟩ := HA.out.at hlt
      have htx2 : tx.size ≤ 140737488351232 := by rw [← htx, List.getD, List.getElem?_eq_getElem hlt]; exact HAz.out _ (List.getElem_mem hlt)
      have hq0 : (k : Int) < (ss.length : Int) := by omega
      have hq10 : (k : Int) < 10 := by omega
      have hway : (¬ k < zs.length) ∨ (∃ (b2 off2 : Nat) (z : Int), k < zs.length ∧ bo = some ⟨b2, off2, none⟩ ∧ bits .and .i64 z 1073741823 = z % 1073741824 ∧ ∀ W, Below w.heap.size w W → W.cell? ⟨b2, off2 + k, none⟩ = some (.int .i64 z)) := by
        by_cases hz : k < zs.length
        · obtain ⟨b2, off2, z, e1, _, _, hc⟩ := HZ.out.at hz
          have hm := i64_mask z 30 (by omega)
          rw [show ((2 ^ 30 - 1 : Nat) : Int) = 1073741823 from by decide, show ((2 ^ 30 : Nat) : Int) = 1073741824 from by decide] at hm
          exact .inr ⟨b2, off2, z, hz, e1, hm, hc⟩
        · exact .inl hz
      have hcore : ∀ kk : Int, 0 ≤ kk → kk ≤ 1073741823 → kk ≠ K → ∀ (us : List ByteArray) (n : Nat) (f : ByteArray), Fg us e K X n → n ≤ 100 → f ∈ fgL (numS K) (numS kk) bd tx → nmE 99 us f = 0 → tgE (nmT 99 us f) e 0 (nmX 99 us f) = 1501 := fun kk q0 q1 q2 us n f hF hn hf => by
        rw [← hbd] at hf
        exact hF.no hn e0 e1 q0 q1 q2 hf
      have HCORE := Lib.hid hcore
      have HTX := Lib.hid hcw
      have hbd7 : bd.size = 7 := by rw [← hbd]; exact fgB_size
      have HB7 := Lib.hid hbd7
      have HT2 := Lib.hid htx2
      clear hcore hcw htx hsz htx2 hbd7
      obtain ⟨kk, q0, q1, q2, hway2⟩ : ∃ kk : Int, 0 ≤ kk ∧ kk ≤ 1073741823 ∧ kk ≠ K ∧ ((¬ k < zs.length ∧ K + 1 = kk) ∨ ∃ (b2 off2 : Nat) (z zm : Int), k < zs.length ∧ bo = some ⟨b2, off2, none⟩ ∧ bits .and .i64 z 1073741823 = zm ∧ (∀ W, Below w.heap.size w W → W.cell? ⟨b2, off2 + k, none⟩ = some (.int .i64 z)) ∧ ((zm = K ∧ K + 1 = kk) ∨ (zm = kk ∧ (zm != K) = true))) := by
        rcases hway with h | ⟨b2, off2, z, h1, h2, h3, h4⟩
        · exact ⟨K + 1, by omega, by omega, by omega, .inl ⟨h, rfl⟩⟩
        · by_cases hz : z % 1073741824 = K
          · exact ⟨K + 1, by omega, by omega, by omega, .inr ⟨b2, off2, z, _, h1, h2, h3, h4, .inl ⟨hz, rfl⟩⟩⟩
          · exact ⟨z % 1073741824, by omega, by omega, hz, .inr ⟨b2, off2, z, _, h1, h2, h3, h4, .inr ⟨rfl, by simpa using hz⟩⟩⟩
      clear hway
      have HC := Lib.hid (HCORE.out kk q0 q1 q2)
      have hN := tkf_numsOf K (by omega) (by omega)
      have hM := tkf_numsOf kk (by omega) (by omega)
      have hNK := numS_size5 K
      have hNN := numS_size5 kk
      have HSZ := Lib.hid (fgL_size (numS K) (numS kk) bd tx hNK hNN HB7.out HT2.out)
      generalize numS K = NK at *
      generalize numS kk = NN at *
      have HN := Lib.hid hN
      have HM := Lib.hid hM
      have HK := Lib.hid hNK
      have HNN := Lib.hid hNN
      clear hN hM hNK hNN HCORE
      rcases hway2 with ⟨hz, hkk⟩ | ⟨b2, off2, z, zm, hz, rfl, hmask, hcz, ⟨hzm, hkk⟩ | ⟨hzm, hkk⟩⟩
      · have hz2 : ¬ (k : Int) < (zs.length : Int) := by omega
        clear q0 q1 q2
        go_wp2
        refine tkf_region _ hS HN.out HM.out HB7.out HK.out HNN.out (by have := HT2.out; omega) (rb_good _ _ _ _ _ _) (fun _ _ _ _ _ h => h) (fun Z hZ => HTX.out _ hZ.bel) hlt ?_
        intro b5 b11 b17 b29 b35 Z hS2
        clear hkk hz2 hz
        try clear hmask hcc
        replace hS := hS2
        clear hS2
        go_wp2
        go_loopw [18] (fun i wr => ∃ (j : Nat) (us : List ByteArray), j ≤ 6 ∧ i = .int .i64 j ∧ LA w ((refA q 99 []).star ((bookA p 99 us).star emp)) [(b35, #[.string (⟨#[72]⟩ ++ bd), .string (⟨#[65]⟩ ++ bd), .string (⟨#[77]⟩ ++ NK ++ bd), .string (⟨#[83]⟩ ++ NN ++ bd), .string (⟨#[83]⟩ ++ NK ++ bd ++ ⟨#[0]⟩ ++ tx), .string (⟨#[83]⟩ ++ NK ++ bd.extract 1 7)])] wr ∧ Fg us e K X (2 + 6 * k + j)) (fun i _ => 6 - (intOf i).toNat)
        case atStart => exact ⟨0, ts, by omega, rfl, hS, HF2.out⟩
        case round =>
          clear hS
          obtain ⟨j, us, hj, rfl, hS, hFu⟩ := hrel
          by_cases hlt6 : j < 6
          · have hcell := (hS.b0.cell j).trans (fgL_at NK NN bd tx j hlt6)
            obtain ⟨f, hf⟩ : ∃ f, (fgL NK NN bd tx).getD j ⟨#[]⟩ = f := ⟨_, rfl⟩
            have hmem : f ∈ fgL NK NN bd tx := by rw [← hf, List.getD, List.getElem?_eq_getElem (show j < (fgL NK NN bd tx).length from hlt6)]; exact List.getElem_mem _
            rw [hf] at hcell
            have hno := HC.out us _ f hFu (by omega) hmem
            have hnx := hFu.name f
            have P5 := fun p => dname p 99 us f (HSZ.out f hmem)
            obtain ⟨U, hU⟩ : ∃ U, nmT 99 us f = U := ⟨_, rfl⟩
            obtain ⟨N, hN⟩ : ∃ N, nmX 99 us f = N := ⟨_, rfl⟩
            obtain ⟨NE, hNE⟩ : ∃ NE, nmE 99 us f = NE := ⟨_, rfl⟩
            rw [hU, hN, hNE] at hno P5
            rw [hU] at hnx
            obtain ⟨D, hD⟩ : ∃ D, tgX U e 0 N = D := ⟨_, rfl⟩
            obtain ⟨E2, hE2⟩ : ∃ E2, tgE U e 0 N = E2 := ⟨_, rfl⟩
            obtain ⟨d0, d1, d2, d3, d4⟩ := D
            have P6 := fun p => dtget_to (p := p) (most := 99) hD hE2
            rw [hE2] at hno
            have H5 := Lib.hid P5
            have H6 := Lib.hid P6
            have HX := Lib.hid hnx
            clear P5 P6 hnx hD hE2 hU hN hNE hmem hf hFu
            by_cases hne : NE = 0
            · have hE := hno hne
              subst hne
              subst hE
              clear hno
              go_wp2_with (first
                | (go_at_call 19; (with_reducible refine (LA.op1 (H5.out _) (refA_good _ _ _) emp_good hS).mono ?_); rintro r w7 ⟨rfl, hS1⟩; replace hS := hS1; clear hS1)
                | (go_at_call 12; (with_reducible refine (LA.op1G (H6.out _) (refA_good _ _ _) emp_good HG.out hS).mono ?_); rintro r w8 ⟨rfl, hS1⟩; replace hS := hS1.step (rb_good _ _ _ _ _ _) (balloc2 _ (.cells #[.int .i64 d0, .int .i64 d1, .int .i64 d2, .int .i64 d3, .int .i64 d4] 34)); clear hS1)
                | (go_at_call 14; (with_reducible refine (lnum _ _).mono ?_); rintro r w9 ⟨rfl, rfl⟩))
              go_roundw
              case rel => exact ⟨j + 1, U, by omega, by go_num, hS, HX.out⟩
              case measure => simp [intOf]; omega
            · have hne1 : (NE == 0) = false := by simpa using hne
              clear hno
              go_wp2_with (first
                | (go_at_call 19; (with_reducible refine (LA.op1 (H5.out _) (refA_good _ _ _) emp_good hS).mono ?_); rintro r w7 ⟨rfl, hS1⟩; replace hS := hS1; clear hS1)
                | (go_at_call 12; (with_reducible refine (LA.op1G (H6.out _) (refA_good _ _ _) emp_good HG.out hS).mono ?_); rintro r w8 ⟨rfl, hS1⟩; replace hS := hS1.step (rb_good _ _ _ _ _ _) (balloc2 _ (.cells #[.int .i64 d0, .int .i64 d1, .int .i64 d2, .int .i64 d3, .int .i64 d4] 34)); clear hS1)
                | (go_at_call 14; (with_reducible refine (lnum _ _).mono ?_); rintro r w9 ⟨rfl, rfl⟩))
              go_roundw
              case rel => exact ⟨j + 1, U, by omega, by go_num, hS, HX.out⟩
              case measure => simp [intOf]; omega
          · obtain rfl : j = 6 := by omega
            go_wp2
            go_roundw
            case rel => exact ⟨k + 1, us, by omega, by omega, by go_num, hS.drop, hFu.mono (by omega)⟩
            case measure => simp [intOf]; omega
      · have hz2 : (k : Int) < (zs.length : Int) := by omega
        have hcc := hcz _ hS.bel
        rw [hzm] at hmask
        clear hzm hcz q0 q1 q2
        go_wp2
        refine tkf_region _ hS HN.out HM.out HB7.out HK.out HNN.out (by have := HT2.out; omega) (rb_good _ _ _ _ _ _) (fun _ _ _ _ _ h => h) (fun Z hZ => HTX.out _ hZ.bel) hlt ?_
        intro b5 b11 b17 b29 b35 Z hS2
        clear hkk hz2 hz
        try clear hmask hcc
        replace hS := hS2
        clear hS2
        go_wp2
        go_loopw [18] (fun i wr => ∃ (j : Nat) (us : List ByteArray), j ≤ 6 ∧ i = .int .i64 j ∧ LA w ((refA q 99 []).star ((bookA p 99 us).star emp)) [(b35, #[.string (⟨#[72]⟩ ++ bd), .string (⟨#[65]⟩ ++ bd), .string (⟨#[77]⟩ ++ NK ++ bd), .string (⟨#[83]⟩ ++ NN ++ bd), .string (⟨#[83]⟩ ++ NK ++ bd ++ ⟨#[0]⟩ ++ tx), .string (⟨#[83]⟩ ++ NK ++ bd.extract 1 7)])] wr ∧ Fg us e K X (2 + 6 * k + j)) (fun i _ => 6 - (intOf i).toNat)
        case atStart => exact ⟨0, ts, by omega, rfl, hS, HF2.out⟩
        case round =>
          clear hS
          obtain ⟨j, us, hj, rfl, hS, hFu⟩ := hrel
          by_cases hlt6 : j < 6
          · have hcell := (hS.b0.cell j).trans (fgL_at NK NN bd tx j hlt6)
            obtain ⟨f, hf⟩ : ∃ f, (fgL NK NN bd tx).getD j ⟨#[]⟩ = f := ⟨_, rfl⟩
            have hmem : f ∈ fgL NK NN bd tx := by rw [← hf, List.getD, List.getElem?_eq_getElem (show j < (fgL NK NN bd tx).length from hlt6)]; exact List.getElem_mem _
            rw [hf] at hcell
            have hno := HC.out us _ f hFu (by omega) hmem
            have hnx := hFu.name f
            have P5 := fun p => dname p 99 us f (HSZ.out f hmem)
            obtain ⟨U, hU⟩ : ∃ U, nmT 99 us f = U := ⟨_, rfl⟩
            obtain ⟨N, hN⟩ : ∃ N, nmX 99 us f = N := ⟨_, rfl⟩
            obtain ⟨NE, hNE⟩ : ∃ NE, nmE 99 us f = NE := ⟨_, rfl⟩
            rw [hU, hN, hNE] at hno P5
            rw [hU] at hnx
            obtain ⟨D, hD⟩ : ∃ D, tgX U e 0 N = D := ⟨_, rfl⟩
            obtain ⟨E2, hE2⟩ : ∃ E2, tgE U e 0 N = E2 := ⟨_, rfl⟩
            obtain ⟨d0, d1, d2, d3, d4⟩ := D
            have P6 := fun p => dtget_to (p := p) (most := 99) hD hE2
            rw [hE2] at hno
            have H5 := Lib.hid P5
            have H6 := Lib.hid P6
            have HX := Lib.hid hnx
            clear P5 P6 hnx hD hE2 hU hN hNE hmem hf hFu
            by_cases hne : NE = 0
            · have hE := hno hne
              subst hne
              subst hE
              clear hno
              go_wp2_with (first
                | (go_at_call 19; (with_reducible refine (LA.op1 (H5.out _) (refA_good _ _ _) emp_good hS).mono ?_); rintro r w7 ⟨rfl, hS1⟩; replace hS := hS1; clear hS1)
                | (go_at_call 12; (with_reducible refine (LA.op1G (H6.out _) (refA_good _ _ _) emp_good HG.out hS).mono ?_); rintro r w8 ⟨rfl, hS1⟩; replace hS := hS1.step (rb_good _ _ _ _ _ _) (balloc2 _ (.cells #[.int .i64 d0, .int .i64 d1, .int .i64 d2, .int .i64 d3, .int .i64 d4] 34)); clear hS1)
                | (go_at_call 14; (with_reducible refine (lnum _ _).mono ?_); rintro r w9 ⟨rfl, rfl⟩))
              go_roundw
              case rel => exact ⟨j + 1, U, by omega, by go_num, hS, HX.out⟩
              case measure => simp [intOf]; omega
            · have hne1 : (NE == 0) = false := by simpa using hne
              clear hno
              go_wp2_with (first
                | (go_at_call 19; (with_reducible refine (LA.op1 (H5.out _) (refA_good _ _ _) emp_good hS).mono ?_); rintro r w7 ⟨rfl, hS1⟩; replace hS := hS1; clear hS1)
                | (go_at_call 12; (with_reducible refine (LA.op1G (H6.out _) (refA_good _ _ _) emp_good HG.out hS).mono ?_); rintro r w8 ⟨rfl, hS1⟩; replace hS := hS1.step (rb_good _ _ _ _ _ _) (balloc2 _ (.cells #[.int .i64 d0, .int .i64 d1, .int .i64 d2, .int .i64 d3, .int .i64 d4] 34)); clear hS1)
                | (go_at_call 14; (with_reducible refine (lnum _ _).mono ?_); rintro r w9 ⟨rfl, rfl⟩))
              go_roundw
              case rel => exact ⟨j + 1, U, by omega, by go_num, hS, HX.out⟩
              case measure => simp [intOf]; omega
          · obtain rfl : j = 6 := by omega
            go_wp2
            go_roundw
            case rel => exact ⟨k + 1, us, by omega, by omega, by go_num, hS.drop, hFu.mono (by omega)⟩
            case measure => simp [intOf]; omega
      · have hz2 : (k : Int) < (zs.length : Int) := by omega
        have hcc := hcz _ hS.bel
        rw [hzm] at hmask
        rw [hzm] at hkk
        clear hzm hcz q0 q1 q2
        go_wp2
        refine tkf_region _ hS HN.out HM.out HB7.out HK.out HNN.out (by have := HT2.out; omega) (rb_good _ _ _ _ _ _) (fun _ _ _ _ _ h => h) (fun Z hZ => HTX.out _ hZ.bel) hlt ?_
        intro b5 b11 b17 b29 b35 Z hS2
        clear hkk hz2 hz
        try clear hmask hcc
        replace hS := hS2
        clear hS2
        go_wp2
        go_loopw [18] (fun i wr => ∃ (j : Nat) (us : List ByteArray), j ≤ 6 ∧ i = .int .i64 j ∧ LA w ((refA q 99 []).star ((bookA p 99 us).star emp)) [(b35, #[.string (⟨#[72]⟩ ++ bd), .string (⟨#[65]⟩ ++ bd), .string (⟨#[77]⟩ ++ NK ++ bd), .string (⟨#[83]⟩ ++ NN ++ bd), .string (⟨#[83]⟩ ++ NK ++ bd ++ ⟨#[0]⟩ ++ tx), .string (⟨#[83]⟩ ++ NK ++ bd.extract 1 7)])] wr ∧ Fg us e K X (2 + 6 * k + j)) (fun i _ => 6 - (intOf i).toNat)
        case atStart => exact ⟨0, ts, by omega, rfl, hS, HF2.out⟩
        case round =>
          clear hS
          obtain ⟨j, us, hj, rfl, hS, hFu⟩ := hrel
          by_cases hlt6 : j < 6
          · have hcell := (hS.b0.cell j).trans (fgL_at NK NN bd tx j hlt6)
            obtain ⟨f, hf⟩ : ∃ f, (fgL NK NN bd tx).getD j ⟨#[]⟩ = f := ⟨_, rfl⟩
            have hmem : f ∈ fgL NK NN bd tx := by rw [← hf, List.getD, List.getElem?_eq_getElem (show j < (fgL NK NN bd tx).length from hlt6)]; exact List.getElem_mem _
            rw [hf] at hcell
            have hno := HC.out us _ f hFu (by omega) hmem
            have hnx := hFu.name f
            have P5 := fun p => dname p 99 us f (HSZ.out f hmem)
            obtain ⟨U, hU⟩ : ∃ U, nmT 99 us f = U := ⟨_, rfl⟩
            obtain ⟨N, hN⟩ : ∃ N, nmX 99 us f = N := ⟨_, rfl⟩
            obtain ⟨NE, hNE⟩ : ∃ NE, nmE 99 us f = NE := ⟨_, rfl⟩
            rw [hU, hN, hNE] at hno P5
            rw [hU] at hnx
            obtain ⟨D, hD⟩ : ∃ D, tgX U e 0 N = D := ⟨_, rfl⟩
            obtain ⟨E2, hE2⟩ : ∃ E2, tgE U e 0 N = E2 := ⟨_, rfl⟩
            obtain ⟨d0, d1, d2, d3, d4⟩ := D
            have P6 := fun p => dtget_to (p := p) (most := 99) hD hE2
            rw [hE2] at hno
            have H5 := Lib.hid P5
            have H6 := Lib.hid P6
            have HX := Lib.hid hnx
            clear P5 P6 hnx hD hE2 hU hN hNE hmem hf hFu
            by_cases hne : NE = 0
            · have hE := hno hne
              subst hne
              subst hE
              clear hno
              go_wp2_with (first
                | (go_at_call 19; (with_reducible refine (LA.op1 (H5.out _) (refA_good _ _ _) emp_good hS).mono ?_); rintro r w7 ⟨rfl, hS1⟩; replace hS := hS1; clear hS1)
                | (go_at_call 12; (with_reducible refine (LA.op1G (H6.out _) (refA_good _ _ _) emp_good HG.out hS).mono ?_); rintro r w8 ⟨rfl, hS1⟩; replace hS := hS1.step (rb_good _ _ _ _ _ _) (balloc2 _ (.cells #[.int .i64 d0, .int .i64 d1, .int .i64 d2, .int .i64 d3, .int .i64 d4] 34)); clear hS1)
                | (go_at_call 14; (with_reducible refine (lnum _ _).mono ?_); rintro r w9 ⟨rfl, rfl⟩))
              go_roundw
              case rel => exact ⟨j + 1, U, by omega, by go_num, hS, HX.out⟩
              case measure => simp [intOf]; omega
            · have hne1 : (NE == 0) = false := by simpa using hne
              clear hno
              go_wp2_with (first
                | (go_at_call 19; (with_reducible refine (LA.op1 (H5.out _) (refA_good _ _ _) emp_good hS).mono ?_); rintro r w7 ⟨rfl, hS1⟩; replace hS := hS1; clear hS1)
                | (go_at_call 12; (with_reducible refine (LA.op1G (H6.out _) (refA_good _ _ _) emp_good HG.out hS).mono ?_); rintro r w8 ⟨rfl, hS1⟩; replace hS := hS1.step (rb_good _ _ _ _ _ _) (balloc2 _ (.cells #[.int .i64 d0, .int .i64 d1, .int .i64 d2, .int .i64 d3, .int .i64 d4] 34)); clear hS1)
                | (go_at_call 14; (with_reducible refine (lnum _ _).mono ?_); rintro r w9 ⟨rfl, rfl⟩))
              go_roundw
              case rel => exact ⟨j + 1, U, by omega, by go_num, hS, HX.out⟩
              case measure => simp [intOf]; omega
          · obtain rfl : j = 6 := by omega
            go_wp2
            go_roundw
            case rel => exact ⟨k + 1, us, by omega, by omega, by go_num, hS.drop, hFu.mono (by omega)⟩
            case measure => simp [intOf]; omega
    · obtain ⟨f1, f2⟩ := tk_find (now := e) (keep := 0) HF2.out.tk (by have := HF2.out.le; omega) e0 (by omega) fgB_may e0 (by omega) (by omega) (by omega)
      obtain ⟨g1, g2⟩ := f1 ⟨by omega, by omega⟩
      have H5 := Lib.hid (fun p => dtget_to (p := p) (most := 99) (u := 1) (g := 0) (x := 0) (s := 0) (k := 2) g1 g2)
      clear f1 f2 g1 g2
      by_cases hl : k < ss.length
      · have h10 : ¬ k < 10 := fun c => hlt ⟨hl, c⟩
        clear hlt
        go_wp2_with (first
          | (go_at_call 12; (with_reducible refine (LA.op1G (H5.out _) (refA_good _ _ _) emp_good HG.out hS).mono ?_); rintro r w8 ⟨rfl, hS1⟩; replace hS := hS1.step (rb_good _ _ _ _ _ _) (balloc2 _ (.cells #[.int .i64 1, .int .i64 0, .int .i64 0, .int .i64 0, .int .i64 2] 34)); clear hS1)
          | (go_at_call 14; (with_reducible refine (lnum _ _).mono ?_); rintro r w9 ⟨rfl, rfl⟩))
        go_ret
        exact ⟨rfl, hS.bel⟩
      · obtain rfl : k = ss.length := by omega
        clear hlt hl hk
        go_wp2_with (first
          | (go_at_call 12; (with_reducible refine (LA.op1G (H5.out _) (refA_good _ _ _) emp_good HG.out hS).mono ?_); rintro r w8 ⟨rfl, hS1⟩; replace hS := hS1.step (rb_good _ _ _ _ _ _) (balloc2 _ (.cells #[.int .i64 1, .int .i64 0, .int .i64 0, .int .i64 0, .int .i64 2] 34)); clear hS1)
          | (go_at_call 14; (with_reducible refine (lnum _ _).mono ?_); rintro r w9 ⟨rfl, rfl⟩))
        go_ret
        exact ⟨rfl, hS.bel⟩
theorem tkforge_walk (epoch : Int) (ao bo : Option Addr) (ca cb : Nat) (ss : List ByteArray) (zs : List Int) (w : World) (hg : Gd w) (hA : SArg w ao ss) (hAz : ∀ s ∈ ss, s.size ≤ 140737488351232) (hZ : IArg w bo zs) :
    Calls Tryd.prog 6 #[.slice ao ss.length ca, .slice bo zs.length cb, .int .i64 epoch] w fun e w' => e = .returned (.bool true) ∧ Below w.heap.size w w' := by
  have he := i64_mask epoch 3 (by omega)
  rw [show ((2 ^ 3 - 1 : Nat) : Int) = 7 from by decide, show ((2 ^ 3 : Nat) : Int) = 8 from by decide] at he
  exact tkforge_walk' epoch ao bo ca cb ss zs w hg hA hAz hZ _ he (by omega) (by omega)
end Go.Proofs.YtcakipojmkehgaaDoor
