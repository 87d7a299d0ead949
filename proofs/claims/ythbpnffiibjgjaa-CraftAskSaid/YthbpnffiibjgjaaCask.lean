/- The walk of CraftAsk: what nobody made is right for no tag, and stays so by asking. No condition. -/
import Derived.Test.YthbpnffiibjgjaaClaw
import Derived.Test.YthbpnffiibjgjaaCplain2
import Derived.Test.YthbpnffiibjgjaaFplain3
namespace Go.Proofs.Ythbpnffiibjgjaa
open Go Go.RowKit Go.Maps

set_option maxHeartbeats 1000000 in
/-- The law's own 'has'. -/
theorem chas (ao : Option Addr) (cap : Nat) (ss : List ByteArray) (t : ByteArray) (w : World) (hA : SArg w ao ss) :
    Calls Try.prog 29 #[.slice ao ss.length cap, .string t] w fun e w' => e = .returned (.bool (isB ss t)) ∧ w = w' := by
  have hfew := hA.few
  have HA := Lib.hid hA
  clear hA
  go_enter Try.func29, Try.ntmps29
  go_wp2
  go_loop [5] (fun i => ∃ k : Nat, k ≤ ss.length ∧ i = .int .i64 k ∧ ∀ j, j < k → ss.getD j ⟨#[]⟩ ≠ t) (fun i => ss.length - (intOf i).toNat)
  case atStart => exact ⟨0, Nat.zero_le _, rfl, fun j hj => by cases hj⟩
  case round =>
    obtain ⟨k, hk, rfl, hno⟩ := hrel
    have Hno := Lib.hid hno
    clear hno
    by_cases hlt : k < ss.length
    · obtain ⟨b, off, s, rfl, hs, hsz, hcw⟩ := HA.out.at hlt
      have hc := hcw w (Below.refl _ _)
      have Hs := Lib.hid hs
      clear hs hcw
      go_wp2
      · have hm := str_eq (by assumption : (s.toList == t.toList) = true)
        go_ret
        obtain ⟨f1, f2⟩ := fnd_in hlt Hno.out (Hs.out.trans hm)
        rw [f2]
        exact ⟨rfl, rfl⟩
      · have hm := str_ne (by assumption : (s.toList == t.toList) = false)
        go_round
        case rel => exact ⟨k + 1, by omega, by go_num, fun j hj => by
          by_cases e : j = k
          · subst e; rw [Hs.out]; exact hm
          · exact Hno.out j (by omega)⟩
        case measure => simp [intOf]; omega
    · have Hk := Lib.hid (Nat.le_antisymm hk (by omega))
      go_wp2
      go_ret
      obtain ⟨f1, f2⟩ := fnd_out (t := t) (ts := ss) (fun j hj => Hno.out j (by rw [Hk.out]; exact hj))
      rw [f2]
      exact ⟨rfl, rfl⟩

/-- The book holds tags over texts of the first k alone. -/
structure Mk (ts ss : List ByteArray) (x : Int) (k : Nat) : Prop where
  le : ts.length ≤ k
  mem : ∀ t ∈ ts, ∃ u ∈ ss.take k, t = tmK cM (some x) u
theorem take_succ' {ss : List ByteArray} {k : Nat} {s : ByteArray} (hk : k < ss.length) (hs : ss.getD k ⟨#[]⟩ = s) : ss.take (k + 1) = ss.take k ++ [s] := by
  rw [List.take_succ_eq_append_getElem hk, ← hs]
  simp [List.getD, List.getElem?_eq_getElem hk]
theorem Mk.step {ts ss : List ByteArray} {x : Int} {k : Nat} {s : ByteArray} (h : Mk ts ss x k) (hk : k < ss.length) (hs : ss.getD k ⟨#[]⟩ = s) (most : Int) : Mk (ckT most ts true (tmK cM (some x) s)) ss x (k + 1) := by
  have e := take_succ' hk hs
  have hl := h.le
  have h1 : ∀ t ∈ ts, ∃ u ∈ ss.take (k + 1), t = tmK cM (some x) u := fun t ht => by
    obtain ⟨u, hu, hh⟩ := h.mem t ht
    exact ⟨u, by rw [e]; simp [hu], hh⟩
  show Mk (nmT most ts _) ss x (k + 1)
  unfold nmT
  split
  · split
    · exact ⟨by omega, h1⟩
    · split
      · refine ⟨by simp; omega, fun t ht => ?_⟩
        rcases List.mem_append.1 ht with c | c
        · exact h1 t c
        · simp at c; exact ⟨s, by rw [e]; simp, c⟩
      · exact ⟨by omega, h1⟩
  · exact ⟨by omega, h1⟩
theorem ck_room {most : Int} {ts : List ByteArray} {t : ByteArray} (hk : okT t = true) (hl : (ts.length : Int) < most) : ckE most ts true t = 0 := by
  by_cases h : t ∈ ts
  · exact (ck_old hk h).2.1
  · exact (ck_new hk h hl).2.1
theorem isB_take {ss : List ByteArray} {k : Nat} {s t : ByteArray} (hk : k < ss.length) (hs : ss.getD k ⟨#[]⟩ = s) : isB (ss.take (k + 1)) t = (isB (ss.take k) t || (s.toList == t.toList)) := by
  rw [take_succ' hk hs, isB_snoc]
  congr 1
  rw [Bool.eq_iff_iff, decide_eq_true_eq]
  exact ⟨fun e => by subst e; simp, fun e => str_eq e⟩
theorem ckI_true {ts : List ByteArray} {t : ByteArray} {k : Nat} (h : ckI ts true t (k : Int) = true) : ts.getD k ⟨#[]⟩ = t ∧ t ∈ ts := by
  unfold ckI at h
  simp only [Bool.true_and, Bool.and_eq_true, decide_eq_true_eq] at h
  obtain ⟨h1, h2⟩ := h
  have hm := (isB_iff _ _).1 h1
  unfold fnd at h2
  rw [if_pos h1] at h2
  have h3 : idx ts t = k := by omega
  have := idx_get hm
  rw [h3] at this
  exact ⟨by simp [List.getD, this], hm⟩
theorem Mk.asked {ts ss : List ByteArray} {x : Int} {k : Nat} {t : ByteArray} (h : Mk ts ss x k) (x0 : 0 ≤ x) (x1 : x ≤ 1073741823) (hm : tmK cM (some x) t ∈ ts) : t ∈ ss.take k := by
  obtain ⟨u, hu, e⟩ := h.mem _ hm
  rw [(tm_inj1 x0 x1 x0 x1 e).2]; exact hu
theorem Mk.hash {ts ss : List ByteArray} {x : Int} {k : Nat} {t : ByteArray} (h : Mk ts ss x k) : tmK cH none t ∉ ts := by
  intro c
  obtain ⟨u, _, e⟩ := h.mem _ c
  exact tm_kind (by decide) _ _ _ _ e
theorem tail_eq (x : Int) (t : ByteArray) : (tmK cM (some x) t).extract ((tmK cM (some x) t).size - t.size) (tmK cM (some x) t).size = t := by
  have e : (tmK cM (some x) t).size - t.size = (cM ++ numS x).size := by
    rw [show tmK cM (some x) t = (cM ++ numS x) ++ t from rfl, ByteArray.size_append]; omega
  rw [e]
  exact ext_app (cM ++ numS x) t

set_option maxRecDepth 100000 in
set_option maxHeartbeats 8000000 in
theorem ask_walk (ao : Option Addr) (cap : Nat) (ss : List ByteArray) (t : ByteArray) (key tag : Int) (w : World) (hA : SArg w ao ss) (hs : t.size ≤ 140737488351232) :
    Calls Try.prog 6 #[.slice ao ss.length cap, .string t, .int .i64 key, .int .i64 tag] w fun e w' => e = .returned (.bool true) ∧ Below w.heap.size w w' := by
  have hfew := hA.few
  have hmask := i64_mask key 30 (by omega)
  rw [show ((2 ^ 30 - 1 : Nat) : Int) = 1073741823 from by decide, show ((2 ^ 30 : Nat) : Int) = 1073741824 from by decide] at hmask
  obtain ⟨x, hx⟩ : ∃ x, key % 1073741824 = x := ⟨_, rfl⟩
  have x0 : 0 ≤ x := by omega
  have x1 : x ≤ 1073741823 := by omega
  rw [hx] at hmask
  clear hx
  have hok : okK (some x) = true := (okNum_iff x).2 ⟨x0, x1⟩
  have Hok := Lib.hid hok
  have HA := Lib.hid hA
  have hwA : ∀ W, Below w.heap.size w W → SArg W ao ss := fun W h => hA.below h
  have HW := Lib.hid hwA
  clear hA hok hwA
  obtain ⟨K, hK1, hK2, hK3⟩ : ∃ K : Nat, K ≤ ss.length ∧ K ≤ 20 ∧ (K = 20 ∨ K = ss.length) := ⟨min ss.length 20, by omega, by omega, by omega⟩
  go_enter Try.func6, Try.ntmps6
  go_wp2_with (first
    | (go_at_call 9; (with_reducible refine (awake3 _).mono ?_); rintro e w1 ⟨rfl, hb1⟩; have hS0 := At.none hb1; clear hb1)
    | (go_at_call 26; (with_reducible refine (bnew_ok 99 _ (by omega) (by omega)).mono ?_); rintro e w1 ⟨p, rfl, hb⟩; have hS := At.add emp_good hS0 hb; clear hb)
    | (go_at_call 16; refine (lnum _ _).mono ?_; rintro e w1 ⟨rfl, rfl⟩))
  clear hS0
  go_loopw [12, 13] (fun b i wr => ∃ (k : Nat) (ts : List ByteArray), k ≤ K ∧ i = .int .i64 k ∧ b = .bool (isB (ss.take k) t) ∧ At w ((bookA p 99 ts).star emp) wr ∧ Mk ts ss x k) (fun _ i _ => K - (intOf i).toNat)
  case atStart => exact ⟨0, [], Nat.zero_le _, rfl, rfl, hS, ⟨Nat.le_refl _, fun u hu => by cases hu⟩⟩
  case round =>
    clear hS
    obtain ⟨k, ts, hk, rfl, rfl, hS, hmk⟩ := hrel
    by_cases hlt : k < K
    · obtain ⟨b, off, s, rfl, hsk, hsz, hcw⟩ := HA.out.at (k := k) (by omega)
      have HT := Lib.hid (isB_take (t := t) (show k < ss.length by omega) hsk)
      have hmk' := hmk.step (show k < ss.length by omega) hsk 99
      have hd := dmacL p 99 ts x s (by omega) (by omega)
      have he0 : s.size < 100 → ckE 99 ts true (tmK cM (some x) s) = 0 := fun h => ck_room (tm_ok rfl _ (by omega)) (by have := hmk.le; omega)
      rw [Hok.out] at hd
      generalize ckX 99 ts true (tmK cM (some x) s) = xx at *
      generalize ckE 99 ts true (tmK cM (some x) s) = ee at *
      generalize ckT 99 ts true (tmK cM (some x) s) = ts' at *
      generalize isB (ss.take k) t = bk at *
      have Hcw := Lib.hid hcw
      have hc := hcw _ hS.bel
      have hq0 : (k : Int) < (ss.length : Int) := by omega
      have hq1 : (k : Int) < 20 := by omega
      have hst : (s.toList == t.toList) = true ∨ (s.toList == t.toList) = false := by cases (s.toList == t.toList) <;> simp
      have HM := Lib.hid hmk'
      have HD := Lib.hid hd
      clear hcw hsk hmk hmk' hd
      by_cases h100 : s.size < 100
      · obtain rfl := he0 h100
        clear he0
        cases bk
        · rcases hst with hst | hst
          all_goals
            rw [hst] at HT
            go_wp2_with (first
              | (go_at_call 22; (with_reducible refine (At.op0 HD.out emp_good hS).mono ?_); rintro e w1 ⟨rfl, hS1⟩; replace hS := hS1; clear hS1; have hc := Hcw.out _ hS.bel)
              | (go_at_call 16; refine (lnum _ _).mono ?_; rintro e w1 ⟨rfl, rfl⟩))
            go_roundw
            case rel => exact ⟨k + 1, ts', by omega, by go_num, by rw [HT.out]; rfl, hS, HM.out⟩
            case measure => simp [intOf]; omega
        · clear hst
          go_wp2_with (first
            | (go_at_call 22; (with_reducible refine (At.op0 HD.out emp_good hS).mono ?_); rintro e w1 ⟨rfl, hS1⟩; replace hS := hS1; clear hS1; have hc := Hcw.out _ hS.bel)
            | (go_at_call 16; refine (lnum _ _).mono ?_; rintro e w1 ⟨rfl, rfl⟩))
          go_roundw
          case rel => exact ⟨k + 1, ts', by omega, by go_num, by rw [HT.out]; rfl, hS, HM.out⟩
          case measure => simp [intOf]; omega
      · clear he0
        cases bk
        · rcases hst with hst | hst
          all_goals
            rw [hst] at HT
            go_wp2_with (first
              | (go_at_call 22; (with_reducible refine (At.op0 HD.out emp_good hS).mono ?_); rintro e w1 ⟨rfl, hS1⟩; replace hS := hS1; clear hS1; have hc := Hcw.out _ hS.bel)
              | (go_at_call 16; refine (lnum _ _).mono ?_; rintro e w1 ⟨rfl, rfl⟩))
            go_roundw
            case rel => exact ⟨k + 1, ts', by omega, by go_num, by rw [HT.out]; rfl, hS, HM.out⟩
            case measure => simp [intOf]; omega
        · clear hst
          go_wp2_with (first
            | (go_at_call 22; (with_reducible refine (At.op0 HD.out emp_good hS).mono ?_); rintro e w1 ⟨rfl, hS1⟩; replace hS := hS1; clear hS1; have hc := Hcw.out _ hS.bel)
            | (go_at_call 16; refine (lnum _ _).mono ?_; rintro e w1 ⟨rfl, rfl⟩))
          go_roundw
          case rel => exact ⟨k + 1, ts', by omega, by go_num, by rw [HT.out]; rfl, hS, HM.out⟩
          case measure => simp [intOf]; omega
    · obtain rfl : k = K := by omega
      clear hlt hk
      by_cases h20 : k < ss.length
      · obtain rfl : k = 20 := by omega
        clear hK3
        have h20' : (20 : Int) < (ss.length : Int) := by omega
        have hwas := hmk.le
        have HMK := Lib.hid hmk
        have HL := Lib.hid (dlen p 99 ts)
        have HKK := Lib.hid (show isB (ss.take 20) t = isB (ss.take 20) t from rfl)
        generalize hbk : isB (ss.take 20) t = bk at *
        have HBK := Lib.hid hbk
        clear hmk hbk HKK
        go_wp2_with (go_at_call 27; (with_reducible refine (At.op0 HL.out emp_good hS).mono ?_); rintro e w1 ⟨rfl, hS1⟩; replace hS := hS1; clear hS1)
        go_loopw [17] (fun i wr => ∃ j : Nat, j ≤ ts.length ∧ i = .int .i64 j ∧ At w ((bookA p 99 ts).star emp) wr) (fun i _ => ts.length - (intOf i).toNat)
        case atStart => exact ⟨0, Nat.zero_le _, rfl, hS⟩
        case round =>
          clear hS
          obtain ⟨j, hj, rfl, hS⟩ := hrel
          by_cases hjl : j < ts.length
          · have hd1 := dterm p 99 ts (j : Int)
            rw [tmS_in hjl, tmE_in hjl] at hd1
            have hd2 := dismacL p 99 ts x t (j : Int) (by omega) (by omega)
            have hd3 := dishashL p 99 ts t (j : Int)
            rw [ckI_no HMK.out.hash] at hd3
            rw [Hok.out] at hd2
            have htr := fun h => ckI_true (ts := ts) (t := tmK cM (some x) t) (k := j) h
            generalize hbb : ckI ts true (tmK cM (some x) t) (j : Int) = bb at *
            clear hbb
            cases bb
            · generalize ts.getD j ⟨#[]⟩ = u at *
              have HD1 := Lib.hid hd1
              have HD2 := Lib.hid hd2
              have HD3 := Lib.hid hd3
              clear htr hd1 hd2 hd3
              go_wp2_with (first
                | (go_at_call 28; (with_reducible refine (At.op0 HD1.out emp_good hS).mono ?_); rintro e w1 ⟨rfl, hS1⟩; replace hS := hS1; clear hS1)
                | (go_at_call 11; (with_reducible refine (At.op0 HD2.out emp_good hS).mono ?_); rintro e w1 ⟨rfl, hS1⟩; replace hS := hS1; clear hS1)
                | (go_at_call 10; (with_reducible refine (At.op0 HD3.out emp_good hS).mono ?_); rintro e w1 ⟨rfl, hS1⟩; replace hS := hS1; clear hS1))
              go_roundw
              case rel => exact ⟨j + 1, by omega, by go_num, hS⟩
              case measure => simp [intOf]; omega
            · obtain ⟨hu, hin⟩ := htr rfl
              have hbt : bk = true := by rw [← HBK.out]; exact (isB_iff _ _).2 (HMK.out.asked x0 x1 hin)
              subst hbt
              rw [hu] at hd1
              have hsz : (tmK cM (some x) t).size = (hdK cM (some x)).size + t.size := tmK_size _ _ _
              have hhd := (hdK_size (c := cM) rfl (some x)).2
              have htail := tail_eq x t
              generalize (hdK cM (some x)).size = n at *
              have htl : (tmK cM (some x) t).extract n (tmK cM (some x) t).size = t := by
                have e : (tmK cM (some x) t).size - t.size = n := by omega
                rw [e] at htail; exact htail
              generalize tmK cM (some x) t = u at *
              have hts0 : t.size ≤ u.size := by omega
              have htn : u.extract n (n + t.size) = t := by rw [← hsz]; exact htl
              clear htl
              have HD1 := Lib.hid hd1
              have HD2 := Lib.hid hd2
              have HD3 := Lib.hid hd3
              clear htr hd1 hd2 hd3 hu hin htail
              go_wp2_with (first
                | (go_at_call 28; (with_reducible refine (At.op0 HD1.out emp_good hS).mono ?_); rintro e w1 ⟨rfl, hS1⟩; replace hS := hS1; clear hS1)
                | (go_at_call 11; (with_reducible refine (At.op0 HD2.out emp_good hS).mono ?_); rintro e w1 ⟨rfl, hS1⟩; replace hS := hS1; clear hS1)
                | (go_at_call 10; (with_reducible refine (At.op0 HD3.out emp_good hS).mono ?_); rintro e w1 ⟨rfl, hS1⟩; replace hS := hS1; clear hS1))
              go_roundw
              case rel => exact ⟨j + 1, by omega, by go_num, hS⟩
              case measure => simp [intOf]; omega
          · have hjj : j = ts.length := by omega
            subst hjj
            have hd2 := dismacL p 99 ts x (t ++ ⟨#[63]⟩) tag (by omega) (by omega)
            rw [Hok.out] at hd2
            have hno : isB ss (t ++ ⟨#[63]⟩) = false → ckI ts true (tmK cM (some x) (t ++ ⟨#[63]⟩)) tag = false := fun h => ckI_no (fun c => (isB_not _ _).1 h (List.mem_of_mem_take (HMK.out.asked x0 x1 c))) _ _
            have hh := fun W h => chas ao cap ss (t ++ ⟨#[63]⟩) W (HW.out W h)
            generalize ckI ts true (tmK cM (some x) (t ++ ⟨#[63]⟩)) tag = bb at *
            generalize isB ss (t ++ ⟨#[63]⟩) = hb at *
            have HD2 := Lib.hid hd2
            have HH := Lib.hid hh
            clear hd2 hh
            cases hb
            · obtain rfl := hno rfl
              clear hno
              go_wp2_with (first
                | (go_at_call 27; (with_reducible refine (At.op0 HL.out emp_good hS).mono ?_); rintro e w1 ⟨rfl, hS1⟩; replace hS := hS1; clear hS1)
                | (go_at_call 29; (with_reducible refine (HH.out _ hS.bel).mono ?_); rintro e w1 ⟨rfl, rfl⟩)
                | (go_at_call 11; (with_reducible refine (At.op0 HD2.out emp_good hS).mono ?_); rintro e w1 ⟨rfl, hS1⟩; replace hS := hS1; clear hS1))
              go_ret
              exact ⟨rfl, hS.bel⟩
            · clear hno
              go_wp2_with (first
                | (go_at_call 27; (with_reducible refine (At.op0 HL.out emp_good hS).mono ?_); rintro e w1 ⟨rfl, hS1⟩; replace hS := hS1; clear hS1)
                | (go_at_call 29; (with_reducible refine (HH.out _ hS.bel).mono ?_); rintro e w1 ⟨rfl, rfl⟩)
                | (go_at_call 11; (with_reducible refine (At.op0 HD2.out emp_good hS).mono ?_); rintro e w1 ⟨rfl, hS1⟩; replace hS := hS1; clear hS1))
              go_ret
              exact ⟨rfl, hS.bel⟩
      · obtain rfl : k = ss.length := by omega
        clear hK3
        have hwas := hmk.le
        have HMK := Lib.hid hmk
        have HL := Lib.hid (dlen p 99 ts)
        have HKK := Lib.hid (show isB (ss.take ss.length) t = isB (ss.take ss.length) t from rfl)
        generalize hbk : isB (ss.take ss.length) t = bk at *
        have HBK := Lib.hid hbk
        clear hmk hbk HKK
        go_wp2_with (go_at_call 27; (with_reducible refine (At.op0 HL.out emp_good hS).mono ?_); rintro e w1 ⟨rfl, hS1⟩; replace hS := hS1; clear hS1)
        go_loopw [17] (fun i wr => ∃ j : Nat, j ≤ ts.length ∧ i = .int .i64 j ∧ At w ((bookA p 99 ts).star emp) wr) (fun i _ => ts.length - (intOf i).toNat)
        case atStart => exact ⟨0, Nat.zero_le _, rfl, hS⟩
        case round =>
          clear hS
          obtain ⟨j, hj, rfl, hS⟩ := hrel
          by_cases hjl : j < ts.length
          · have hd1 := dterm p 99 ts (j : Int)
            rw [tmS_in hjl, tmE_in hjl] at hd1
            have hd2 := dismacL p 99 ts x t (j : Int) (by omega) (by omega)
            have hd3 := dishashL p 99 ts t (j : Int)
            rw [ckI_no HMK.out.hash] at hd3
            rw [Hok.out] at hd2
            have htr := fun h => ckI_true (ts := ts) (t := tmK cM (some x) t) (k := j) h
            generalize hbb : ckI ts true (tmK cM (some x) t) (j : Int) = bb at *
            clear hbb
            cases bb
            · generalize ts.getD j ⟨#[]⟩ = u at *
              have HD1 := Lib.hid hd1
              have HD2 := Lib.hid hd2
              have HD3 := Lib.hid hd3
              clear htr hd1 hd2 hd3
              go_wp2_with (first
                | (go_at_call 28; (with_reducible refine (At.op0 HD1.out emp_good hS).mono ?_); rintro e w1 ⟨rfl, hS1⟩; replace hS := hS1; clear hS1)
                | (go_at_call 11; (with_reducible refine (At.op0 HD2.out emp_good hS).mono ?_); rintro e w1 ⟨rfl, hS1⟩; replace hS := hS1; clear hS1)
                | (go_at_call 10; (with_reducible refine (At.op0 HD3.out emp_good hS).mono ?_); rintro e w1 ⟨rfl, hS1⟩; replace hS := hS1; clear hS1))
              go_roundw
              case rel => exact ⟨j + 1, by omega, by go_num, hS⟩
              case measure => simp [intOf]; omega
            · obtain ⟨hu, hin⟩ := htr rfl
              have hbt : bk = true := by rw [← HBK.out]; exact (isB_iff _ _).2 (HMK.out.asked x0 x1 hin)
              subst hbt
              rw [hu] at hd1
              have hsz : (tmK cM (some x) t).size = (hdK cM (some x)).size + t.size := tmK_size _ _ _
              have hhd := (hdK_size (c := cM) rfl (some x)).2
              have htail := tail_eq x t
              generalize (hdK cM (some x)).size = n at *
              have htl : (tmK cM (some x) t).extract n (tmK cM (some x) t).size = t := by
                have e : (tmK cM (some x) t).size - t.size = n := by omega
                rw [e] at htail; exact htail
              generalize tmK cM (some x) t = u at *
              have hts0 : t.size ≤ u.size := by omega
              have htn : u.extract n (n + t.size) = t := by rw [← hsz]; exact htl
              clear htl
              have HD1 := Lib.hid hd1
              have HD2 := Lib.hid hd2
              have HD3 := Lib.hid hd3
              clear htr hd1 hd2 hd3 hu hin htail
              go_wp2_with (first
                | (go_at_call 28; (with_reducible refine (At.op0 HD1.out emp_good hS).mono ?_); rintro e w1 ⟨rfl, hS1⟩; replace hS := hS1; clear hS1)
                | (go_at_call 11; (with_reducible refine (At.op0 HD2.out emp_good hS).mono ?_); rintro e w1 ⟨rfl, hS1⟩; replace hS := hS1; clear hS1)
                | (go_at_call 10; (with_reducible refine (At.op0 HD3.out emp_good hS).mono ?_); rintro e w1 ⟨rfl, hS1⟩; replace hS := hS1; clear hS1))
              go_roundw
              case rel => exact ⟨j + 1, by omega, by go_num, hS⟩
              case measure => simp [intOf]; omega
          · have hjj : j = ts.length := by omega
            subst hjj
            have hd2 := dismacL p 99 ts x (t ++ ⟨#[63]⟩) tag (by omega) (by omega)
            rw [Hok.out] at hd2
            have hno : isB ss (t ++ ⟨#[63]⟩) = false → ckI ts true (tmK cM (some x) (t ++ ⟨#[63]⟩)) tag = false := fun h => ckI_no (fun c => (isB_not _ _).1 h (List.mem_of_mem_take (HMK.out.asked x0 x1 c))) _ _
            have hh := fun W h => chas ao cap ss (t ++ ⟨#[63]⟩) W (HW.out W h)
            generalize ckI ts true (tmK cM (some x) (t ++ ⟨#[63]⟩)) tag = bb at *
            generalize isB ss (t ++ ⟨#[63]⟩) = hb at *
            have HD2 := Lib.hid hd2
            have HH := Lib.hid hh
            clear hd2 hh
            cases hb
            · obtain rfl := hno rfl
              clear hno
              go_wp2_with (first
                | (go_at_call 27; (with_reducible refine (At.op0 HL.out emp_good hS).mono ?_); rintro e w1 ⟨rfl, hS1⟩; replace hS := hS1; clear hS1)
                | (go_at_call 29; (with_reducible refine (HH.out _ hS.bel).mono ?_); rintro e w1 ⟨rfl, rfl⟩)
                | (go_at_call 11; (with_reducible refine (At.op0 HD2.out emp_good hS).mono ?_); rintro e w1 ⟨rfl, hS1⟩; replace hS := hS1; clear hS1))
              go_ret
              exact ⟨rfl, hS.bel⟩
            · clear hno
              go_wp2_with (first
                | (go_at_call 27; (with_reducible refine (At.op0 HL.out emp_good hS).mono ?_); rintro e w1 ⟨rfl, hS1⟩; replace hS := hS1; clear hS1)
                | (go_at_call 29; (with_reducible refine (HH.out _ hS.bel).mono ?_); rintro e w1 ⟨rfl, rfl⟩)
                | (go_at_call 11; (with_reducible refine (At.op0 HD2.out emp_good hS).mono ?_); rintro e w1 ⟨rfl, hS1⟩; replace hS := hS1; clear hS1))
              go_ret
              exact ⟨rfl, hS.bel⟩
end Go.Proofs.Ythbpnffiibjgjaa
