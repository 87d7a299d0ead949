/- The walk of DiskKeeps: what a crash leaves. No condition. -/
import Derived.Test.YtlnliphejjfdeaaKlast
import Derived.Test.YtlnliphejjfdeaaSep2
import Derived.Test.YtlnliphejjfdeaaRowS
namespace Go.Proofs.Ytlnliphejjfdeaa
open Go Go.RowKit

theorem knew4 (w : World) : Calls Try.prog 7 #[.int .i64 4] w fun e w' => ∃ p : Nat, e = .returned (.tuple #[.pointer (some ⟨p, 0, none⟩), .int .i64 0]) ∧ Becomes [] (dpA p (Dk.new 4)) w w' := kpnew_ok 4 w (by decide) (by decide)

/-- Two rows of the call's own, a row of texts in a block, and the disk. -/
abbrev kpG (u v : Value) (ns : List Int) (ts : List ByteArray) (b : Nat) (c : List ByteArray) (p : Nat) (d : Dk) : Ass :=
  (rowA 3 u (vals ns)).star ((rowA 9 v (strs' ts)).star ((ownA b (txs c) 49).star ((dpA p d).star emp)))
theorem kpG_good (u v : Value) (ns : List Int) (ts : List ByteArray) (b : Nat) (c : List ByteArray) (p : Nat) (d : Dk) : (kpG u v ns ts b c p d).Good :=
  (rowA_good _ _ _).star ((rowA_good _ _ _).star ((ownA_good _ _ _).star ((dpA_good _ _).star emp_good)))
section
variable {u v : Value} {ns : List Int} {ts : List ByteArray} {b : Nat} {c : List ByteArray} {p : Nat} {d d' : Dk} {w0 w : World}
theorem kpG_op {f : FuncId} {args : Array Value} {e : Ending} (hd : Does Try.prog (dpA p d) f args e (dpA p d')) (h : At w0 (kpG u v ns ts b c p d) w) :
    Calls Try.prog f args w fun e' w' => e' = e ∧ At w0 (kpG u v ns ts b c p d') w' :=
  At.opN hd (Ass.imp.up3 _ _ _ _ _) (Ass.imp.dn3 _ _ _ _ _) ((rowA_good _ _ _).star ((rowA_good _ _ _).star ((ownA_good _ _ _).star emp_good))) h
theorem kpG_text (h : At w0 (kpG u v ns ts b c p d) w) {i : Nat} (hi : i < c.length) : w.cell? ⟨b, i, none⟩ = some (.string (c.getD i ⟨#[]⟩)) ∧ w.frozen? ⟨b, i, none⟩ = false := (h.imp (Ass.imp.up2 _ _ _ _)).text hi
theorem kpG_set (h : At w0 (kpG u v ns ts b c p d) w) (i : Nat) (s : ByteArray) : At w0 (kpG u v ns ts b (c.set i s) p d) (w.setCell ⟨b, i, none⟩ (.string s)) :=
  ((h.imp (Ass.imp.up2 _ _ _ _)).setText ((rowA_good _ _ _).star ((rowA_good _ _ _).star ((dpA_good _ _).star emp_good))) i s).imp (Ass.imp.dn2 _ _ _ _)
theorem kpG_u (h : At w0 (kpG u v ns ts b c p d) w) : ∃ ao cap, u = .slice ao ns.length cap := by
  have := rowI_shape h.row
  simpa using this
theorem kpG_v (h : At w0 (kpG u v ns ts b c p d) w) : ∃ ao cap, v = .slice ao ts.length cap := by
  have := rowI_shape' (h.imp (Ass.imp.swap _ _ _)).row
  simpa using this
theorem kpG_num (h : At w0 (kpG u v ns ts b c p d) w) {j : Nat} (hj : j < ns.length) : ∃ g cap, u = .slice (some ⟨g, 0, none⟩) ns.length cap ∧ w.cell? ⟨g, j, none⟩ = some (.int .i64 (ns.getD j 0)) := At.num h hj
theorem kpG_str (h : At w0 (kpG u v ns ts b c p d) w) {j : Nat} (hj : j < ts.length) : ∃ g cap, v = .slice (some ⟨g, 0, none⟩) ts.length cap ∧ w.cell? ⟨g, j, none⟩ = some (.string (ts.getD j ⟨#[]⟩)) := At.str (h.imp (Ass.imp.swap _ _ _)) hj
theorem kpG_appU {ops : Array Oper} {rest : List Oper} {o : Oper} {a : Act} {Q : Exit → Act → World → Prop} (hgd : o.guard = Option.none) (s x : Operand)
    (ho : o.op = .call { callee := .builtin .append, args := #[s, x], argTypes := #[48, 48] }) (k : Int) (hs : a.eval s = u) (hx : a.eval x = .slice (some ⟨w.heap.size, 0, Option.none⟩) 1 1)
    (hS : At w0 (kpG u v ns ts b c p d) w) (hn : ns.length ≤ 1000) (h : ∀ v' w', At w0 (kpG v' v (ns ++ [k]) ts b c p d) w' → wpList Try.prog ops Q rest (a.put o.dst v') w') :
    wpList Try.prog ops Q (o :: rest) a (w.alloc (.cells #[.int .i64 k] 3)) :=
  app_int ((rowA_good _ _ _).star ((ownA_good _ _ _).star ((dpA_good _ _).star emp_good))) hgd s x ho u ns k hs hx hS hn h
theorem kpG_appV {ops : Array Oper} {rest : List Oper} {o : Oper} {a : Act} {Q : Exit → Act → World → Prop} (hgd : o.guard = Option.none) (s x : Operand)
    (ho : o.op = .call { callee := .builtin .append, args := #[s, x], argTypes := #[50, 50] }) (k : ByteArray) (hs : a.eval s = v) (hx : a.eval x = .slice (some ⟨w.heap.size, 0, Option.none⟩) 1 1)
    (hS : At w0 (kpG u v ns ts b c p d) w) (hn : ts.length ≤ 1000) (h : ∀ v' w', At w0 (kpG u v' ns (ts ++ [k]) b c p d) w' → wpList Try.prog ops Q rest (a.put o.dst v') w') :
    wpList Try.prog ops Q (o :: rest) a (w.alloc (.cells #[.string k] 9)) :=
  app_str ((rowA_good _ _ _).star ((ownA_good _ _ _).star ((dpA_good _ _).star emp_good))) hgd s x ho v ts k hs hx (hS.imp (Ass.imp.swap _ _ _)) hn fun v' w' hS' => h v' w' (hS'.imp (Ass.imp.swap _ _ _))
end
theorem map_getD {α β : Type} (f : α → β) (l : List α) (n : Nat) (d : α) (d' : β) (h : n < l.length) : (l.map f).getD n d' = f (l.getD n d) := by simp [List.getD, h]
theorem keepAll_one (ks : List ByteArray) (s : Nat) (t : ByteArray) : keepAll ks [(s, t)] = ks.set s t := rfl

set_option maxRecDepth 100000 in
set_option maxHeartbeats 8000000 in
theorem kkeeps_walk (ao : Option Addr) (cap : Nat) (cs : List Int) (fl m o : Int) (w : World) (hA : IArg w ao cs) :
    Calls Try.prog 5 #[.slice ao cs.length cap, .int .i64 fl, .int .i64 m, .int .i64 o] w fun e w' => e = .returned (.bool true) ∧ Below w.heap.size w w' := by
  have hB : Below w.heap.size w w := Below.refl _ _
  have HA := Lib.hid hA
  have hfew := hA.few
  clear hA
  go_enter Try.func5, Try.ntmps5
  go_wp2_with (first
    | (go_at_call 10; (with_reducible refine (awake8 _).mono ?_); rintro e w1 ⟨rfl, hb⟩; replace hB := hB.trans (hb.mono hB.size); clear hb)
    | (go_at_call 7; (with_reducible refine (knew4 _).mono ?_); rintro e w1 ⟨p, rfl, hb⟩; have hS : At w ((dpA p (Dk.new 4)).star emp) w1 := At.add emp_good (At.none hB) hb; clear hb)
    | (go_at_call 9; (with_reducible refine (lnum _ _).mono ?_); rintro e w2 ⟨rfl, rfl⟩))
  have hg : ((dpA p (Dk.new 4)).star emp).Good := (dpA_good _ _).star emp_good
  replace hS : At w ((ownA w1.heap.size (txs (List.replicate 4 ⟨#[]⟩)) 49).star ((dpA p (Dk.new 4)).star emp)) (w1.alloc (.cells (txs (List.replicate 4 ⟨#[]⟩)) 49)) := hS.hold hg _ _
  go_loopw [12] (fun x wr => ∃ (j : Nat) (ts : List ByteArray), j ≤ 4 ∧ x = .int .i64 (j : Int) ∧ ts.length = 4 ∧ (∀ i, i < j → ts.getD i ⟨#[]⟩ = zer64) ∧ At w ((ownA w1.heap.size (txs ts) 49).star ((dpA p (Dk.new 4)).star emp)) wr) (fun x _ => 4 - (intOf x).toNat)
  case atStart => exact ⟨0, _, by omega, rfl, rfl, fun i hi => by omega, hS⟩
  case round =>
    clear hS
    obtain ⟨j, ts, hj, rfl, hl, hts, hS⟩ := hrel
    by_cases hlt : j < 4
    · go_wp2_with (first
        | (go_at_call 11; (with_reducible refine (lsec_sNil _).mono ?_); rintro e w2 ⟨rfl, hb⟩; replace hS := hS.lay ((ownA_good _ _ _).star hg) hb; clear hb; obtain ⟨x1, x2⟩ := hS.text (i := j) (by omega)))
      go_round
      case rel => exact ⟨j + 1, _, by omega, by go_num, by rw [List.length_set]; exact hl, fun i hi => by
        by_cases e : i = j
        · subst e; simp [List.getD, hl, hlt, sNil_eq]
        · rw [List.getD, List.getElem?_set_ne (by omega), ← List.getD]; exact hts i (by omega), hS.setText hg j _⟩
      case measure => simp [intOf]; omega
    · obtain rfl : j = 4 := by omega
      obtain rfl : ts = List.replicate 4 zer64 := by
        refine List.ext_getElem (by simp [hl]) fun i h1 h2 => ?_
        have := hts i (by omega)
        rw [List.getD, List.getElem?_eq_getElem h1] at this
        rw [List.getElem_replicate]
        exact this
      clear hts hl hj hlt
      rw [show ((4 : Nat) : Int) = 4 from rfl]
      rw [show Dk.new 4 = ⟨List.replicate 4 zer64, [], false⟩ from rfl] at hg hS ⊢
      have hl4 : (List.replicate 4 zer64).length = 4 := rfl
      have hs64 : ∀ s ∈ List.replicate 4 zer64, s.size = 64 := fun s hs => by rw [List.eq_of_mem_replicate hs]; rfl
      generalize List.replicate 4 zer64 = ts at *
      obtain ⟨K, hK20, hKl, hmin⟩ : ∃ K : Nat, K ≤ 20 ∧ K ≤ cs.length ∧ (if (20 : Int) < (cs.length : Int) then (20 : Int) else (cs.length : Int)) = (K : Int) := by
        by_cases h : 20 < cs.length
        · exact ⟨20, by omega, by omega, by rw [if_pos (by omega)]; rfl⟩
        · exact ⟨cs.length, by omega, by omega, by rw [if_neg (by omega)]⟩
      obtain ⟨F, hF, hf⟩ : ∃ F : Nat, F ≤ K ∧ wrap64 ((IntKind.u64.wrap fl).tmod ((K : Int) + 1)) = (F : Int) := by
        have h0 : 0 ≤ IntKind.u64.wrap fl := by rw [IntKind.wrap_u64]; omega
        have h1 : (IntKind.u64.wrap fl).tmod ((K : Int) + 1) = IntKind.u64.wrap fl % ((K : Int) + 1) := Int.tmod_eq_emod_of_nonneg h0
        have h2 := Int.emod_nonneg (IntKind.u64.wrap fl) (show ((K : Int) + 1) ≠ 0 by omega)
        have h3 := Int.emod_lt_of_pos (IntKind.u64.wrap fl) (show (0 : Int) < (K : Int) + 1 by omega)
        rw [h1]
        generalize IntKind.u64.wrap fl % ((K : Int) + 1) = r at *
        exact ⟨r.toNat, by omega, by unfold wrap64; omega⟩
      have hmin2 : min (cs.length : Int) 20 = (K : Int) := by omega
      go_wp2
      try rw [hf]
      clear hf hmin hmin2
      replace hS := (hS.row0 9).row0 3
      go_loopw [13, 14, 17] (fun u v x wr => ∃ (i : Nat) (ks : List ByteArray) (ws : List Wt), i ≤ K ∧ ks.length = 4 ∧ (∀ s ∈ ks, s.size = 64) ∧ (∀ x ∈ ws, x.1 < 4 ∧ x.2.size = 64) ∧ ws.length ≤ i ∧ (i ≤ F → ws = []) ∧ x = .int .i64 (i : Int) ∧
        At w (kpG u v (ws.map fun x => (x.1 : Int)) (ws.map (·.2)) w1.heap.size ks p ⟨ks, ws, false⟩) wr) (fun _ _ x _ => K - (intOf x).toNat)
      case atStart => exact ⟨0, ts, [], Nat.zero_le _, hl4, hs64, (fun x hx => by cases hx), Nat.le_refl _, fun _ => rfl, rfl, hS⟩
      case round =>
        clear hS hl4 hs64 hg
        obtain ⟨i, ks, ws, hiK, hl4, hs64, hw64, hwl, hwn, rfl, hS⟩ := hrel
        by_cases hlt : i < K
        · obtain ⟨b, off, z, rfl, hz, hzb, hc⟩ := HA.out.at (k := i) (by omega)
          have c0 := hc _ hS.bel
          clear hz hc
          obtain ⟨s, hs4, hs⟩ : ∃ s : Nat, s < 4 ∧ bits .and .i64 z 3 = (s : Int) := by
            have := i64_mask z 2 (by omega)
            exact ⟨(z % 4).toNat, by omega, this.trans (by show z % 4 = _; omega)⟩
          have hz := dec_size i
          have hz2 : (⟨#[119]⟩ ++ decS i : ByteArray).size ≤ 9223372036854770000 := by rw [ByteArray.size_append]; show 1 + _ ≤ _; omega
          have HT := Lib.hid fun W => lsector (⟨#[119]⟩ ++ decS i) W hz2
          have ht64 := secOf_size (⟨#[119]⟩ ++ decS i)
          generalize secOf (⟨#[119]⟩ ++ decS i) = t at *
          have hU : (Dk.mk ks ws false).Up 4 (Dk.mk ks ws false).see := ⟨rfl, hl4, rfl⟩
          obtain ⟨f1, _, _⟩ := hU.write hs4 ht64
          have hP := kpwrite p ⟨ks, ws, false⟩ (s : Int) t (by show ws.length ≤ _; omega)
          have hwr : (Dk.mk ks ws false).wr (s : Int) t = ⟨ks, ws ++ [(s, t)], false⟩ := by unfold Dk.wr; rw [hU.has hs4]; simp [ht64]
          rw [f1, hwr] at hP
          have HP := Lib.hid hP
          clear hP f1 hwr hU
          by_cases hF : i < F
          · obtain rfl := hwn (by omega)
            have hP2 := kpflush p ⟨ks, [] ++ [(s, t)], false⟩
            rw [show (Dk.mk ks ([] ++ [(s, t)]) false).flE = 0 from rfl, show (Dk.mk ks ([] ++ [(s, t)]) false).fl = ⟨ks.set s t, [], false⟩ from rfl] at hP2
            have HP2 := Lib.hid hP2
            clear hP2
            go_wp2_with (first
              | (go_at_call 24; (with_reducible refine (dec_any i _ (by omega)).mono ?_); rintro e w2 ⟨rfl, hb⟩; replace hS := hS.lay (kpG_good _ _ _ _ _ _ _ _) hb; clear hb)
              | (go_at_call 11; (with_reducible refine (HT.out _).mono ?_); rintro e w2 ⟨rfl, hb⟩; replace hS := hS.lay (kpG_good _ _ _ _ _ _ _ _) hb; clear hb)
              | (go_at_call 12; (with_reducible refine (kpG_op HP.out hS).mono ?_); rintro e w2 ⟨rfl, hS1⟩; replace hS := hS1; clear hS1)
              | (go_at_call 14; (with_reducible refine (kpG_op HP2.out hS).mono ?_); rintro e w2 ⟨rfl, hS1⟩; replace hS := hS1; clear hS1; obtain ⟨x1, x2⟩ := kpG_text hS (i := s) (by omega); replace hS := kpG_set hS s t)
              | (go_at_call 9; (with_reducible refine (lnum _ _).mono ?_); rintro e w2 ⟨rfl, rfl⟩))
            go_roundw
            case rel => exact ⟨i + 1, ks.set s t, [], by omega, by rw [List.length_set]; exact hl4, set_sz hs64 ht64, (fun x hx => by cases hx), Nat.zero_le _, fun _ => rfl, by go_num, hS⟩
            case measure => simp [intOf]; omega
          · have hnl : (ws.map fun x => (x.1 : Int)).length ≤ 1000 := by rw [List.length_map]; omega
            have htl : (ws.map (·.2)).length ≤ 1000 := by rw [List.length_map]; omega
            go_wp2_with (first
              | (go_at_call 24; (with_reducible refine (dec_any i _ (by omega)).mono ?_); rintro e w2 ⟨rfl, hb⟩; replace hS := hS.lay (kpG_good _ _ _ _ _ _ _ _) hb; clear hb)
              | (go_at_call 11; (with_reducible refine (HT.out _).mono ?_); rintro e w2 ⟨rfl, hb⟩; replace hS := hS.lay (kpG_good _ _ _ _ _ _ _ _) hb; clear hb)
              | (go_at_call 12; (with_reducible refine (kpG_op HP.out hS).mono ?_); rintro e w2 ⟨rfl, hS1⟩; replace hS := hS1; clear hS1)
              | (go_at_call 9; (with_reducible refine (lnum _ _).mono ?_); rintro e w2 ⟨rfl, rfl⟩)
              | (at_builtin; first
                  | (refine kpG_appU rfl _ _ rfl (s : Int) rfl rfl hS hnl ?_; intro v' w2 hS1; replace hS := hS1; clear hS1)
                  | (refine kpG_appV rfl _ _ rfl t rfl rfl hS htl ?_; intro v' w2 hS1; replace hS := hS1; clear hS1)))
            go_roundw
            case rel => exact ⟨i + 1, ks, ws ++ [(s, t)], by omega, hl4, hs64, (fun x hx => by
              rcases List.mem_append.1 hx with h | h
              · exact hw64 x h
              · simp at h; subst h; exact ⟨hs4, ht64⟩), by simp; omega, fun h => by omega, by go_num, by rw [List.map_append, List.map_append]; exact hS⟩
            case measure => simp [intOf]; omega
        · obtain ⟨M, hM, hm⟩ : ∃ M : Nat, M < 1073741824 ∧ bits .and .i64 m 1073741823 = (M : Int) := by
            have := i64_mask m 30 (by omega)
            exact ⟨(m % 1073741824).toNat, by omega, this.trans (by show m % 1073741824 = _; omega)⟩
          obtain ⟨O, hO, ho⟩ : ∃ O : Nat, O < 128 ∧ bits .and .i64 o 127 = (O : Int) := by
            have := i64_mask o 7 (by omega)
            exact ⟨(o % 128).toNat, by omega, this.trans (by show o % 128 = _; omega)⟩
          obtain ⟨ua, uc, rfl⟩ := kpG_u hS
          obtain ⟨va, vc, rfl⟩ := kpG_v hS
          simp only [List.length_map] at hS ⊢
          have hP := kpcrash p ⟨ks, ws, false⟩ (M : Int) (O : Int) (by omega) (by omega)
          have hR : (Dk.mk ks ws false).cr (M : Int) (O : Int) = ⟨crk M (min O 64) 0 false ks ws, [], true⟩ := by unfold Dk.cr; simp
          rw [hR, show (Dk.mk ks ws false).crE (M : Int) (O : Int) = 0 by unfold Dk.crE; simp] at hP
          have hlZ : (crk M (min O 64) 0 false ks ws).length = 4 := (crk_len _ _ _ _ _ _).trans hl4
          obtain ⟨Z, hZ⟩ : ∃ Z, crk M (min O 64) 0 false ks ws = Z := ⟨_, rfl⟩
          rw [hZ] at hP hlZ
          have HP := Lib.hid hP
          have hP2 := kprestart p ⟨Z, [], true⟩
          rw [show (Dk.mk Z [] true).rsE = 0 from rfl, show (Dk.mk Z [] true).rs = ⟨Z, [], false⟩ from rfl] at hP2
          have HP2 := Lib.hid hP2
          clear hP hP2 hR hwn
          go_wp2_with (first
            | (go_at_call 20; (with_reducible refine (kpG_op (kpwaits _ _) hS).mono ?_); rintro e w2 ⟨rfl, hS1⟩; replace hS := hS1; clear hS1)
            | (go_at_call 16; (with_reducible refine (kpG_op HP.out hS).mono ?_); rintro e w2 ⟨rfl, hS1⟩; replace hS := hS1; clear hS1)
            | (go_at_call 18; (with_reducible refine (kpG_op HP2.out hS).mono ?_); rintro e w2 ⟨rfl, hS1⟩; replace hS := hS1; clear hS1))
          clear HP HP2
          go_loopw [26, 27] (fun l x wr => ∃ (n : Nat) (lost : Bool) (c : List ByteArray), n ≤ ws.length ∧ l = .bool lost ∧ x = .int .i64 (n : Int) ∧ c.length = 4 ∧ (∀ s ∈ c, s.size = 64) ∧ crk M (min O 64) n lost c (ws.drop n) = Z ∧
            At w (kpG (.slice ua ws.length uc) (.slice va ws.length vc) (ws.map fun x => (x.1 : Int)) (ws.map (·.2)) w1.heap.size c p ⟨Z, [], false⟩) wr) (fun _ x _ => ws.length - (intOf x).toNat)
          case atStart => exact ⟨0, false, ks, Nat.zero_le _, rfl, rfl, hl4, hs64, hZ, hS⟩
          case round =>
            clear hS hZ hl4 hs64
            obtain ⟨n, lost, c, hn, rfl, rfl, hl4, hs64, hZ, hS⟩ := hrel
            by_cases hnl : n < ws.length
            · obtain ⟨x, hx⟩ : ∃ x, ws.getD n (0, ⟨#[]⟩) = x := ⟨_, rfl⟩
              have hm64 := hw64 x (by rw [← hx, List.getD, List.getElem?_eq_getElem hnl]; exact List.getElem_mem hnl)
              obtain ⟨b1, b2⟩ := hm64
              have b3 : (x.1 : Int) < 4 := by omega
              have b4 : x.1 + 1 ≤ 4 := by omega
              have b5 : 0 ≤ (x.1 : Int) := by omega
              have b6 : (x.1 : Int).toNat = x.1 := rfl
              obtain ⟨g, cu, hv, e1⟩ := kpG_num hS (j := n) (by rw [List.length_map]; exact hnl)
              obtain ⟨rfl, rfl⟩ : ua = some ⟨g, 0, none⟩ ∧ uc = cu := by simpa using hv
              clear hv
              obtain ⟨gv, cv, hv, e2⟩ := kpG_str hS (j := n) (by rw [List.length_map]; exact hnl)
              obtain ⟨rfl, rfl⟩ : va = some ⟨gv, 0, none⟩ ∧ vc = cv := by simpa using hv
              clear hv
              rw [map_getD _ _ _ (0, ⟨#[]⟩) _ hnl, hx] at e1 e2
              obtain ⟨e3, e4⟩ := kpG_text hS (i := x.1) (by omega)
              have z4 := getD_sz hs64 (i := x.1) (by omega)
              rw [crk_cons hnl hx] at hZ
              have hbt := bit_test M n (by omega)
              have h30 : n < 30 := by omega
              cases hb : bitK M n with
              | true =>
                rw [hb, if_pos rfl] at hZ
                have h31 : M.testBit n = true := by simpa [bitK, h30] using hb
                rw [h31] at hbt
                have hD := hS.lay (w' := wr.drew) (kpG_good _ _ _ _ _ _ _ _) (Below.refl _ _).drew
                have d1 : wr.drew.cell? _ = some _ := e1
                have d2 : wr.drew.cell? _ = some _ := e2
                have d3 : wr.drew.cell? _ = some _ := e3
                have d4 : wr.drew.frozen? _ = false := e4
                have HK := Lib.hid (kpG_set hD x.1 x.2)
                have HC := Lib.hid hZ
                clear hx hS hD hb hZ h31 e3 e4
                go_wp2
                refine region_tail 9 (by kernel_rfl) (by kernel_rfl) fun W hW => ?_
                rw [← hW] at d1 d2 d3 d4
                have HW := Lib.hid hW
                clear hW
                simp only [List.take_succ_cons, List.take_zero, List.drop_succ_cons, List.drop_zero]
                repeat still_step
                refine wpStill_nil ?_
                have hW := HW.out
                subst hW
                go_wp2
                go_roundw
                case rel => exact ⟨n + 1, lost, _, by omega, rfl, by go_num, by rw [List.length_set]; exact hl4, set_sz hs64 b2, HC.out, HK.out⟩
                case measure => simp [intOf]; omega
              | false =>
                have h31 : M.testBit n = false := by simpa [bitK, h30] using hb
                rw [h31] at hbt
                rw [hb, if_neg (by decide)] at hZ
                cases lost with
                | true =>
                  rw [if_pos rfl] at hZ
                  have HC := Lib.hid hZ
                  clear hx hb hZ h31
                  go_wp2
                  go_roundw
                  case rel => exact ⟨n + 1, true, _, by omega, rfl, by go_num, hl4, hs64, HC.out, hS⟩
                  case measure => simp [intOf]; omega
                | false =>
                  rw [if_neg (by decide)] at hZ
                  obtain ⟨Y, hY⟩ : ∃ Y, c.getD x.1 ⟨#[]⟩ = Y := ⟨_, rfl⟩
                  rw [hY] at hZ e3 z4
                  have hD := hS.lay (w' := wr.drew) (kpG_good _ _ _ _ _ _ _ _) (Below.refl _ _).drew
                  have d1 : wr.drew.cell? _ = some _ := e1
                  have d2 : wr.drew.cell? _ = some _ := e2
                  have d3 : wr.drew.cell? _ = some _ := e3
                  have d4 : wr.drew.frozen? _ = false := e4
                  have HK := Lib.hid (fun s => kpG_set hD x.1 s)
                  have HT := Lib.hid (fun tt (h : tt ≤ 64) => torn_sz (t := tt) b2 z4 h)
                  by_cases t64 : O ≤ 64
                  · rw [show min O 64 = O by omega] at hZ
                    have HC := Lib.hid hZ
                    have t65 : (O : Int) ≤ 64 := by omega
                    have t67 : min (O : Int) 64 = (O : Int) := by omega
                    have t66 : ¬ 9223372036854775807 < min O 64 + (64 - O) := by omega
                    clear hx hS hD hb hZ h31 e3 e4 hY
                    go_wp2
                    refine region_tail 20 (by kernel_rfl) (by kernel_rfl) fun W hW => ?_
                    rw [← hW] at d1 d2 d3 d4
                    have HW := Lib.hid hW
                    clear hW
                    simp only [List.take_succ_cons, List.take_zero, List.drop_succ_cons, List.drop_zero]
                    repeat still_step
                    refine wpStill_nil ?_
                    have hW := HW.out
                    subst hW
                    go_wp2
                    go_roundw
                    case rel => exact ⟨n + 1, true, _, by omega, rfl, by go_num, by rw [List.length_set]; exact hl4, set_sz hs64 (HT.out O t64), by rw [show min O 64 = O by omega]; exact HC.out, HK.out _⟩
                    case measure => simp [intOf]; omega
                  · rw [show min O 64 = 64 by omega] at hZ
                    have h64 : x.2.extract 0 64 ++ Y.extract 64 64 = x.2.extract 0 64 := by rw [ByteArray.extract_eq_empty_iff.2 (Nat.min_le_left _ _)]; exact ByteArray.append_empty
                    have HT64 := HT.out 64 (Nat.le_refl _)
                    rw [h64] at hZ HT64
                    have HC := Lib.hid hZ
                    have t65 : (64 : Int) < O := by omega
                    have t67 : min (O : Int) 64 = 64 := by omega
                    clear hx hS hD hb hZ h31 e3 e4 hY h64
                    go_wp2
                    refine region_tail 20 (by kernel_rfl) (by kernel_rfl) fun W hW => ?_
                    rw [← hW] at d1 d2 d3 d4
                    have HW := Lib.hid hW
                    clear hW
                    simp only [List.take_succ_cons, List.take_zero, List.drop_succ_cons, List.drop_zero]
                    repeat still_step
                    refine wpStill_nil ?_
                    have hW := HW.out
                    subst hW
                    go_wp2
                    go_roundw
                    case rel => exact ⟨n + 1, true, _, by omega, rfl, by go_num, by rw [List.length_set]; exact hl4, set_sz hs64 HT64, by rw [show min O 64 = 64 by omega]; exact HC.out, HK.out _⟩
                    case measure => simp [intOf]; omega
            · obtain rfl : n = ws.length := by omega
              rw [List.drop_length, crk] at hZ
              subst hZ
              go_wp2
              have hU : (Dk.mk c [] false).Up 4 c := ⟨rfl, hl4, rfl⟩
              clear hs64 hw64
              go_loopw [29] (fun x wr2 => ∃ j : Nat, j ≤ 4 ∧ x = .int .i64 (j : Int) ∧ At w (kpG (.slice ua ws.length uc) (.slice va ws.length vc) (ws.map fun x => (x.1 : Int)) (ws.map (·.2)) w1.heap.size c p ⟨c, [], false⟩) wr2) (fun x _ => 4 - (intOf x).toNat)
              case atStart => exact ⟨0, by omega, rfl, hS⟩
              case round =>
                clear hS
                obtain ⟨j, hj, rfl, hS⟩ := hrel
                by_cases hl8 : j < 4
                · obtain ⟨r1, r2⟩ := hU.read hl8
                  have hR := kpread p ⟨c, [], false⟩ (j : Int)
                  rw [r1, r2] at hR
                  have HR := Lib.hid hR
                  clear hR
                  have htl := hU.tlen
                  go_wp2_with (first
                    | (go_at_call 22; (with_reducible refine (kpG_op HR.out hS).mono ?_); rintro e w2 ⟨rfl, hS1⟩; replace hS := hS1; clear hS1; obtain ⟨x1, x2⟩ := kpG_text hS (i := j) (by omega))
                    | (go_at_call 9; (with_reducible refine (lnum _ _).mono ?_); rintro e w2 ⟨rfl, rfl⟩))
                  go_round
                  case rel => exact ⟨j + 1, by omega, by go_num, hS⟩
                  case measure => simp [intOf]; omega
                · go_wp2_with (first
                    | (go_at_call 20; (with_reducible refine (kpG_op (kpwaits _ _) hS).mono ?_); rintro e w2 ⟨rfl, hS1⟩; replace hS := hS1; clear hS1)
                    | (go_at_call 9; (with_reducible refine (lnum _ _).mono ?_); rintro e w2 ⟨rfl, rfl⟩))
                  go_ret
                  exact ⟨rfl, hS.bel⟩
end Go.Proofs.Ytlnliphejjfdeaa
