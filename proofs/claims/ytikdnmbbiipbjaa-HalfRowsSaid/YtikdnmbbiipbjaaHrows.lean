/- The walk of HalfRows: those that are there stand in the row in which they came, whoever is taken from between. No condition. -/
import Derived.Test.YtikdnmbbiipbjaaHzp
import Derived.Test.YtikdnmbbiipbjaaIArg
import Derived.Test.YtikdnmbbiipbjaaFplain3
import Derived.Test.YtikdnmbbiipbjaaRun
import Derived.Deep.RegionWith
import Derived.Deep.QuietTactic
import Derived.IntWalk
namespace Go.Proofs.Ytikdnmbbiipbjaa
open Go Go.RowKit

abbrev hrr0 : Oper := { dst := some 112, op := Op.move (Operand.tmp 3), type := 22, pos := "deep.go:48", after := #[], guard := none }
abbrev hrr1 : Oper := { dst := some 113, op := Op.move (Operand.tmp 17), type := 3, pos := "deep.go:48", after := #[], guard := none }
abbrev hrr2 : Oper := { dst := some 114, op := Op.indexAddr 22 (Operand.tmp 112) (Operand.tmp 113), type := 0, pos := "deep.go:48", after := #[{ on := 0, ground := Ground.data }, { on := 1, ground := Ground.data }], guard := none }
abbrev hrr3 : Oper := { dst := some 115, op := Op.fieldAddr 24 (Operand.tmp 114) 0, type := 0, pos := "deep.go:48", after := #[{ on := 2, ground := Ground.data }], guard := none }
abbrev hrr4 : Oper := { dst := some 116, op := Op.load 3 (Operand.tmp 115), type := 3, pos := "deep.go:48", after := #[{ on := 3, ground := Ground.data }], guard := none }
abbrev hrr5 : Oper := { dst := some 117, op := Op.move (Operand.tmp 9), type := 41, pos := "deep.go:48", after := #[], guard := none }
abbrev hrr6 : Oper := { dst := some 118, op := Op.move (Operand.tmp 17), type := 3, pos := "deep.go:48", after := #[], guard := none }
abbrev hrr7 : Oper := { dst := some 119, op := Op.indexAddr 41 (Operand.tmp 117) (Operand.tmp 118), type := 0, pos := "deep.go:48", after := #[{ on := 5, ground := Ground.data }, { on := 6, ground := Ground.data }], guard := none }
abbrev hrr8 : Oper := { dst := some 120, op := Op.load 3 (Operand.tmp 119), type := 3, pos := "deep.go:48", after := #[{ on := 7, ground := Ground.data }], guard := none }
abbrev hrr9 : Oper := { dst := some 121, op := Op.binOp BinOp.neq 3 (Operand.tmp 116) (Operand.tmp 120) 3, type := 4, pos := "deep.go:48", after := #[{ on := 4, ground := Ground.data }, { on := 8, ground := Ground.data }], guard := none }
/-- The law's own memory: the logins' row, the numbers'. -/
def HrS (w : World) (m : Nat) (ha : Option Addr) (hc : Nat) (la : Option Addr) (lc : Nat) (M : List Int) (R : Ass) (Z : World) : Prop := At w ((rowE THa 5 (.slice ha m hc) m (haCells (hzs M))).star ((rowA 3 (.slice la m lc) (vals M)).star R)) Z
theorem upto8 : (upto 8).Nodup := by decide
set_option maxRecDepth 100000 in
set_option maxHeartbeats 64000000 in
theorem hrows_walk (P : HalvesOk) (ao : Option Addr) (cap : Nat) (cs : List Int) (w : World) (hA : IArg w ao cs) :
    Calls Try.prog 6 #[.slice ao cs.length cap] w fun e w' => e = .returned (.bool true) ∧ Below w.heap.size w w' := by
  have HA := Lib.hid hA
  have hfew := hA.few
  clear hA
  go_enter Try.func6, Try.ntmps6
  go_wp2_with (go_at_call 18; (with_reducible refine (awake18 P _).mono ?_); rintro e w1 ⟨rfl, hB⟩)
  go_loopw [3, 4] (fun h i wr => ∃ (k : Nat) (a : Option Addr) (c : Nat), k ≤ 8 ∧ i = .int .i64 (k : Int) ∧ h = .slice a k c ∧ Aside (At w ((rowE THa 5 (.slice a k c) k (haCells (hzs (upto k)))).star emp) wr)) (fun _ i _ => 8 - (intOf i).toNat)
  case atStart => exact ⟨0, none, 0, Nat.zero_le _, rfl, rfl, (show Aside _ from At.erow0 THa 5 (At.none hB))⟩
  case round =>
    clear hB
    obtain ⟨k, a, c, hk, rfl, rfl, hall⟩ := hrel
    have hS := hall.out
    clear hall
    by_cases hlt : k < 8
    · have hp := hz_add P emp_good (upto_len k) hlt hS (k : Int)
      rw [← upto_succ] at hp
      have HP := Lib.hid hp
      clear hS hp
      go_wp2_with (first
        | (go_at_call 8; (with_reducible refine HP.out.mono ?_); rintro e w4 ⟨a4, c4, rfl, hS4⟩; have H4 := Lib.hid hS4; clear hS4)
        | (go_at_call 14; (with_reducible refine (lnum _ _).mono ?_); rintro e wn ⟨rfl, rfl⟩))
      go_roundw
      case rel => exact ⟨k + 1, a4, c4, by omega, by go_num, rfl, (show Aside _ from H4.out)⟩
      case measure => simp [intOf]; omega
    · obtain rfl : k = 8 := by omega
      have HP := Lib.hid (hz_full P (upto_len 8) hS 99)
      have HS := Lib.hid hS
      clear hS hlt hk
      generalize hL8 : upto 8 = L8 at *
      go_wp2_with (first
        | (go_at_call 8; (with_reducible refine HP.out.mono ?_); rintro e w4 ⟨a4, c4, rfl, hb⟩; have H4 := Lib.hid (((HS.out.lay ((rowE_good _ _ _ _ _).star emp_good) hb).litA ((rowE_good _ _ _ _ _).star emp_good) (upto 8) 8 _ (upto_len 8) (by decide) rfl rfl).imp (Ass.imp.swap _ _ _)); clear hb))
      subst hL8
      go_loopw [3, 9, 10] (fun h l i wr => ∃ (k : Nat) (L : List Int) (ah : Option Addr) (ch : Nat) (al : Option Addr) (cl : Nat), k ≤ cs.length ∧ k ≤ 20 ∧ i = .int .i64 (k : Int) ∧ h = .slice ah L.length ch ∧ l = .slice al L.length cl ∧ (L.length ≤ 8 ∧ L.Nodup) ∧ Aside (At w ((rowE THa 5 (.slice ah L.length ch) L.length (haCells (hzs L))).star ((rowA 3 (.slice al L.length cl) (vals L)).star emp)) wr)) (fun _ _ i _ => cs.length - (intOf i).toNat)
      case atStart => exact ⟨0, upto 8, a, c, _, 8, Nat.zero_le _, by omega, rfl, rfl, rfl, ⟨by decide, upto8⟩, (show Aside _ from H4.out)⟩
      case round =>
        clear H4 HS HP
        obtain ⟨k, L, ah, ch, al, cl, hk, hk2, rfl, rfl, rfl, ⟨hL8, hLn⟩, hall⟩ := hrel
        have hS := hall.out
        clear hall
        have hB := hS.bel
        by_cases hlt : k < cs.length
        · by_cases h20 : k < 20
          · obtain ⟨b0, off0, z, rfl, hz0, hzb, hcz⟩ := HA.out.at hlt
            have c0 := hcz _ hB
            obtain ⟨q, hq⟩ : ∃ q : Int, bits .and .i64 z 7 = q := ⟨_, rfl⟩
            have HS := Lib.hid hS
            clear hcz hz0 hS hB
            go_wp2
            rw [show decide ((k : Int) < 20) = true from decide_eq_true (by omega)]
            go_loopw [12, 13] (fun r j wr => ∃ (n : Nat) (ar : Option Addr) (cr : Nat), n ≤ L.length ∧ j = .int .i64 (n : Int) ∧ r = .slice ar (hzf q (L.take n)).length cr ∧ Aside (At w ((rowA 3 (.slice ar (hzf q (L.take n)).length cr) (vals (hzf q (L.take n)))).star ((rowE THa 5 (.slice ah L.length ch) L.length (haCells (hzs L))).star ((rowA 3 (.slice al L.length cl) (vals L)).star emp))) wr)) (fun _ j _ => L.length - (intOf j).toNat)
            case atStart => exact ⟨0, none, 0, Nat.zero_le _, rfl, rfl, (show Aside _ from At.row0 3 HS.out)⟩
            case round =>
              clear HS c0
              obtain ⟨n, ar, cr, hn, rfl, rfl, hall⟩ := hrel
              have hS := hall.out
              clear hall
              by_cases hin : n < L.length
              · have hinI : (n : Int) < (L.length : Int) := by omega
                have hn0 : ¬ (n : Int) < 0 := by omega
                obtain ⟨y, hy⟩ : ∃ y, L.getD n 0 = y := ⟨_, rfl⟩
                have hT := hzf_take (q := q) hin hy
                have hFl : (hzf q (L.take n)).length ≤ 1000 := by
                  have := hzf_len q (L.take n)
                  rw [List.length_take] at this
                  omega
                obtain ⟨gn, cn, en, hcn⟩ := At.num (hS.imp (Ass.imp.up2 _ _ _ _)) hin
                simp only [Value.slice.injEq, true_and] at en
                obtain ⟨rfl, rfl⟩ := en
                rw [hy] at hcn
                have HS := Lib.hid hS
                clear hS hy
                by_cases hyq : y = q
                · rw [if_pos hyq] at hT
                  have HT := Lib.hid hT
                  clear hT
                  go_wp2
                  go_roundw
                  case rel => exact ⟨n + 1, ar, cr, by omega, by go_num, by rw [HT.out], (show Aside _ from by rw [HT.out]; exact HS.out)⟩
                  case measure => simp [intOf]; omega
                · rw [if_neg hyq] at hT
                  have HT := Lib.hid hT
                  clear hT
                  generalize hzf q (L.take n) = F at *
                  go_wp2_with (at_builtin; refine app_int ((rowE_good _ _ _ _ _).star ((rowA_good _ _ _).star emp_good)) rfl _ _ rfl (.slice ar F.length cr) F y rfl rfl HS.out hFl ?_; intro v4 w4 hS4; obtain ⟨a4, c4, e4⟩ := rowI_shape hS4.row; have e5 : v4 = .slice a4 (F ++ [y]).length c4 := (by rw [e4]; simp); subst e5; have H4 := Lib.hid hS4; clear hS4 e4)
                  go_roundw
                  case rel => exact ⟨n + 1, a4, c4, by omega, by go_num, by rw [HT.out, List.length_append]; rfl, (show Aside _ from by rw [HT.out]; exact H4.out)⟩
                  case measure => simp [intOf]; omega
              · obtain rfl : n = L.length := by omega
                have hinI : ¬ (L.length : Int) < (L.length : Int) := by omega
                rw [List.take_length] at hS ⊢
                have hf := hzs_find hLn q 0
                have hMn := hzf_nodup (q := q) hLn
                have hS2 := hS.imp (Ass.imp.swap _ _ _)
                clear hS hin hn
                generalize hM : hzf q L = M at *
                rcases hf with hf | ⟨hf, hML⟩
                · have hMl : M.length + 1 = L.length := by obtain ⟨_, _, _, _, _, h⟩ := hf; exact h
                  have hMI : (M.length : Int) < (L.length : Int) := by omega
                  have HP := Lib.hid (hz_some P ((rowA_good _ _ _).star ((rowA_good _ _ _).star emp_good)) rfl hL8 hS2 hM rfl (by rw [hM]; exact hf))
                  clear hS2 hf hM
                  go_wp2_with (first
                    | (go_at_call 10; (with_reducible refine HP.out.mono ?_); rintro e w4 ⟨a4, c4, rfl, hS4⟩; have H6 := Lib.hid (hS4.lay ((rowE_good _ _ _ _ _).star ((rowA_good _ _ _).star ((rowA_good _ _ _).star emp_good))) (habox w4 (haB (hz q)))); have ex := (Blk.new w4 (haB (hz q)) THa).cell; clear hS4)
                    | (go_at_call 14; (with_reducible refine (lnum _ _).mono ?_); rintro e wn ⟨rfl, rfl⟩))
                  go_loopw [17] (fun j wr => ∃ n : Nat, n ≤ M.length ∧ j = .int .i64 (n : Int) ∧ Aside (At w ((rowE THa 5 (.slice a4 M.length c4) M.length (haCells (hzs M))).star ((rowA 3 (.slice ar M.length cr) (vals M)).star ((rowA 3 (.slice al L.length cl) (vals L)).star emp))) wr)) (fun j _ => M.length - (intOf j).toNat)
                  case atStart => exact ⟨0, Nat.zero_le _, rfl, (show Aside _ from H6.out)⟩
                  case round =>
                    clear H6
                    obtain ⟨n, hn, rfl, hall⟩ := hrel
                    have hS := hall.out
                    clear hall
                    by_cases hin : n < M.length
                    · have hinI : (n : Int) < (M.length : Int) := by omega
                      have hn0 : ¬ (n : Int) < 0 := by omega
                      have HS := Lib.hid hS
                      obtain ⟨y, hy⟩ : ∃ y, M.getD n 0 = y := ⟨_, rfl⟩
                      obtain ⟨ge, rfl, -, -⟩ := ha_big (es := hzs M) (by rw [List.length_map]; exact hS) (by rw [List.length_map]; omega)
                      obtain ⟨gn, cn, en, -⟩ := At.num (hS.imp (Ass.imp.swap _ _ _)) hin
                      simp only [Value.slice.injEq, true_and] at en
                      obtain ⟨rfl, rfl⟩ := en
                      have HF := Lib.hid (fun (Z : World) (hZ : HrS w M.length (some ⟨ge, 0, none⟩) c4 (some ⟨gn, 0, none⟩) cr M ((rowA 3 (.slice al L.length cl) (vals L)).star emp) Z) => show Z.cell? ⟨ge, n * 5, none⟩ = some (.int .i64 y) ∧ Z.cell? ⟨gn, n, none⟩ = some (.int .i64 y) from by
                        refine ⟨?_, ?_⟩
                        · have h := ((haAt_row (es := hzs M) (n := M.length) (by rw [List.length_map]; exact hZ)).1.elem (j := n) (by rw [List.length_map]; exact hin)).1
                          rw [Nat.zero_add, hzs_getD hin, hy] at h
                          exact h
                        · obtain ⟨g2, c2, e2, h⟩ := At.num (At.imp hZ (Ass.imp.swap _ _ _)) hin
                          simp only [Value.slice.injEq, true_and, Option.some.injEq, Addr.mk.injEq, and_true] at e2
                          obtain ⟨rfl, rfl⟩ := e2
                          rw [hy] at h
                          exact h)
                      clear hS hy
                      go_wp2
                      refine region_held (S := HrS w M.length (some ⟨ge, 0, none⟩) c4 (some ⟨gn, 0, none⟩) cr M ((rowA 3 (.slice al L.length cl) (vals L)).star emp)) 10 [false, false, false, false, false, false, false, false, false, false] rfl rfl (by kernel_rfl) fun V hW => ?_
                      have hV : HrS w M.length (some ⟨ge, 0, none⟩) c4 (some ⟨gn, 0, none⟩) cr M ((rowA 3 (.slice al L.length cl) (vals L)).star emp) V := by
                        rw [hW]
                        exact HS.out.lay ((rowE_good _ _ _ _ _).star ((rowA_good _ _ _).star ((rowA_good _ _ _).star emp_good))) (ha_drew _)
                      clear hW HS
                      refine run_go [(0, hrr0, some 112), (1, hrr1, some 113), (2, hrr2, some 114), (3, hrr3, some 115), (4, hrr4, some 116), (5, hrr5, some 117), (6, hrr6, some 118), (7, hrr7, some 119), (8, hrr8, some 120), (9, hrr9, some 121)] (by kernel_rfl) ?_
                      iterate 10 (refine run_take ?_ rfl rfl (fun _ _ _ h => h) (Or.inl ⟨by rfl, ?_⟩) hV ?_; rotate_left; (· (intro w0 hy0; obtain ⟨y0, y1⟩ := HF.out w0 hy0; (go_simp <;> with_reducible rfl))); simp only [Act.put, List.setIfInBounds_toArray, List.set_cons_zero, List.set_cons_succ])
                      refine run_end ?_
                      refine wpAnyH_done (by kernel_rfl) ?_ _
                      go_wp2
                      go_roundw
                      case rel => exact ⟨n + 1, by omega, by go_num, (show Aside _ from hV)⟩
                      case measure => simp [intOf]; omega
                    · obtain rfl : n = M.length := by omega
                      have hinI : ¬ (M.length : Int) < (M.length : Int) := by omega
                      have HS := Lib.hid hS
                      clear hS
                      go_wp2
                      go_roundw
                      case rel => exact ⟨k + 1, M, a4, c4, ar, cr, by omega, by omega, by go_num, rfl, rfl, ⟨by omega, hMn⟩, (show Aside _ from (HS.out.imp (Ass.imp.up2 _ _ _ _)).drop)⟩
                      case measure => simp [intOf]; omega
                · subst hML
                  have HP := Lib.hid (hz_none P rfl hL8 hS2 hf)
                  have HS2 := Lib.hid ((hS2.imp (Ass.imp.up1 _ _ _)).drop)
                  clear hS2 hf hM
                  go_wp2_with (first
                    | (go_at_call 10; (with_reducible refine HP.out.mono ?_); rintro e w4 ⟨a4, c4, rfl, hb⟩; have H6 := Lib.hid ((HS2.out.lay ((rowE_good _ _ _ _ _).star ((rowA_good _ _ _).star emp_good)) hb).lay ((rowE_good _ _ _ _ _).star ((rowA_good _ _ _).star emp_good)) (habox w4 (haB Ha.none))); clear hb)
                    | (go_at_call 14; (with_reducible refine (lnum _ _).mono ?_); rintro e wn ⟨rfl, rfl⟩))
                  go_loopw [17] (fun j wr => ∃ n : Nat, n ≤ M.length ∧ j = .int .i64 (n : Int) ∧ Aside (At w ((rowE THa 5 (.slice ah M.length ch) M.length (haCells (hzs M))).star ((rowA 3 (.slice al M.length cl) (vals M)).star (emp))) wr)) (fun j _ => M.length - (intOf j).toNat)
                  case atStart => exact ⟨0, Nat.zero_le _, rfl, (show Aside _ from H6.out)⟩
                  case round =>
                    clear H6
                    obtain ⟨n, hn, rfl, hall⟩ := hrel
                    have hS := hall.out
                    clear hall
                    by_cases hin : n < M.length
                    · have hinI : (n : Int) < (M.length : Int) := by omega
                      have hn0 : ¬ (n : Int) < 0 := by omega
                      have HS := Lib.hid hS
                      obtain ⟨y, hy⟩ : ∃ y, M.getD n 0 = y := ⟨_, rfl⟩
                      obtain ⟨ge, rfl, -, -⟩ := ha_big (es := hzs M) (by rw [List.length_map]; exact hS) (by rw [List.length_map]; omega)
                      obtain ⟨gn, cn, en, -⟩ := At.num (hS.imp (Ass.imp.swap _ _ _)) hin
                      simp only [Value.slice.injEq, true_and] at en
                      obtain ⟨rfl, rfl⟩ := en
                      have HF := Lib.hid (fun (Z : World) (hZ : HrS w M.length (some ⟨ge, 0, none⟩) ch (some ⟨gn, 0, none⟩) cl M (emp) Z) => show Z.cell? ⟨ge, n * 5, none⟩ = some (.int .i64 y) ∧ Z.cell? ⟨gn, n, none⟩ = some (.int .i64 y) from by
                        refine ⟨?_, ?_⟩
                        · have h := ((haAt_row (es := hzs M) (n := M.length) (by rw [List.length_map]; exact hZ)).1.elem (j := n) (by rw [List.length_map]; exact hin)).1
                          rw [Nat.zero_add, hzs_getD hin, hy] at h
                          exact h
                        · obtain ⟨g2, c2, e2, h⟩ := At.num (At.imp hZ (Ass.imp.swap _ _ _)) hin
                          simp only [Value.slice.injEq, true_and, Option.some.injEq, Addr.mk.injEq, and_true] at e2
                          obtain ⟨rfl, rfl⟩ := e2
                          rw [hy] at h
                          exact h)
                      clear hS hy
                      go_wp2
                      refine region_held (S := HrS w M.length (some ⟨ge, 0, none⟩) ch (some ⟨gn, 0, none⟩) cl M (emp)) 10 [false, false, false, false, false, false, false, false, false, false] rfl rfl (by kernel_rfl) fun V hW => ?_
                      have hV : HrS w M.length (some ⟨ge, 0, none⟩) ch (some ⟨gn, 0, none⟩) cl M (emp) V := by
                        rw [hW]
                        exact HS.out.lay ((rowE_good _ _ _ _ _).star ((rowA_good _ _ _).star emp_good)) (ha_drew _)
                      clear hW HS
                      refine run_go [(0, hrr0, some 112), (1, hrr1, some 113), (2, hrr2, some 114), (3, hrr3, some 115), (4, hrr4, some 116), (5, hrr5, some 117), (6, hrr6, some 118), (7, hrr7, some 119), (8, hrr8, some 120), (9, hrr9, some 121)] (by kernel_rfl) ?_
                      iterate 10 (refine run_take ?_ rfl rfl (fun _ _ _ h => h) (Or.inl ⟨by rfl, ?_⟩) hV ?_; rotate_left; (· (intro w0 hy0; obtain ⟨y0, y1⟩ := HF.out w0 hy0; (go_simp <;> with_reducible rfl))); simp only [Act.put, List.setIfInBounds_toArray, List.set_cons_zero, List.set_cons_succ])
                      refine run_end ?_
                      refine wpAnyH_done (by kernel_rfl) ?_ _
                      go_wp2
                      go_roundw
                      case rel => exact ⟨n + 1, by omega, by go_num, (show Aside _ from hV)⟩
                      case measure => simp [intOf]; omega
                    · obtain rfl : n = M.length := by omega
                      have hinI : ¬ (M.length : Int) < (M.length : Int) := by omega
                      have HS := Lib.hid hS
                      clear hS
                      go_wp2
                      go_roundw
                      case rel => exact ⟨k + 1, M, ah, ch, al, cl, by omega, by omega, by go_num, rfl, rfl, ⟨hL8, hLn⟩, (show Aside _ from HS.out)⟩
                      case measure => simp [intOf]; omega
          · have HO := Lib.hid (hz_over P rfl hL8 hS)
            go_wp2_with (first
              | (go_at_call 14; (with_reducible refine (lnum _ _).mono ?_); rintro e wn ⟨rfl, rfl⟩)
              | (go_at_call 12; (with_reducible refine HO.out.mono ?_); rintro e w8 ⟨a8, c8, rfl, hb⟩))
            go_ret
            exact ⟨rfl, hab hB hb⟩
        · have HO := Lib.hid (hz_over P rfl hL8 hS)
          go_wp2_with (first
            | (go_at_call 14; (with_reducible refine (lnum _ _).mono ?_); rintro e wn ⟨rfl, rfl⟩)
            | (go_at_call 12; (with_reducible refine HO.out.mono ?_); rintro e w8 ⟨a8, c8, rfl, hb⟩))
          go_ret
          exact ⟨rfl, hab hB hb⟩
end Go.Proofs.Ytikdnmbbiipbjaa
