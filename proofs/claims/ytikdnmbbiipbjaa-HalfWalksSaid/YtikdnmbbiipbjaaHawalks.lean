/- The walk of HalfWalks: those that are half open stay until their time, at most so many; one that is taken is gone. No condition. -/
import Derived.Test.YtikdnmbbiipbjaaHaaw
import Derived.Test.YtikdnmbbiipbjaaHaw
import Derived.Test.YtikdnmbbiipbjaaRun
import Derived.Test.YtikdnmbbiipbjaaIArg
import Derived.Test.YtikdnmbbiipbjaaFplain3
import Derived.Deep.RegionWith
import Derived.Deep.QuietTactic
import Derived.IntWalk
namespace Go.Proofs.Ytikdnmbbiipbjaa
open Go Go.RowKit

theorem hmask (z : Int) : (∃ q : Nat, bits .and .i64 z 3 = (q : Int) ∧ q < 4) ∧ (∃ q : Nat, bits .and .i64 z 7 = (q : Int) ∧ q < 8) ∧ ∃ q : Nat, bits .and .i64 z 63 = (q : Int) ∧ q < 64 := by
  have h2 := i64_mask z 2 (by omega)
  have h3 := i64_mask z 3 (by omega)
  have h6 := i64_mask z 6 (by omega)
  rw [show ((2 ^ 2 - 1 : Nat) : Int) = 3 from by decide, show ((2 ^ 2 : Nat) : Int) = 4 from by decide] at h2
  rw [show ((2 ^ 3 - 1 : Nat) : Int) = 7 from by decide, show ((2 ^ 3 : Nat) : Int) = 8 from by decide] at h3
  rw [show ((2 ^ 6 - 1 : Nat) : Int) = 63 from by decide, show ((2 ^ 6 : Nat) : Int) = 64 from by decide] at h6
  exact ⟨⟨(z % 4).toNat, by rw [h2]; omega, by omega⟩, ⟨(z % 8).toNat, by rw [h3]; omega, by omega⟩, ⟨(z % 64).toNat, by rw [h6]; omega, by omega⟩⟩
theorem haI_good {a : Option Addr} {n c m : Nat} {l : List Value} : (rowE THa 5 (.slice a n c) m l).Good := rowE_good THa 5 (.slice a n c) m l
theorem hdrn (w : World) (n : Nat) : Below w.heap.size w (w.drewN n) := ⟨rfl, rfl, rfl, Nat.le_refl _, fun _ _ => rfl⟩
theorem hnum (n : Int) (w : World) : Calls Try.prog 14 #[.int .i64 n] w fun e w' => e = .returned (.int .i64 n) ∧ w' = w :=
  (lnum n w).mono fun _ _ ⟨a, b⟩ => ⟨a, b.symm⟩
/-- A row without one of its elements: two rows laid behind an empty one. -/
theorem ha_twoC {w wr : World} {C : Ass} (hC : C.Good) {b c2 k : Nat} {all : List Ha} (hsm : all.length ≤ 3518437208878) (hlt : k < all.length)
    (hT : At w ((rowE THa 5 (.slice (some ⟨b, 0, none⟩) all.length c2) all.length (haCells all)).star C) wr) :
    ∃ a4 c4 w4, (Builtin.append_ #[22, 22] 22 #[.slice (some ⟨wr.heap.size, 0, none⟩) 0 0, .slice (some ⟨b, 0, none⟩) k c2]).run Try.prog (wr.alloc (.cells #[] THa)) = .ok (.slice a4 k c4) w4 ∧
      ∀ o2, (o2 = (k + 1) * 5 ∨ k + 1 = all.length) → ∃ a5 c5 w5, (Builtin.append_ #[22, 22] 22 #[.slice a4 k c4, .slice (some ⟨b, o2, none⟩) (all.length - (k + 1)) (c2 - (k + 1))]).run Try.prog w4 = .ok (.slice a5 (k + (all.length - (k + 1))) c5) w5 ∧
        At w ((rowE THa 5 (.slice a5 (all.take k ++ all.drop (k + 1)).length c5) (all.take k ++ all.drop (k + 1)).length (haCells (all.take k ++ all.drop (k + 1)))).star ((rowE THa 5 (.slice (some ⟨b, 0, none⟩) all.length c2) all.length (haCells all)).star C)) w5 ∧ k + (all.length - (k + 1)) = (all.take k ++ all.drop (k + 1)).length := by
  obtain ⟨hat, _⟩ := haAt_row hT
  have hTg := (rowE_good THa 5 (.slice (some ⟨b, 0, none⟩) all.length c2) all.length (haCells all)).star hC
  have hC0 := At.haEmpty hTg hT
  have hatA : HaAt (wr.alloc (.cells #[] THa)) b 0 all := hat.same (((Below.refl wr.heap.size wr).alloc (Nat.le_refl _) _).block b (haAt_row hT).2)
  have hlk : k = (all.take k).length := by rw [List.length_take]; omega
  obtain ⟨a4, c4, w4, hrun, hS4⟩ := ha_grow (c := c2) hTg hC0 (hatA.take k) hlk (by rw [List.length_nil, Nat.zero_add]; omega) 22
  rw [Nat.zero_add] at hrun hS4
  rw [List.nil_append] at hS4
  refine ⟨a4, c4, w4, hrun, fun o2 ho2 => ?_⟩
  have hd4 := (haAt_row hS4.drop).1
  have hat4 : HaAt w4 b o2 (all.drop (k + 1)) := by
    rcases ho2 with rfl | e
    · have h := hd4.drop (k := k + 1) (by omega)
      rwa [Nat.zero_add] at h
    · rw [List.drop_of_length_le (by omega)]
      intro i u hu
      simp [haCells] at hu
  have hlen2 : k + (all.length - (k + 1)) = (all.take k ++ all.drop (k + 1)).length := by rw [List.length_append, List.length_drop, ← hlk]
  obtain ⟨a5, c5, w5, hrun2, hS5⟩ := ha_grow (c := c2 - (k + 1)) hTg hS4 hat4 (k := all.length - (k + 1)) (by rw [List.length_drop]) (by rw [← hlk]; omega) 22
  rw [hlen2] at hS5
  exact ⟨a5, c5, w5, hrun2, hS5, hlen2⟩
abbrev hwr0 : Oper := { dst := some 159, op := Op.move (Operand.tmp 18), type := 26, pos := "more.go:58", after := #[], guard := none }
abbrev hwr1 : Oper := { dst := some 160, op := Op.call { callee := Callee.value (Operand.func 14), args := #[Operand.tmp 159], argTypes := #[26] }, type := 3, pos := "more.go:58", after := #[{ on := 0, ground := Ground.data }], guard := none }
abbrev hwr2 : Oper := { dst := some 161, op := Op.binOp BinOp.neq 3 (Operand.tmp 160) (Operand.const (Value.int IntKind.i64 0)) 3, type := 4, pos := "more.go:58", after := #[{ on := 1, ground := Ground.data }], guard := none }
abbrev hwr3 : Oper := { dst := some 162, op := Op.move (Operand.tmp 161), type := 4, pos := "more.go:58", after := #[{ on := 2, ground := Ground.data }, { on := 1, ground := Ground.chain }], guard := none }
abbrev hwr4 : Oper := { dst := some 163, op := Op.load 24 (Operand.tmp 16), type := 24, pos := "more.go:58", after := #[{ on := 3, ground := Ground.guard }], guard := some (3, false) }
abbrev hwr5 : Oper := { dst := some 164, op := Op.move (Operand.tmp 7), type := 22, pos := "more.go:58", after := #[{ on := 3, ground := Ground.guard }], guard := some (3, false) }
abbrev hwr6 : Oper := { dst := some 165, op := Op.move (Operand.tmp 19), type := 3, pos := "more.go:58", after := #[{ on := 3, ground := Ground.guard }], guard := some (3, false) }
abbrev hwr7 : Oper := { dst := some 166, op := Op.indexAddr 22 (Operand.tmp 164) (Operand.tmp 165), type := 0, pos := "more.go:58", after := #[{ on := 5, ground := Ground.data }, { on := 6, ground := Ground.data }, { on := 3, ground := Ground.guard }], guard := some (3, false) }
abbrev hwr8 : Oper := { dst := some 167, op := Op.load 24 (Operand.tmp 166), type := 24, pos := "more.go:58", after := #[{ on := 7, ground := Ground.data }, { on := 3, ground := Ground.guard }], guard := some (3, false) }
abbrev hwr9 : Oper := { dst := some 168, op := Op.binOp BinOp.neq 24 (Operand.tmp 163) (Operand.tmp 167) 24, type := 4, pos := "more.go:58", after := #[{ on := 4, ground := Ground.data }, { on := 8, ground := Ground.data }, { on := 3, ground := Ground.guard }], guard := some (3, false) }
abbrev hwr10 : Oper := { dst := some 169, op := Op.pick (Operand.tmp 162) (Operand.const (Value.bool true)) (Operand.tmp 168), type := 4, pos := "more.go:58", after := #[{ on := 3, ground := Ground.data }, { on := 9, ground := Ground.data }], guard := none }
/-- The walk's own memory while it looks whether the one that was taken is the row's. -/
def HwS (w : World) (R T es : List Ha) (ar : Value) (b4 : Nat) (a4 : Option Addr) (ah : Option Addr) (ch px : Nat) (X : Ha) (Z : World) : Prop := At w ((rowE THa 5 ar R.length (haCells R)).star ((rowE THa 5 (.slice a4 T.length b4) T.length (haCells T)).star ((rowE THa 5 (.slice ah es.length ch) es.length (haCells es)).star emp))) Z ∧ Blk Z px (haB X)
set_option maxRecDepth 100000 in
set_option maxHeartbeats 64000000 in
theorem hwalks_walk (P : HalvesOk) (ao : Option Addr) (cap : Nat) (cs : List Int) (most : Int) (w : World) (hA : IArg w ao cs) :
    Calls Try.prog 4 #[.slice ao cs.length cap, .int .i64 most] w fun e w' => e = .returned (.bool true) ∧ Below w.heap.size w w' := by
  have HA := Lib.hid hA
  have hfew := hA.few
  clear hA
  have hu0 : 0 ≤ IntKind.u64.wrap most := by rw [IntKind.wrap_u64]; omega
  have q0 : 0 ≤ (IntKind.u64.wrap most).tmod 8 := by rw [Int.tmod_eq_emod_of_nonneg hu0]; omega
  have q8 : (IntKind.u64.wrap most).tmod 8 < 8 := by rw [Int.tmod_eq_emod_of_nonneg hu0]; omega
  generalize hq : (IntKind.u64.wrap most).tmod 8 = q at q0 q8
  clear hu0
  go_enter Try.func4, Try.ntmps4
  go_wp2_with (go_at_call 18; (with_reducible refine (awake18 P _).mono ?_); rintro e w1 ⟨rfl, hB⟩)
  go_loopw [6, 7, 8, 9] (fun h r at' i wr => ∃ (k : Nat) (es rs : List Ha) (ah : Option Addr) (ch : Nat) (ar : Option Addr) (cr : Nat) (t : Int), k ≤ cs.length ∧ k ≤ 60 ∧ i = .int .i64 (k : Int) ∧ h = .slice ah es.length ch ∧ r = .slice ar rs.length cr ∧ at' = .int .i64 t ∧ 0 ≤ t ∧ t ≤ 3 * (k : Int) ∧ es.length ≤ k ∧ rs.length ≤ k ∧ Aside (haLeft es t = rs ∧ HaUp rs k ∧ At w ((rowE THa 5 (.slice ar rs.length cr) rs.length (haCells rs)).star ((rowE THa 5 (.slice ah es.length ch) es.length (haCells es)).star emp)) wr)) (fun _ _ _ i _ => cs.length - (intOf i).toNat)
  case atStart => exact ⟨0, [], [], none, 0, none, 0, 0, Nat.zero_le _, by omega, rfl, rfl, rfl, rfl, by omega, by omega, by simp, by simp, (show Aside _ from ⟨rfl, HaUp.nil _, At.erow0 THa 5 (At.erow0 THa 5 (At.none hB))⟩)⟩
  case round =>
    clear hB
    obtain ⟨k, es, rs, ah, ch, ar, cr, t, hk, hk6, rfl, rfl, rfl, rfl, t0, t1, le, lr, hall⟩ := hrel
    obtain ⟨hL, hU, hS⟩ := hall.out
    clear hall
    have hB := hS.bel
    by_cases hlt : k < cs.length
    · by_cases h60 : k < 60
      · obtain ⟨b0, off0, z, rfl, hz, hzb, hcz⟩ := HA.out.at hlt
        have HZ := Lib.hid hcz
        have c0 := hcz _ hB
        have c0d := hcz wr.drew ⟨hB.os, hB.tape, hB.output, hB.size, hB.block⟩
        clear hcz hz
        obtain ⟨⟨d, hd, d4⟩, -, -⟩ := hmask z
        obtain ⟨⟨y, hy, y4⟩, -, -⟩ := hmask (z / 4)
        obtain ⟨-, ⟨v, hv, v8⟩, ⟨x, hx, x64⟩⟩ := hmask (z / 16)
        have HS := Lib.hid hS
        have HU := Lib.hid hU
        have HL := Lib.hid hL
        clear hS hU hL hB
        go_wp2
        obtain ⟨t2, hts⟩ : ∃ t2, t + (d : Int) = t2 := ⟨_, rfl⟩
        rw [hts, show decide ((k : Int) < 60) = true from decide_eq_true (by omega)]
        have u0 : t ≤ t2 := by omega
        have u1 : t2 ≤ 3 * ((k : Int) + 1) := by omega
        go_loopw [10, 11] (fun l j wr => ∃ (c : Nat) (a3 : Option Addr) (c3 : Nat), c ≤ rs.length ∧ j = .int .i64 (c : Int) ∧ l = .slice a3 (haLeft (rs.take c) t2).length c3 ∧ Aside (At w ((rowE THa 5 (.slice a3 (haLeft (rs.take c) t2).length c3) (haLeft (rs.take c) t2).length (haCells (haLeft (rs.take c) t2))).star ((rowE THa 5 (.slice ar rs.length cr) rs.length (haCells rs)).star ((rowE THa 5 (.slice ah es.length ch) es.length (haCells es)).star emp))) wr)) (fun _ j _ => rs.length - (intOf j).toNat)
        case atStart => exact ⟨0, none, 0, Nat.zero_le _, rfl, rfl, (show Aside _ from At.erow0 THa 5 HS.out)⟩
        case round =>
          clear HS c0 c0d
          obtain ⟨c, a3, c3, hc, rfl, rfl, hall⟩ := hrel
          have hS := hall.out
          clear hall
          by_cases hin : c < rs.length
          · have hI := hS.drop.haIn rfl (by omega)
            obtain ⟨b, off, a, rfl, ha, hcell⟩ := hI.elem hin
            obtain ⟨y0, y1, y2, y3, y4⟩ := hcell _ (Below.refl _ _)
            have hT := haLeft_take hin ha t2
            have hsmall : (haLeft (rs.take c) t2).length ≤ c := Nat.le_trans (haLeft_len _ _) (by rw [List.length_take]; omega)
            have hinI : (c : Int) < (rs.length : Int) := by omega
            obtain ⟨f0, f1, f2, f3, f4⟩ := a
            dsimp only at y0 y1 y2 y3 y4 hT
            have HS := Lib.hid hS
            clear hS ha hcell hI
            by_cases hkeep : t2 < f4
            · rw [if_pos hkeep] at hT
              have HT := Lib.hid hT
              clear hT
              generalize haLeft (rs.take c) t2 = ls at *
              have hfew2 : ls.length + 1 ≤ 3518437208883 := by omega
              go_wp2_with (at_builtin; refine ha_appLit (haI_good.star (haI_good.star emp_good)) rfl _ _ rfl a3 ls.length c3 ls [⟨f0, f1, f2, f3, f4⟩] 1 rfl rfl rfl rfl HS.out hfew2 ?_; intro a4 c4 w4 hS4; have H4 := Lib.hid hS4; clear hS4)
              go_roundw
              case rel => exact ⟨c + 1, a4, c4, by omega, by go_num, by rw [HT.out, List.length_append]; rfl, (show Aside _ from by rw [HT.out]; have h := H4.out; rw [List.length_append] at h ⊢; exact h)⟩
              case measure => simp [intOf]; omega
            · rw [if_neg hkeep] at hT
              have HT := Lib.hid hT
              clear hT
              go_wp2
              go_roundw
              case rel => exact ⟨c + 1, a3, c3, by omega, by go_num, by rw [HT.out], (show Aside _ from by rw [HT.out]; exact HS.out)⟩
              case measure => simp [intOf]; omega
          · obtain rfl : c = rs.length := by omega
            have hinI : ¬ (rs.length : Int) < (rs.length : Int) := by omega
            rw [List.take_length] at hS ⊢
            have hLL : haLeft es t2 = haLeft rs t2 := by rw [← HL.out]; exact (haLeft_twice (by omega)).symm
            have hUU := HU.out.left t2
            have hlen : (haLeft rs t2).length ≤ k := Nat.le_trans (haLeft_len _ _) lr
            have hS2 := (hS.imp (Ass.imp.swap _ _ _)).drop
            clear hS hin HU HL
            generalize hRR : haLeft rs t2 = R at *
            have HS2 := Lib.hid hS2
            have HU2 := Lib.hid hUU
            have HL2 := Lib.hid hLL
            have c0 := HZ.out _ hS2.bel
            clear hS2 hUU hLL
            obtain ⟨-, ⟨g, hg, g8⟩, -⟩ := hmask (k : Int)
            obtain ⟨f, hf⟩ : ∃ f, t2 + 1 + (v : Int) = f := ⟨_, rfl⟩
            by_cases hyy : 0 < y
            · have hyI : 0 < (y : Int) := by omega
              by_cases hfull : 1 + q ≤ (R.length : Int)
              · have H1 := Lib.hid (haAdd_full (es := es) (h := ⟨(k : Int), (g : Int), 0, 0, f⟩) (m := 1 + q) (t := t2) (by omega) (by omega) (by show t2 < f; omega) (by rw [HL2.out]; exact hfull))
                go_wp2_with (first
                  | (go_at_call 8; (with_reducible refine (P.adds (cap := ch) ((HS2.out.drop.haIn rfl (by omega)).on (habox _ _)) (by omega) H1.out.2 rfl H1.out.1).mono ?_); rintro e w4 ⟨a4, c4, rfl, -, hb⟩; have H4 := Lib.hid (HS2.out.lay (haI_good.star (haI_good.star emp_good)) (hab (habox _ _) hb)); clear hb)
                  | (go_at_call 14; (with_reducible refine (lnum _ _).mono ?_); rintro e wn ⟨rfl, rfl⟩))
                go_roundw
                case rel => exact ⟨k + 1, es, R, ah, ch, a3, c3, t2, by omega, by omega, by go_num, rfl, rfl, rfl, by omega, by omega, by omega, by omega, (show Aside _ from ⟨HL2.out, HU2.out.mono (by omega), H4.out⟩)⟩
                case measure => simp [intOf]; omega
              · have hroom : ((haLeft es t2).length : Int) < 1 + q := by rw [HL2.out]; omega
                obtain ⟨p1, p2⟩ := haAdd_room (es := es) (h := ⟨(k : Int), (g : Int), 0, 0, f⟩) (m := 1 + q) (t := t2) (by omega) (by omega) (by show t2 < f; omega) hroom
                rw [HL2.out] at p2
                have hleft : haLeft (R ++ [⟨(k : Int), (g : Int), 0, 0, f⟩]) t2 = R ++ [⟨(k : Int), (g : Int), 0, 0, f⟩] := by rw [← HL2.out]; exact haLeft_snoc (by show t2 < f; omega)
                have HV := Lib.hid (And.intro hleft (HU2.out.snoc (a := ⟨(k : Int), (g : Int), 0, 0, f⟩) rfl))
                have HP := Lib.hid (fun (W : World) (h : HaIn [] W ah es.length es) => by have := P.add (cap := ch) h (by omega) (k : Int) (g : Int) 0 0 f (1 + q) t2; rw [p1, p2] at this; exact this)
                have hone : (R ++ [(⟨(k : Int), (g : Int), 0, 0, f⟩ : Ha)]).length = R.length + 1 := by rw [List.length_append]; rfl
                have hfew2 : R.length + 1 ≤ 3518437208883 := by omega
                clear hroom p1 p2 hleft
                go_wp2_with (first
                  | (go_at_call 8; (with_reducible refine (HP.out _ ((HS2.out.drop.haIn rfl (by omega)).on (habox _ _))).mono ?_); rintro e w4 ⟨a4, c4, rfl, hq⟩; have hS4 := (HaNew.front (haI_good.star (haI_good.star emp_good)) (HS2.out.lay (haI_good.star (haI_good.star emp_good)) (habox _ _)) hq).imp (Ass.imp.swap _ _ _); have kb := ((Blk.new wr #[.int .i64 (k : Int), .int .i64 (g : Int), .int .i64 0, .int .i64 0, .int .i64 f] THa).step hq.bel).cell; clear hq)
                  | (go_at_call 14; (with_reducible refine (lnum _ _).mono ?_); rintro e wn ⟨rfl, rfl⟩)
                  | (at_builtin; refine ha_appLit (haI_good.star (haI_good.star emp_good)) rfl _ _ rfl a3 R.length c3 R [⟨(k : Int), (g : Int), 0, 0, f⟩] 1 rfl rfl rfl rfl hS4 hfew2 ?_; intro a5 c5 w5 hS5)
                  | (go_at_call 13; (with_reducible refine (ha_yes (show HaIn [] w5 a4 (R.length + 1) (R ++ [⟨(k : Int), (g : Int), 0, 0, f⟩]) from hone ▸ hS5.drop.haIn rfl (by rw [hone]; exact hfew2)) (hS5.haIn hone.symm (by rw [hone]; exact hfew2))).mono ?_); rintro e w6 ⟨rfl, hb⟩; have H5 := Lib.hid ((hS5.lay (haI_good.star (haI_good.star (haI_good.star emp_good))) hb).imp ((Ass.imp.up2 _ _ _ _))).drop; clear hb hS5))
                go_roundw
                case rel => exact ⟨k + 1, _, _, a4, c4, a5, c5, t2, by omega, by omega, by go_num, by rw [hone], by rw [hone], rfl, by omega, by omega, by rw [hone]; omega, by rw [hone]; omega, (show Aside _ from ⟨HV.out.1, HV.out.2, by have h := H5.out; rw [hone] at h ⊢; exact h⟩)⟩
                case measure => simp [intOf]; omega
            · obtain rfl : y = 0 := by omega
              by_cases hw : 0 ≤ haWh (x : Int) R
              · obtain ⟨j, -, hj1, hj2, p1, p2, p3⟩ := haWh_some (k := (x : Int)) (es := es) (t := t2) (by rw [HL2.out]; exact hw)
                rw [HL2.out] at hj1 hj2 p2 p3
                have hcut : haLeft (R.take j ++ R.drop (j + 1)) t2 = R.take j ++ R.drop (j + 1) := by rw [← HL2.out]; exact haLeft_cut j
                have HV := Lib.hid (And.intro hcut (HU2.out.cut j))
                obtain ⟨X, hX⟩ : ∃ X, R.getD j Ha.none = X := ⟨_, rfl⟩
                rw [hX] at p2
                have HX := Lib.hid hX
                obtain ⟨T, hTT⟩ : ∃ T, R.take j ++ R.drop (j + 1) = T := ⟨_, rfl⟩
                have HTT := Lib.hid hTT
                have hTl : T.length + 1 = R.length := by rw [← hTT, List.length_append, List.length_take, List.length_drop]; omega
                rw [hTT] at p3 HV
                have HJ := Lib.hid hj1
                have HP := Lib.hid (fun (W : World) (h : HaIn [] W ah es.length es) => by have := P.take (cap := ch) h (by omega) (x : Int) t2; rw [p1, p2, p3] at this; exact this)
                clear hcut hX hTT p1 p2 p3 hj1 hw
                go_wp2_with (go_at_call 10; (with_reducible refine (HP.out _ (HS2.out.drop.haIn rfl (by omega))).mono ?_); rintro e w4 ⟨a4, b4, rfl, hq⟩; have H4 := Lib.hid (And.intro ((HaNew.front (haI_good.star (haI_good.star emp_good)) HS2.out hq).lay (haI_good.star (haI_good.star (haI_good.star emp_good))) (habox w4 (haB X))) (Blk.new w4 (haB X) THa)); clear hq)
                generalize w4.heap.size = px at *
                go_loopw [19, 20] (fun wv j WV => ∃ c : Nat, c ≤ R.length ∧ j = .int .i64 (c : Int) ∧ wv = .int .i64 (haWh (x : Int) (R.take c)) ∧ Aside (At w ((rowE THa 5 (.slice a4 T.length b4) T.length (haCells T)).star ((rowE THa 5 (.slice a3 R.length c3) R.length (haCells R)).star ((rowE THa 5 (.slice ah es.length ch) es.length (haCells es)).star emp))) WV ∧ Blk WV px (haB X))) (fun _ j _ => R.length - (intOf j).toNat)
                case atStart => exact ⟨0, Nat.zero_le _, rfl, rfl, (show Aside _ from H4.out)⟩
                case round =>
                  clear H4
                  obtain ⟨c, hc, rfl, rfl, hall⟩ := hrel
                  have hS := hall.out
                  clear hall
                  by_cases hin : c < R.length
                  · have hI : HaIn [] wr a3 R.length R := hS.1.drop.haIn rfl (by omega)
                    obtain ⟨b, off, a, rfl, ha, hcell⟩ := hI.elem hin
                    obtain ⟨z0, -⟩ := hcell _ (Below.refl _ _)
                    have hinI : (c : Int) < (R.length : Int) := by omega
                    have HS := Lib.hid hS
                    by_cases hax : a.h = (x : Int)
                    · have HH := Lib.hid (show haWh (x : Int) (R.take (c + 1)) = (c : Int) from by rw [← hax]; exact haWh_hit HU2.out hin ha)
                      rw [hax] at z0
                      clear hS ha hcell hI hax
                      go_wp2
                      go_roundw
                      case rel => exact ⟨c + 1, by omega, by go_num, by rw [HH.out], (show Aside _ from HS.out)⟩
                      case measure => simp [intOf]; omega
                    · have HH := Lib.hid (haWh_miss hin ha hax)
                      clear hS ha hcell hI
                      go_wp2
                      go_roundw
                      case rel => exact ⟨c + 1, by omega, by go_num, by rw [HH.out], (show Aside _ from HS.out)⟩
                      case measure => simp [intOf]; omega
                  · obtain rfl : c = R.length := by omega
                    have hinI : ¬ (R.length : Int) < (R.length : Int) := by omega
                    rw [List.take_length]
                    rw [HJ.out]
                    obtain ⟨hS, kx⟩ := hS
                    have hS1 := hS.imp (Ass.imp.swap _ _ _)
                    obtain ⟨b, rfl, -, hcap⟩ := ha_big hS1 (by omega)
                    have HF := Lib.hid (fun (Z : World) (hZ : At w ((rowE THa 5 (.slice (some ⟨b, 0, none⟩) R.length c3) R.length (haCells R)).star ((rowE THa 5 (.slice a4 T.length b4) T.length (haCells T)).star ((rowE THa 5 (.slice ah es.length ch) es.length (haCells es)).star emp))) Z) => show Z.cell? ⟨b, j * 5, none⟩ = some (.int .i64 X.h) ∧ Z.cell? ⟨b, j * 5 + 1, none⟩ = some (.int .i64 X.u) ∧ Z.cell? ⟨b, j * 5 + 2, none⟩ = some (.int .i64 X.c) ∧ Z.cell? ⟨b, j * 5 + 3, none⟩ = some (.int .i64 X.s) ∧ Z.cell? ⟨b, j * 5 + 4, none⟩ = some (.int .i64 X.t) from by
                      have h := (haAt_row hZ).1.elem hj2
                      simpa only [HX.out, Nat.zero_add] using h)
                    have HS1 := Lib.hid (show HwS w R T es (.slice (some ⟨b, 0, none⟩) R.length c3) b4 a4 ah ch px X wr from ⟨hS1, kx⟩)
                    clear hS hS1 kx
                    have hjn0 : ¬ (j : Int) < 0 := by omega
                    have hjR0 : (j : Int) < (R.length : Int) := by omega
                    go_wp2
                    refine region_held (S := HwS w R T es (.slice (some ⟨b, 0, none⟩) R.length c3) b4 a4 ah ch px X) 11 [false, false, false, false, false, false, false, false, false, false, false] rfl rfl (by kernel_rfl) fun V hW => ?_
                    have hV : HwS w R T es (.slice (some ⟨b, 0, none⟩) R.length c3) b4 a4 ah ch px X V := by
                      rw [hW]
                      exact ⟨HS1.out.1.lay (haI_good.star (haI_good.star (haI_good.star emp_good))) (ha_drew _), HS1.out.2.step (ha_drew _)⟩
                    clear hW HS1
                    refine run_go [(0, hwr0, some 159)] (by kernel_rfl) ?_
                    iterate 1 (refine run_take ?_ rfl rfl (fun _ _ _ h => h) (Or.inl ⟨by rfl, ?_⟩) hV ?_; rotate_left; (· (intro w0 hy0; obtain ⟨y0, y1, y2, y3, y4⟩ := HF.out w0 hy0.1; have ex := hy0.2.cell; (go_simp <;> with_reducible rfl))); simp only [Act.put, List.setIfInBounds_toArray, List.set_cons_zero, List.set_cons_succ])
                    refine run_end ?_
                    refine held_call 1 hwr1 (some 160) (.int .i64 0) (HwS w R T es (.slice (some ⟨b, 0, none⟩) R.length c3) b4 a4 ah ch px X) 14 #[.int .i64 0] (by kernel_rfl) rfl rfl (by rfl) (by go_simp <;> with_reducible rfl) ((lnum _ _).mono fun e w' ⟨a, c⟩ => ⟨a, c ▸ hV⟩) (fun _ e => e) ?_
                    intro V1 hV1
                    simp only [Act.put, List.setIfInBounds_toArray, List.set_cons_zero, List.set_cons_succ]
                    refine run_go [(2, hwr2, some 161), (3, hwr3, some 162), (4, hwr4, some 163), (5, hwr5, some 164), (6, hwr6, some 165), (7, hwr7, some 166), (8, hwr8, some 167), (9, hwr9, some 168), (10, hwr10, some 169)] (by kernel_rfl) ?_
                    iterate 9 (refine run_take ?_ rfl rfl (fun _ _ _ h => h) (Or.inl ⟨by rfl, ?_⟩) hV1 ?_; rotate_left; (· (intro w0 hy0; obtain ⟨y0, y1, y2, y3, y4⟩ := HF.out w0 hy0.1; have ex := hy0.2.cell; (go_simp <;> with_reducible rfl))); simp only [Act.put, List.setIfInBounds_toArray, List.set_cons_zero, List.set_cons_succ])
                    refine run_end ?_
                    refine wpAnyH_done (by kernel_rfl) ?_ _
                    obtain ⟨a5, c5, w5, hrun, hrest⟩ := ha_twoC (haI_good.star (haI_good.star emp_good)) (by omega) hj2 hV1.1
                    have hcI : (R.length : Int) ≤ (c3 : Int) := by omega
                    have hwk : IntKind.i64.wrap ((j : Int) + 1) = (j : Int) + 1 := by rw [IntKind.wrap_i64]; omega
                    have hk1 : (j : Int) + 1 ≤ (R.length : Int) := by omega
                    have hjn : ¬ (j : Int) < 0 := by omega
                    have hjR : (j : Int) < (R.length : Int) := by omega
                    have hone : j + (R.length - (j + 1)) = T.length := by omega
                    by_cases hne : c3 = j + 1
                    · obtain ⟨a6, c6, w6, hrun2, hS6, -⟩ := hrest 0 (.inr (by omega))
                      rw [HTT.out] at hS6
                      rw [hone] at hrun2
                      replace hS6 := (((hS6.imp (Ass.imp.swap _ _ _)).drop).imp (Ass.imp.up2 _ _ _ _)).drop
                      clear hrest
                      go_wp2_with (first
                        | (at_builtin; first
                          | refine ha_app rfl _ _ rfl rfl rfl hrun ?_
                          | refine ha_app rfl _ _ rfl rfl rfl hrun2 ?_)
                        | (go_at_call 14; (with_reducible refine (lnum _ _).mono ?_); rintro e wn ⟨rfl, rfl⟩)
                        | (go_at_call 12; (with_reducible refine (P.expires (hS6.drop.haIn rfl (by omega)) (by omega) HV.out.1 rfl).mono ?_); rintro e w8 ⟨a8, c8, rfl, hE, hb⟩; replace hS6 := hS6.lay (haI_good.star (haI_good.star emp_good)) hb; clear hb)
                        | (go_at_call 13; first
                          | ((with_reducible refine (ha_yes (hS6.drop.haIn rfl (by omega)) (hS6.haIn rfl (by omega))).mono ?_); rintro e w7 ⟨rfl, hb⟩; replace hS6 := hS6.lay (haI_good.star (haI_good.star emp_good)) hb; clear hb)
                          | ((with_reducible refine (ha_yes hE (hS6.haIn rfl (by omega))).mono ?_); rintro e w9 ⟨rfl, hb⟩; have H6 := Lib.hid (hS6.lay (haI_good.star (haI_good.star emp_good)) hb); clear hb hS6)))
                      go_roundw
                      case rel => exact ⟨k + 1, T, T, a4, b4, a6, c6, t2, by omega, by omega, by go_num, rfl, rfl, rfl, by omega, by omega, by omega, by omega, (show Aside _ from ⟨HV.out.1, HV.out.2.mono (by omega), H6.out⟩)⟩
                      case measure => simp [intOf]; omega
                    · obtain ⟨a6, c6, w6, hrun2, hS6, -⟩ := hrest _ (.inl rfl)
                      rw [HTT.out] at hS6
                      rw [hone] at hrun2
                      replace hS6 := (((hS6.imp (Ass.imp.swap _ _ _)).drop).imp (Ass.imp.up2 _ _ _ _)).drop
                      clear hrest
                      go_wp2_with (first
                        | (at_builtin; first
                          | refine ha_app rfl _ _ rfl rfl rfl hrun ?_
                          | refine ha_app rfl _ _ rfl rfl rfl hrun2 ?_)
                        | (go_at_call 14; (with_reducible refine (lnum _ _).mono ?_); rintro e wn ⟨rfl, rfl⟩)
                        | (go_at_call 12; (with_reducible refine (P.expires (hS6.drop.haIn rfl (by omega)) (by omega) HV.out.1 rfl).mono ?_); rintro e w8 ⟨a8, c8, rfl, hE, hb⟩; replace hS6 := hS6.lay (haI_good.star (haI_good.star emp_good)) hb; clear hb)
                        | (go_at_call 13; first
                          | ((with_reducible refine (ha_yes (hS6.drop.haIn rfl (by omega)) (hS6.haIn rfl (by omega))).mono ?_); rintro e w7 ⟨rfl, hb⟩; replace hS6 := hS6.lay (haI_good.star (haI_good.star emp_good)) hb; clear hb)
                          | ((with_reducible refine (ha_yes hE (hS6.haIn rfl (by omega))).mono ?_); rintro e w9 ⟨rfl, hb⟩; have H6 := Lib.hid (hS6.lay (haI_good.star (haI_good.star emp_good)) hb); clear hb hS6)))
                      go_roundw
                      case rel => exact ⟨k + 1, T, T, a4, b4, a6, c6, t2, by omega, by omega, by go_num, rfl, rfl, rfl, by omega, by omega, by omega, by omega, (show Aside _ from ⟨HV.out.1, HV.out.2.mono (by omega), H6.out⟩)⟩
                      case measure => simp [intOf]; omega
              · have hw0 : haWh (x : Int) R < 0 := by omega
                have H1 := Lib.hid (haWh_none (k := (x : Int)) (es := es) (t := t2) (by rw [HL2.out]; exact hw0))
                go_wp2_with (go_at_call 10; (with_reducible refine (P.takes (cap := ch) (HS2.out.drop.haIn rfl (by omega)) (by omega) H1.out.2.1 H1.out.2.2 rfl H1.out.1).mono ?_); rintro e w4 ⟨a4, c4, rfl, -, hb⟩; have H4 := Lib.hid (HS2.out.lay (haI_good.star (haI_good.star emp_good)) (hal hb (.cells (haB Ha.none) THa))); clear hb)
                go_loopw [19, 20] (fun wv j WV => ∃ c : Nat, c ≤ R.length ∧ j = .int .i64 (c : Int) ∧ wv = .int .i64 (haWh (x : Int) (R.take c)) ∧ Aside (At w ((rowE THa 5 (.slice a3 R.length c3) R.length (haCells R)).star ((rowE THa 5 (.slice ah es.length ch) es.length (haCells es)).star emp)) WV)) (fun _ j _ => R.length - (intOf j).toNat)
                case atStart => exact ⟨0, Nat.zero_le _, rfl, rfl, (show Aside _ from H4.out)⟩
                case round =>
                  clear H4
                  obtain ⟨c, hc, rfl, rfl, hall⟩ := hrel
                  have hS := hall.out
                  clear hall
                  by_cases hin : c < R.length
                  · have hI : HaIn [] wr a3 R.length R := hS.haIn rfl (by omega)
                    obtain ⟨b, off, a, rfl, ha, hcell⟩ := hI.elem hin
                    obtain ⟨z0, -⟩ := hcell _ (Below.refl _ _)
                    have hinI : (c : Int) < (R.length : Int) := by omega
                    have HS := Lib.hid hS
                    by_cases hax : a.h = (x : Int)
                    · have HH := Lib.hid (show haWh (x : Int) (R.take (c + 1)) = (c : Int) from by rw [← hax]; exact haWh_hit HU2.out hin ha)
                      rw [hax] at z0
                      clear hS ha hcell hI hax
                      go_wp2
                      go_roundw
                      case rel => exact ⟨c + 1, by omega, by go_num, by rw [HH.out], (show Aside _ from HS.out)⟩
                      case measure => simp [intOf]; omega
                    · have HH := Lib.hid (haWh_miss hin ha hax)
                      clear hS ha hcell hI
                      go_wp2
                      go_roundw
                      case rel => exact ⟨c + 1, by omega, by go_num, by rw [HH.out], (show Aside _ from HS.out)⟩
                      case measure => simp [intOf]; omega
                  · obtain rfl : c = R.length := by omega
                    have hinI : ¬ (R.length : Int) < (R.length : Int) := by omega
                    rw [List.take_length]
                    have HS := Lib.hid hS
                    clear hS
                    generalize haWh (x : Int) R = wx at *
                    go_wp2_with (go_at_call 14; (with_reducible refine (lnum _ _).mono ?_); rintro e wn ⟨rfl, rfl⟩)
                    go_roundw
                    case rel => exact ⟨k + 1, es, R, ah, ch, a3, c3, t2, by omega, by omega, by go_num, rfl, rfl, rfl, by omega, by omega, by omega, by omega, (show Aside _ from ⟨HL2.out, HU2.out.mono (by omega), HS.out⟩)⟩
                    case measure => simp [intOf]; omega
      · go_wp2
        go_ret
        exact ⟨rfl, hB⟩
    · go_wp2
      go_ret
      exact ⟨rfl, hB⟩
end Go.Proofs.Ytikdnmbbiipbjaa
