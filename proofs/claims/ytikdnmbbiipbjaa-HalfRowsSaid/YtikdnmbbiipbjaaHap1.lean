/- Package half: what its calls answer. Condition: the row's size. -/
import Derived.Test.YtikdnmbbiipbjaaHal
import Derived.Test.YtikdnmbbiipbjaaRowCut
namespace Go.Proofs.Ytikdnmbbiipbjaa
open Go Go.RowKit

theorem ha_of {w : World} {c : Array Value} {W : World} (h : Below (w.alloc (.cells c THa)).heap.size (w.alloc (.cells c THa)) W) : Below w.heap.size w W := (habox w c).trans (h.mono (habox w c).size)
theorem pwaits (f0 f1 f2 f3 f4 t : Int) (W : World) : Calls Try.prog 20 #[.agg #[.int .i64 f0, .int .i64 f1, .int .i64 f2, .int .i64 f3, .int .i64 f4], .int .i64 t] W fun e w' => e = .returned (.bool (decide (t < f4))) ∧ w' = W.alloc (.cells #[.int .i64 f0, .int .i64 f1, .int .i64 f2, .int .i64 f3, .int .i64 f4] THa) := by
  go_enter Try.func20, Try.ntmps20
  go_wp2
  go_ret
  exact ⟨rfl, rfl⟩
theorem ha_appLit2 {w0 W : World} {C : Ass} {ops : Array Oper} {rest : List Oper} {o : Oper} {a : Act} {Q : Exit → Act → World → Prop} (hC : C.Good) (hgd : o.guard = Option.none) (s x : Operand)
    (ho : o.op = .call { callee := .builtin .append, args := #[s, x], argTypes := #[22, 22] }) (ao : Option Addr) (n cap : Nat) (es fs : List Ha) (k p : Nat) (hs : a.eval s = .slice ao n cap) (hx : a.eval x = .slice (some ⟨p, 0, Option.none⟩) k k) (hp : W.heap.size = p) (hk : k = fs.length) {cs : Array Value} (hcs : cs = (haCells fs).toArray)
    (hS : At w0 ((rowE THa 5 (.slice ao n cap) es.length (haCells es)).star C) W) (hn : es.length + k ≤ 3518437208883) (h : ∀ a2 c2 w', At w0 ((rowE THa 5 (.slice a2 (n + k) c2) (es ++ fs).length (haCells (es ++ fs))).star C) w' → wpList Try.prog ops Q rest (a.put o.dst (.slice a2 (n + k) c2)) w') :
    wpList Try.prog ops Q (o :: rest) a (W.alloc (.cells cs 24)) := by
  subst hp
  exact ha_appLit hC hgd s x ho ao n cap es fs k hs hx hk hcs hS hn h
set_option maxRecDepth 100000 in
set_option maxHeartbeats 4000000 in
theorem pexpire {w : World} {ao : Option Addr} {n cap : Nat} {es : List Ha} (hes : HaIn [] w ao n es) (hn : n ≤ 3518437208878) (t : Int) :
    Calls Try.prog 12 #[.slice ao n cap, .int .i64 t] w (HaRow w (haLeft es t)) := by
  have HE := Lib.hid (fun k (hk : k < n) => hes.elem (k := k) hk)
  have HL := Lib.hid hes.len
  have hS0 := At.erow0 THa 5 (At.none (Below.refl w.heap.size w))
  have hfew := hes.few
  clear hes
  go_enter Try.func12, Try.ntmps12
  go_wp2
  go_loopw [5, 10] (fun s i wr => ∃ (k : Nat) (a3 : Option Addr) (c3 : Nat), k ≤ n ∧ i = .int .i64 (k : Int) ∧ s = .slice a3 (haLeft (es.take k) t).length c3 ∧ HaNew w (haLeft (es.take k) t) a3 c3 wr) (fun _ i _ => n - (intOf i).toNat)
  case atStart => exact ⟨0, none, 0, Nat.zero_le _, rfl, rfl, hS0⟩
  case round =>
    clear hS0
    obtain ⟨k, a3, c3, hk, rfl, rfl, hS⟩ := hrel
    by_cases hlt : k < n
    · obtain ⟨b, off, a, rfl, ha, hcell⟩ := HE.out k hlt
      obtain ⟨x0, x1, x2, x3, x4⟩ := hcell _ (At.bel hS)
      have hT := haLeft_take (k := k) (by rw [← HL.out]; exact hlt) ha t
      have hsmall : (haLeft (es.take k) t).length ≤ k := Nat.le_trans (haLeft_len _ _) (by rw [List.length_take]; omega)
      obtain ⟨f0, f1, f2, f3, f4⟩ := a
      dsimp only at x0 x1 x2 x3 x4 hT
      have hS' : At w ((rowE THa 5 (.slice a3 (haLeft (es.take k) t).length c3) (haLeft (es.take k) t).length (haCells (haLeft (es.take k) t))).star emp) (((wr.alloc (.cells #[.int .i64 f0, .int .i64 f1, .int .i64 f2, .int .i64 f3, .int .i64 f4] THa))).alloc (.cells #[.int .i64 f0, .int .i64 f1, .int .i64 f2, .int .i64 f3, .int .i64 f4] THa)) := (At.lay1 ((rowE_good _ _ _ _ _).star emp_good) (At.lay1 ((rowE_good _ _ _ _ _).star emp_good) hS _) _)
      have HS := Lib.hid hS'
      have HW := Lib.hid (pwaits f0 f1 f2 f3 f4 t)
      clear hS hS' ha hcell
      by_cases hc : t < f4
      · rw [if_pos hc] at hT
        have HT := Lib.hid hT
        rw [decide_eq_true hc] at HW
        clear hT hc
        generalize haLeft (es.take k) t = ls at *
        have hfew2 : ls.length + 1 ≤ 3518437208883 := by omega
        go_wp2_with (first
          | (go_at_call 20; (with_reducible refine (HW.out _).mono ?_); rintro e w1 ⟨rfl, rfl⟩)
          | (at_builtin; refine ha_appLit2 emp_good rfl _ _ rfl a3 ls.length c3 ls [⟨f0, f1, f2, f3, f4⟩] 1 (wr.heap.size + 1 + 1) rfl rfl (by simp) rfl rfl HS.out hfew2 ?_; intro a4 c4 w4 hS4; have H4 := Lib.hid hS4; clear hS4))
        go_roundw
        case rel => exact ⟨k + 1, a4, c4, by omega, by go_num, by rw [HT.out, List.length_append]; rfl, by rw [HT.out]; unfold HaNew; have h := H4.out; rw [List.length_append] at h ⊢; exact h⟩
        case measure => simp [intOf]; omega
      · rw [if_neg hc] at hT
        have HT := Lib.hid hT
        rw [decide_eq_false hc] at HW
        clear hT hc
        go_wp2_with (go_at_call 20; (with_reducible refine (HW.out _).mono ?_); rintro e w1 ⟨rfl, rfl⟩)
        go_roundw
        case rel => exact ⟨k + 1, a3, c3, by omega, by go_num, by rw [HT.out], by rw [HT.out]; exact HS.out⟩
        case measure => simp [intOf]; omega
    · obtain rfl : k = n := by omega
      have hltI : ¬ (k : Int) < (k : Int) := by omega
      have hfull : es.take k = es := by rw [HL.out, List.take_length]
      rw [hfull] at hS ⊢
      have HS := Lib.hid hS
      clear hS hfull
      go_wp2
      go_ret
      exact ⟨_, _, rfl, HS.out⟩
set_option maxRecDepth 100000 in
set_option maxHeartbeats 4000000 in
theorem padd {w : World} {ao : Option Addr} {n cap : Nat} {es : List Ha} (hes : HaIn [] w ao n es) (hn : n ≤ 3518437208878) (f0 f1 f2 f3 f4 most t : Int) :
    Calls Try.prog 8 #[.slice ao n cap, .agg #[.int .i64 f0, .int .i64 f1, .int .i64 f2, .int .i64 f3, .int .i64 f4], .int .i64 most, .int .i64 t] w (HaOut w (haAL es ⟨f0, f1, f2, f3, f4⟩ most t) (haAE es ⟨f0, f1, f2, f3, f4⟩ most t)) := by
  have hb0 := habox w #[.int .i64 f0, .int .i64 f1, .int .i64 f2, .int .i64 f3, .int .i64 f4]
  have hb1 : Below w.heap.size w ((w.alloc (.cells #[.int .i64 f0, .int .i64 f1, .int .i64 f2, .int .i64 f3, .int .i64 f4] THa)).alloc (.cells #[.int .i64 f0, .int .i64 f1, .int .i64 f2, .int .i64 f3, .int .i64 f4] THa)) := hb0.alloc hb0.size _
  have hb2 : Below w.heap.size w (((w.alloc (.cells #[.int .i64 f0, .int .i64 f1, .int .i64 f2, .int .i64 f3, .int .i64 f4] THa)).drew).alloc (.cells #[.int .i64 f0, .int .i64 f1, .int .i64 f2, .int .i64 f3, .int .i64 f4] THa)) := (ha_bel hb0 (ha_drew _)).alloc hb0.size _
  by_cases hok : 1 ≤ most ∧ most ≤ 8 ∧ t < f4
  · have ho : haOk ⟨f0, f1, f2, f3, f4⟩ most t = true := (haOk_iff _ _ _).2 hok
    have hlim := haLeft_len es t
    have hlen := hes.len
    have HX := Lib.hid (fun (W : World) (h : Below w.heap.size w W) => pexpire (cap := cap) (hes.on h) hn t)
    obtain ⟨m1, m2, m3⟩ := hok
    have HW := Lib.hid (pwaits f0 f1 f2 f3 f4 t)
    rw [decide_eq_true m3] at HW
    by_cases hfull : most ≤ ((haLeft es t).length : Int)
    · have e1 : haAE es ⟨f0, f1, f2, f3, f4⟩ most t = 1801 := by unfold haAE; rw [if_pos ho, if_pos hfull]
      rw [show haAL es ⟨f0, f1, f2, f3, f4⟩ most t = [] by unfold haAL; rw [e1]; rfl, e1]
      have HB := Lib.hid hb1
      clear ho e1 hes hb0 hb1 hb2 hlim hlen
      generalize haLeft es t = ls at *
      go_enter Try.func8, Try.ntmps8
      go_wp2_with (first
        | (go_at_call 20; (with_reducible refine (HW.out _).mono ?_); rintro e w1 ⟨rfl, rfl⟩)
        | (go_at_call 12; (with_reducible refine (HX.out _ HB.out).mono ?_); rintro e w1 ⟨a2, c2, rfl, hS⟩; have HS := Lib.hid hS.bel; clear hS))
      go_ret2
      exact ⟨none, 0, rfl, HaNew.no (ha_bel HB.out HS.out)⟩
    · have e1 : haAE es ⟨f0, f1, f2, f3, f4⟩ most t = 0 := by unfold haAE; rw [if_pos ho, if_neg hfull]
      rw [show haAL es ⟨f0, f1, f2, f3, f4⟩ most t = haLeft es t ++ [⟨f0, f1, f2, f3, f4⟩] by unfold haAL; rw [e1]; rfl, e1]
      have HB := Lib.hid hb1
      have HK := Lib.hid (((Blk.new w #[.int .i64 f0, .int .i64 f1, .int .i64 f2, .int .i64 f3, .int .i64 f4] THa).alloc (.cells #[.int .i64 f0, .int .i64 f1, .int .i64 f2, .int .i64 f3, .int .i64 f4] THa)))
      clear ho e1 hes hb0 hb1 hb2
      generalize haLeft es t = ls at *
      have hfew2 : ls.length + 1 ≤ 3518437208883 := by omega
      clear hlen hlim
      go_enter Try.func8, Try.ntmps8
      go_wp2_with (first
        | (go_at_call 20; (with_reducible refine (HW.out _).mono ?_); rintro e w1 ⟨rfl, rfl⟩)
        | (go_at_call 12; (with_reducible refine (HX.out _ HB.out).mono ?_); rintro e w1 ⟨a2, c2, rfl, hS⟩; have kb := (HK.out.step hS.bel).cell)
        | (at_builtin; refine ha_appLit emp_good rfl _ _ rfl a2 ls.length c2 ls [⟨f0, f1, f2, f3, f4⟩] 1 rfl rfl rfl rfl hS hfew2 ?_; intro a4 c4 w4 hS4; have H4 := Lib.hid hS4; clear hS4))
      go_ret2
      refine ⟨a4, c4, by rw [List.length_append]; rfl, HaNew.under HB.out ?_⟩
      unfold HaNew
      have h := H4.out
      rw [List.length_append] at h ⊢
      exact h
  · have ho : haOk ⟨f0, f1, f2, f3, f4⟩ most t = false := by
      rw [Bool.eq_false_iff]
      exact fun c => hok ((haOk_iff _ _ _).1 c)
    have e1 : haAE es ⟨f0, f1, f2, f3, f4⟩ most t = 1800 := by unfold haAE; rw [ho]; rfl
    rw [show haAL es ⟨f0, f1, f2, f3, f4⟩ most t = [] by unfold haAL; rw [e1]; rfl, e1]
    have HB := Lib.hid (And.intro hb0 (And.intro hb1 hb2))
    have HW := Lib.hid (pwaits f0 f1 f2 f3 f4 t)
    clear ho e1 hes hb0 hb1 hb2
    have hcase : most < 1 ∨ (1 ≤ most ∧ 8 < most) ∨ (1 ≤ most ∧ most ≤ 8 ∧ f4 ≤ t) := by omega
    clear hok
    rcases hcase with h1 | ⟨h1, h2⟩ | ⟨h1, h2, h3⟩
    · go_enter Try.func8, Try.ntmps8
      go_wp2_with (fail)
      go_ret2
      exact ⟨none, 0, rfl, HaNew.no HB.out.1⟩
    · go_enter Try.func8, Try.ntmps8
      go_wp2_with (fail)
      go_ret2
      exact ⟨none, 0, rfl, HaNew.no HB.out.1⟩
    · have hd : decide (t < f4) = false := by simp; omega
      rw [hd] at HW
      clear hd
      go_enter Try.func8, Try.ntmps8
      go_wp2_with (go_at_call 20; (with_reducible refine (HW.out _).mono ?_); rintro e w1 ⟨rfl, rfl⟩)
      go_ret2
      exact ⟨none, 0, rfl, HaNew.no HB.out.2.1⟩
end Go.Proofs.Ytikdnmbbiipbjaa
