/- The reference's record: what PutRecord answers. No condition. -/
import Derived.Test.YtiebpjkppjollaaDoorBdz
import Derived.Test.YtiebpjkppjollaaDoorBbk
import Derived.Test.YtiebpjkppjollaaDoorBrb
import Derived.Test.YtiebpjkppjollaaDoorBfr
import Derived.Test.YtiebpjkppjollaaDoorBme
import Derived.Test.YtiebpjkppjollaaDoorBrk
namespace Go.Proofs.YtiebpjkppjollaaDoor
open Go Go.RowKit

theorem rsector (s : ByteArray) (w : World) (h : s.size ≤ 64) : Calls Tryd.prog 41 #[.string s] w fun e w' => e = .returned (.string (padS s)) ∧ Below w.heap.size w w' := by
  obtain ⟨k, hk, hkn⟩ : ∃ k : Nat, (64 : Int) - (s.size : Int) = (k : Int) ∧ k = 64 - s.size := ⟨64 - s.size, by omega, rfl⟩
  have hmk := zk_made k (by omega)
  have hcv := zk_conv k (by omega)
  have hz : (zerN k).size = k := zerN_size k
  have h1 : ¬ 9223372036854775807 < s.size + k := by omega
  unfold padS
  rw [← hkn]
  clear hkn
  go_enter Tryd.func41, Tryd.ntmps41
  go_wp2
  go_ret
  exact ⟨rfl, (Below.refl _ _).alloc (Nat.le_refl _) _⟩
theorem Rc.body_parts (r : Rc) : r.body = numsB [r.seq, r.boot, r.prev] ++ textS r.ev.put := by
  simp only [Rc.body, Rc.fl, encL, numsB, Fld.enc]
  simp only [ba_assoc]
  rw [ba_nil, nil_ba]
theorem Rc.may_why {seq boot prev : Int} {ev : Ev} (h : (Rc.mk seq boot prev ev).may = false) : seq < 1 ∨ (1 ≤ seq ∧ okNum seq = false) ∨ (1 ≤ seq ∧ okNum seq = true ∧ boot < 1) ∨ (1 ≤ seq ∧ okNum seq = true ∧ 1 ≤ boot ∧ okNum boot = false) ∨
    (1 ≤ seq ∧ okNum seq = true ∧ 1 ≤ boot ∧ okNum boot = true ∧ okNum prev = false) ∨ (1 ≤ seq ∧ okNum seq = true ∧ 1 ≤ boot ∧ okNum boot = true ∧ okNum prev = true ∧ ev.may = false) := by
  have hn : ¬ (1 ≤ seq ∧ okNum seq = true ∧ 1 ≤ boot ∧ okNum boot = true ∧ okNum prev = true ∧ ev.may = true) := fun c => by rw [(Rc.may_iff _).2 c] at h; cases h
  by_cases h1 : 1 ≤ seq
  · cases h2 : okNum seq with
    | false => exact .inr (.inl ⟨h1, rfl⟩)
    | true =>
      by_cases h3 : 1 ≤ boot
      · cases h4 : okNum boot with
        | false => exact .inr (.inr (.inr (.inl ⟨h1, rfl, h3, rfl⟩)))
        | true =>
          cases h5 : okNum prev with
          | false => exact .inr (.inr (.inr (.inr (.inl ⟨h1, rfl, h3, rfl, rfl⟩))))
          | true =>
            cases h6 : ev.may with
            | false => exact .inr (.inr (.inr (.inr (.inr ⟨h1, rfl, h3, rfl, rfl, rfl⟩))))
            | true => exact absurd ⟨h1, h2, h3, h4, h5, h6⟩ hn
      · exact .inr (.inr (.inl ⟨h1, rfl, by omega⟩))
  · exact .inl (by omega)
set_option maxRecDepth 100000 in
set_option maxHeartbeats 8000000 in
theorem drput_no (p : Nat) (most : Int) (ts : List ByteArray) (r : Rc) (hm : r.may = false) : Does Tryd.prog (refA p most ts) 15 #[.pointer (some ⟨p, 0, none⟩), r.val] (.returned (.tuple #[.string ⟨#[]⟩, .int .i64 0, .int .i64 900])) (refA p most ts) := by
  intro w F h
  have hS : Becomes F (refA p most ts) w w := Becomes.refl h
  clear h
  obtain ⟨seq, boot, prev, ev⟩ := r
  have hwhy := Rc.may_why hm
  clear hm
  have HP := Lib.hid (fun w => reput ev w)
  have hE : ev.may = false → ev.putE = 700 := fun h => by unfold Ev.putE; rw [h]; rfl
  have HE := Lib.hid hE
  have hsz : ev.putS.size ≤ 44 := by
    unfold Ev.putS
    split
    · have := Ev.put_small ev; omega
    · exact Nat.zero_le _
  clear hE
  generalize ev.putS = S at *
  obtain ⟨k, u, s, a, x, y, z, t⟩ := ev
  unfold Rc.val
  simp only [Ev.val] at HP ⊢
  rcases hwhy with c1 | ⟨c1, c2⟩ | ⟨c1, c2, c3⟩ | ⟨c1, c2, c3, c4⟩ | ⟨c1, c2, c3, c4, c5⟩ | ⟨c1, c2, c3, c4, c5, c6⟩
  case' inr.inr.inr.inr.inr => have hE := HE.out c6; rw [hE] at HP; clear hE c6
  all_goals
    clear HE
    generalize Ev.putE ⟨k, u, s, a, x, y, z, t⟩ = E at HP
    go_enter Tryd.func15, Tryd.ntmps15
    go_wp2_with (first
      | (go_at_call 36; (with_reducible refine (HP.out _).mono ?_); rintro e w1 ⟨rfl, hb⟩; have hH := (Held.start w _).step hb; have c0 := hH.cell (i := 0) rfl; have c11 := hH.cell (i := 1) rfl; have c12 := hH.cell (i := 2) rfl; replace hS := hS.lay (refA_good _ _ _) (((Below.refl _ _).alloc (Nat.le_refl _) _).trans (hb.mono (by simp))); clear hb)
      | (go_at_call 37; (with_reducible refine (rnum0 _ _).mono ?_); rintro e w1 ⟨rfl, rfl⟩))
    go_ret3
    exact ⟨rfl, hS⟩
set_option maxRecDepth 100000 in
set_option maxHeartbeats 8000000 in
theorem drput_yes (p : Nat) (most : Int) (ts : List ByteArray) (r : Rc) (hl : ts.length ≤ 1000000) (hm : r.may = true) : Does Tryd.prog (refA p most ts) 15 #[.pointer (some ⟨p, 0, none⟩), r.val] (.returned (.tuple #[.string (rcS most ts r), .int .i64 (rcN most ts r), .int .i64 (rcE most ts r)])) (refA p most (rcT most ts r)) := by
  intro w F h
  have hS : Becomes F (refA p most ts) w w := Becomes.refl h
  clear h
  have hbody := r.body_parts
  have htm : r.tm = tmK cH none (markR ++ r.body) := rfl
  have hsm := r.body_small
  have hln := fun own => r.line_small own
  obtain ⟨n0, n1⟩ := nmX_bd most ts r.tm
  rw [show rcT most ts r = nmT most ts r.tm by unfold rcT; rw [hm]; rfl]
  have hSS : nmE most ts r.tm = 0 → rcS most ts r = padS (r.body ++ numS (nmX most ts r.tm)) ∧ rcN most ts r = nmX most ts r.tm ∧ rcE most ts r = 0 := fun e => by
    have hk : rcOk most ts r = true := by unfold rcOk; rw [hm, e]; rfl
    unfold rcS rcN rcE; rw [hk]; exact ⟨rfl, rfl, rfl⟩
  have hSN : nmE most ts r.tm ≠ 0 → rcS most ts r = ⟨#[]⟩ ∧ rcN most ts r = 0 ∧ rcE most ts r = 900 := fun e => by
    have hk : rcOk most ts r = false := by unfold rcOk; rw [hm]; simp [e]
    unfold rcS rcN rcE; rw [hk]; exact ⟨rfl, rfl, rfl⟩
  generalize rcS most ts r = RS at *
  generalize rcN most ts r = RN at *
  generalize rcE most ts r = RE at *
  have hK : ckX most ts true r.tm = (if nmE most ts r.tm = 0 then nmX most ts r.tm else 0) ∧ ckE most ts true r.tm = (if nmE most ts r.tm = 0 then 0 else 300) := by
    unfold ckX ckE; by_cases e : nmE most ts r.tm = 0 <;> simp [e]
  have hH := drhash p most ts (markR ++ r.body) (by rw [ByteArray.size_append, show markR.size = 6 from rfl]; omega)
  rw [show okK none = true from rfl, ← htm, show ckT most ts true r.tm = nmT most ts r.tm from rfl, hK.1, hK.2] at hH
  clear hK htm
  obtain ⟨m1, m2, m3, m4, m5, m6⟩ := (Rc.may_iff r).1 hm
  clear hm
  generalize nmT most ts r.tm = T' at *
  generalize nmX most ts r.tm = own at *
  generalize nmE most ts r.tm = en at *
  obtain ⟨s0, s1⟩ := (okNum_iff _).1 m2
  obtain ⟨s2, s3⟩ := (okNum_iff _).1 m4
  obtain ⟨s4, s5⟩ := (okNum_iff _).1 m5
  have H3 := Lib.hid (fun w => rn3 r.seq r.boot r.prev 3 w (by omega) (by omega) (by omega) (by omega) (by omega) (by omega))
  have hP := fun w => reput r.ev w
  rw [show r.ev.putE = 0 by unfold Ev.putE; rw [m6]; rfl, show r.ev.putS = r.ev.put by unfold Ev.putS; rw [m6]; rfl] at hP
  have hps := Ev.put_small r.ev
  have HT := Lib.hid (fun w => rtext r.ev.put w (by omega))
  have htz := textS_size hps
  have hnz : (numsB [r.seq, r.boot, r.prev]).size ≤ 15 := numsB_size [r.seq, r.boot, r.prev]
  have HP := Lib.hid hP
  have hO := fun w => rn1 own 3 w (by omega) (by omega)
  rw [numsB_one] at hO
  have HO := Lib.hid hO
  have hoz := numS_size5 own
  have hl50 := hln own
  have HX := Lib.hid (fun w => rsector (r.body ++ numS own) w (by omega))
  clear hP hO hln
  rw [hbody] at *
  clear hbody hl
  obtain ⟨seq, boot, prev, ev⟩ := r
  obtain ⟨k, u, s, a, x, y, z, t⟩ := ev
  unfold Rc.val
  simp only [Ev.val] at HP ⊢ H3 HT hps htz hnz HX hl50 hsm hSS m1 m2 m3 m4 m5 hH
  generalize Ev.put ⟨k, u, s, a, x, y, z, t⟩ = P at *
  generalize textS P = TX at *
  generalize numsB [seq, boot, prev] = N3 at *
  clear m6 s0 s1 s2 s3 s4 s5
  by_cases hen : en = 0
  · obtain ⟨q1, q2, q3⟩ := hSS hen
    rw [q1, q2, q3]
    rw [if_pos hen, if_pos hen] at hH
    unfold markR at hH
    have HH := Lib.hid hH
    clear hH hSS hSN q1 q2 q3
    go_enter Tryd.func15, Tryd.ntmps15
    go_wp2_with (first
      | (go_at_call 36; (with_reducible refine (HP.out _).mono ?_); rintro e w1 ⟨rfl, hb⟩; have hD := (Held.start w _).step hb; have c0 := hD.cell (i := 0) rfl; have c11 := hD.cell (i := 1) rfl; have c12 := hD.cell (i := 2) rfl; replace hS := hS.lay (refA_good _ _ _) (((Below.refl _ _).alloc (Nat.le_refl _) _).trans (hb.mono (by simp))); clear hb)
      | (go_at_call 37; (with_reducible refine (rnum0 _ _).mono ?_); rintro e w1 ⟨rfl, rfl⟩)
      | (go_at_call 38; (with_reducible refine (HT.out _).mono ?_); rintro e w1 ⟨rfl, hb⟩; replace hD := hD.step hb; have c0 := hD.cell (i := 0) rfl; have c11 := hD.cell (i := 1) rfl; have c12 := hD.cell (i := 2) rfl; replace hS := hS.lay (refA_good _ _ _) hb; clear hb)
      | (go_at_call 39; first
          | ((with_reducible refine (H3.out _).mono ?_); rintro e w1 ⟨rfl, hb⟩; replace hS := hS.lay (refA_good _ _ _) hb; clear hb)
          | ((with_reducible refine (HO.out _).mono ?_); rintro e w1 ⟨rfl, hb⟩; replace hS := hS.lay (refA_good _ _ _) hb; clear hb))
      | (go_at_call 40; (with_reducible refine (Becomes.op HH.out hS).mono ?_); rintro e w1 ⟨rfl, hS1⟩; replace hS := hS1; clear hS1)
      | (go_at_call 41; (with_reducible refine (HX.out _).mono ?_); rintro e w1 ⟨rfl, hb⟩; replace hS := hS.lay (refA_good _ _ _) hb; clear hb))
    go_ret3
    exact ⟨rfl, hS⟩
  · obtain ⟨q1, q2, q3⟩ := hSN hen
    rw [q1, q2, q3]
    rw [if_neg hen, if_neg hen] at hH
    unfold markR at hH
    have HH := Lib.hid hH
    clear hH hSS hSN q1 q2 q3
    go_enter Tryd.func15, Tryd.ntmps15
    go_wp2_with (first
      | (go_at_call 36; (with_reducible refine (HP.out _).mono ?_); rintro e w1 ⟨rfl, hb⟩; have hD := (Held.start w _).step hb; have c0 := hD.cell (i := 0) rfl; have c11 := hD.cell (i := 1) rfl; have c12 := hD.cell (i := 2) rfl; replace hS := hS.lay (refA_good _ _ _) (((Below.refl _ _).alloc (Nat.le_refl _) _).trans (hb.mono (by simp))); clear hb)
      | (go_at_call 37; (with_reducible refine (rnum0 _ _).mono ?_); rintro e w1 ⟨rfl, rfl⟩)
      | (go_at_call 38; (with_reducible refine (HT.out _).mono ?_); rintro e w1 ⟨rfl, hb⟩; replace hD := hD.step hb; have c0 := hD.cell (i := 0) rfl; have c11 := hD.cell (i := 1) rfl; have c12 := hD.cell (i := 2) rfl; replace hS := hS.lay (refA_good _ _ _) hb; clear hb)
      | (go_at_call 39; (with_reducible refine (H3.out _).mono ?_); rintro e w1 ⟨rfl, hb⟩; replace hS := hS.lay (refA_good _ _ _) hb; clear hb)
      | (go_at_call 40; (with_reducible refine (Becomes.op HH.out hS).mono ?_); rintro e w1 ⟨rfl, hS1⟩; replace hS := hS1; clear hS1))
    go_ret3
    exact ⟨rfl, hS⟩
theorem drput (p : Nat) (most : Int) (ts : List ByteArray) (r : Rc) (hl : ts.length ≤ 1000000) : Does Tryd.prog (refA p most ts) 15 #[.pointer (some ⟨p, 0, none⟩), r.val] (.returned (.tuple #[.string (rcS most ts r), .int .i64 (rcN most ts r), .int .i64 (rcE most ts r)])) (refA p most (rcT most ts r)) := by
  cases hm : r.may with
  | true => exact drput_yes p most ts r hl hm
  | false =>
    have hk : rcOk most ts r = false := by unfold rcOk; rw [hm]; rfl
    rw [show rcS most ts r = ⟨#[]⟩ by unfold rcS; rw [hk]; rfl, show rcN most ts r = 0 by unfold rcN; rw [hk]; rfl, show rcE most ts r = 900 by unfold rcE; rw [hk]; rfl, show rcT most ts r = ts by unfold rcT; rw [hm]; rfl]
    exact drput_no p most ts r hm
end Go.Proofs.YtiebpjkppjollaaDoor
