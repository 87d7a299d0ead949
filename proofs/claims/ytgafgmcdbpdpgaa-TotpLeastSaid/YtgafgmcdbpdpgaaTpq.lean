/- Package totp's Step, Code and Accept: what they answer and leave. Condition: the numbers are of 64 bits. -/
import Derived.Test.YtgafgmcdbpdpgaaTp
import Derived.Test.YtgafgmcdbpdpgaaCcraft
import Derived.Test.YtgafgmcdbpdpgaaOwnB
import Derived.Deep.RegionWith
namespace Go.Proofs.Ytgafgmcdbpdpgaa
open Go Go.RowKit

theorem tp_drew (w : World) : Below w.heap.size w w.drew := ⟨rfl, rfl, rfl, Nat.le_refl _, fun _ _ => rfl⟩
theorem ptstep (t : Int) (w : World) : Calls Try.prog 14 #[.int .i64 t] w fun e w' => e = .returned (.int .i64 (stX t)) ∧ w = w' := by
  by_cases h0 : t < 0
  · rw [stX_out (.inl h0)]
    go_enter Try.func14, Try.ntmps14
    go_wp2
    go_ret
    exact ⟨rfl, rfl⟩
  · by_cases h1 : 1048575 < t
    · rw [stX_out (.inr h1)]
      go_enter Try.func14, Try.ntmps14
      go_wp2
      go_ret
      exact ⟨rfl, rfl⟩
    · have hd : t.tdiv 30 = t / 30 := Int.tdiv_eq_ediv_of_nonneg (by omega)
      rw [stX_in (by omega) (by omega)]
      obtain ⟨d, hdd⟩ : ∃ d, t / 30 = d := ⟨_, rfl⟩
      have hd0 : 0 ≤ d := by omega
      have hd1 : d ≤ 34952 := by omega
      rw [hdd] at hd ⊢
      clear hdd
      go_enter Try.func14, Try.ntmps14
      go_wp2
      go_ret
      exact ⟨rfl, rfl⟩

theorem ptext (k : Int) (w : World) : Calls Try.prog 22 #[.int .i64 k] w fun e w' => e = .returned (.tuple #[.string (if okS k then cdS k else ⟨#[]⟩), .bool (okS k)]) ∧ Below w.heap.size w w' := by
  by_cases h : okS k = true
  · obtain ⟨k0, k1⟩ := (okS_iff k).1 h
    have hN := fun w => fnum k w (by omega) (by omega)
    have hn5 := numS_size k
    rw [show numE k = 0 from numE_ok (by omega) (by omega)] at hN
    rw [if_pos h, h]
    unfold cdS codeW
    generalize numS k = S at *
    have HN := Lib.hid hN
    clear hN h
    go_enter Try.func22, Try.ntmps22
    go_wp2_with (go_at_call 34; (with_reducible refine (HN.out _).mono ?_); rintro e w1 ⟨rfl, hb⟩)
    go_ret2
    exact ⟨rfl, hb⟩
  · have h' : okS k = false := by simpa using h
    rw [if_neg h, h']
    have hn : ¬ (1 ≤ k ∧ k ≤ 1048575) := fun c => h ((okS_iff k).2 c)
    clear h h'
    by_cases d1 : k < 1
    · clear hn
      go_enter Try.func22, Try.ntmps22
      go_wp2
      go_ret2
      exact ⟨rfl, Below.refl _ _⟩
    · have d2 : 1048575 < k := by omega
      clear hn
      go_enter Try.func22, Try.ntmps22
      go_wp2
      go_ret2
      exact ⟨rfl, Below.refl _ _⟩

theorem ptcode_nil (sec k : Int) (w : World) : Calls Try.prog 9 #[.pointer none, .int .i64 sec, .int .i64 k] w fun e w' => e = .returned (.tuple #[.int .i64 0, .int .i64 1]) ∧ w = w' := by
  go_enter Try.func9, Try.ntmps9
  go_wp2
  go_ret2
  exact ⟨rfl, rfl⟩

theorem ptcode (p : Nat) (most : Int) (ts : List ByteArray) (sec k : Int) (s0 : -9223372036854775808 ≤ sec) (s1 : sec ≤ 9223372036854775807) :
    Does Try.prog (bookA p most ts) 9 #[.pointer (some ⟨p, 0, none⟩), .int .i64 sec, .int .i64 k] (.returned (.tuple #[.int .i64 (tpX most ts sec k), .int .i64 (tpE most ts sec k)])) (bookA p most (tpT most ts sec k)) := by
  intro w F h
  have hS := Becomes.refl h
  clear h
  have HT := Lib.hid (fun w => ptext k w)
  by_cases hk : okS k = true
  · have hM := dmac p most ts sec (cdS k) (by have := cdS_size k; omega) s0 s1
    rw [show tmK cM (some sec) (cdS k) = cdK sec k from rfl] at hM
    rw [if_pos hk, hk] at HT
    by_cases he : ckE most ts (okK (some sec)) (cdK sec k) = 0
    · obtain ⟨g1, g2, g3⟩ := tp_ok hk he
      rw [g1, g2, g3]
      rw [he] at hM
      generalize ckX most ts (okK (some sec)) (cdK sec k) = X at *
      generalize ckT most ts (okK (some sec)) (cdK sec k) = T at *
      generalize cdS k = S at *
      have HM := Lib.hid hM
      clear hM he hk g1 g2 g3
      go_enter Try.func9, Try.ntmps9
      go_wp2_with (first
        | (go_at_call 22; (with_reducible refine (HT.out _).mono ?_); rintro e w1 ⟨rfl, hb⟩; replace hS := hS.lay (bookA_good _ _ _) hb; clear hb)
        | (go_at_call 23; (with_reducible refine (Becomes.op HM.out hS).mono ?_); rintro e w1 ⟨rfl, hS1⟩))
      go_ret2
      exact ⟨rfl, hS1⟩
    · obtain ⟨g1, g2, g3⟩ := tp_no hk he
      rw [g1, g2, g3]
      obtain ⟨_, he3⟩ := ckX_ne he
      rw [he3] at hM
      generalize ckX most ts (okK (some sec)) (cdK sec k) = X at *
      generalize ckT most ts (okK (some sec)) (cdK sec k) = T at *
      generalize cdS k = S at *
      have HM := Lib.hid hM
      clear hM he he3 hk g1 g2 g3
      go_enter Try.func9, Try.ntmps9
      go_wp2_with (first
        | (go_at_call 22; (with_reducible refine (HT.out _).mono ?_); rintro e w1 ⟨rfl, hb⟩; replace hS := hS.lay (bookA_good _ _ _) hb; clear hb)
        | (go_at_call 23; (with_reducible refine (Becomes.op HM.out hS).mono ?_); rintro e w1 ⟨rfl, hS1⟩))
      go_ret2
      exact ⟨rfl, hS1⟩
  · have hk' : okS k = false := by simpa using hk
    obtain ⟨g1, g2, g3⟩ := tp_bad (most := most) (ts := ts) (sec := sec) hk'
    rw [g1, g2, g3]
    rw [if_neg hk, hk'] at HT
    clear hk hk' g1 g2 g3
    go_enter Try.func9, Try.ntmps9
    go_wp2_with (go_at_call 22; (with_reducible refine (HT.out _).mono ?_); rintro e w1 ⟨rfl, hb⟩; replace hS := hS.lay (bookA_good _ _ _) hb; clear hb)
    go_ret2
    exact ⟨rfl, hS⟩

/-- What Accept's own function has caught: the book, the secret, the code. -/
abbrev tpA (p q1 q2 q3 : Nat) (sec code most : Int) (ts : List ByteArray) : Ass := (ownA q3 #[.int .i64 code] 3).star ((ownA q2 #[.int .i64 sec] 3).star ((ownA q1 #[.pointer (some ⟨p, 0, none⟩)] 23).star (bookA p most ts)))
theorem tpA_good (p q1 q2 q3 : Nat) (sec code most : Int) (ts : List ByteArray) : (tpA p q1 q2 q3 sec code most ts).Good := (ownA_good _ _ _).star ((ownA_good _ _ _).star ((ownA_good _ _ _).star (bookA_good _ _ _)))
theorem Becomes.op3 {P : Program} {A A' B B2 B3 : Ass} {f : FuncId} {args : Array Value} {v : Ending} (hd : Does P A f args v A') (hB : B.Good) (hB2 : B2.Good) (hB3 : B3.Good) {F : List Nat} {w w1 : World} (h : Becomes F (B.star (B2.star (B3.star A))) w w1) : Calls P f args w1 fun e w' => e = v ∧ Becomes F (B.star (B2.star (B3.star A'))) w w' := by
  obtain ⟨F', ⟨F1, _, rfl, h1, ⟨F2, _, rfl, h2, ⟨F3, F4, rfl, h3, h4, h5⟩, h6⟩, h7⟩, g2, g3⟩ := h
  refine (hd w1 F4 h4).mono ?_
  rintro e w' ⟨he, hk⟩
  obtain ⟨F5, k1, k2, k3⟩ := ((hk.frameR hB3 h3 h5).frameR hB2 h2 h6).frameR hB h1 h7
  refine ⟨he, F5, k1, g2.trans k2 g3, fun k hk => ?_⟩
  rcases k3 k hk with c | c
  · exact g3 k c
  · exact .inr (Nat.le_trans g2.size c)
theorem Becomes.hold3 {F : List Nat} {A : Ass} {w : World} (hA : A.Good) (h : Becomes F A w w) (c1 c2 c3 : Array Value) (T1 T2 T3 : TypeId) :
    Becomes F ((ownA (w.heap.size + 1 + 1) c3 T3).star ((ownA (w.heap.size + 1) c2 T2).star ((ownA w.heap.size c1 T1).star A))) w (((w.alloc (.cells c1 T1)).alloc (.cells c2 T2)).alloc (.cells c3 T3)) := by
  have h3 := ((h.hold hA c1 T1).hold ((ownA_good _ _ _).star hA) c2 T2).hold ((ownA_good _ _ _).star ((ownA_good _ _ _).star hA)) c3 T3
  rw [show ((w.alloc (.cells c1 T1)).alloc (.cells c2 T2)).heap.size = w.heap.size + 1 + 1 by simp, show (w.alloc (.cells c1 T1)).heap.size = w.heap.size + 1 by simp] at h3
  exact h3
set_option maxHeartbeats 4000000 in
theorem ptfits (p q1 q2 q3 : Nat) (sec code most : Int) (ts : List ByteArray) (k : Int) (hk : okS k = true) (s0 : -9223372036854775808 ≤ sec) (s1 : sec ≤ 9223372036854775807) :
    Does Try.prog (tpA p q1 q2 q3 sec code most ts) 26 #[.int .i64 k, .pointer (some ⟨q1, 0, none⟩), .pointer (some ⟨q2, 0, none⟩), .pointer (some ⟨q3, 0, none⟩)]
      (.returned (.bool (ckI ts (okK (some sec)) (cdK sec k) code))) (tpA p q1 q2 q3 sec code most ts) := by
  intro w F h
  have HT := Lib.hid (fun w => ptext k w)
  rw [if_pos hk, hk] at HT
  have hM := dismac p most ts sec (cdS k) code (by have := cdS_size k; omega) s0 s1
  rw [show tmK cM (some sec) (cdS k) = cdK sec k from rfl] at hM
  have hS : Becomes F (tpA p q1 q2 q3 sec code most ts) w w := Becomes.refl h
  have HG := Lib.hid (tpA_good p q1 q2 q3 sec code most ts)
  clear h
  generalize ckI ts (okK (some sec)) (cdK sec k) code = B at *
  generalize cdS k = S at *
  have HM := Lib.hid hM
  clear hM hk
  go_enter Try.func26, Try.ntmps26
  go_wp2_with (first
    | (go_at_call 22; (with_reducible refine (HT.out _).mono ?_); rintro e w1 ⟨rfl, hb⟩; replace hS := (hS.lay HG.out hb); obtain ⟨e1, g1, l1⟩ := hS.own; obtain ⟨e2, g2, l2⟩ := hS.drop.own; obtain ⟨e3, g3, l3⟩ := hS.drop.drop.own; clear hb)
    | (go_at_call 27; (with_reducible refine (Becomes.op3 HM.out (ownA_good _ _ _) (ownA_good _ _ _) (ownA_good _ _ _) hS).mono ?_); rintro e w2 ⟨rfl, hS1⟩))
  go_ret
  exact ⟨rfl, hS1⟩

set_option maxHeartbeats 4000000 in
theorem ptleast (A : Ass) (hA : A.Good) (q1 q2 q3 : Nat) (now last : Int) (g : Int → Bool) (n0 : 0 ≤ now) (n1 : now ≤ 34953)
    (hd : ∀ k, 1 ≤ k → k ≤ 34954 → Does Try.prog A 26 #[.int .i64 k, .pointer (some ⟨q1, 0, none⟩), .pointer (some ⟨q2, 0, none⟩), .pointer (some ⟨q3, 0, none⟩)] (.returned (.bool (g k))) A)
    (R : Int) (hR : R = if now = 0 then 0 else accF (fun k => decide (last < k) && g k) (accN now) (accA now)) :
    Does Try.prog A 28 #[.int .i64 now, .int .i64 last, .func (.func 26) #[] #[.pointer (some ⟨q1, 0, none⟩), .pointer (some ⟨q2, 0, none⟩), .pointer (some ⟨q3, 0, none⟩)]]
      (.returned (.tuple #[.int .i64 R, .bool (decide (0 < R))])) A := by
  intro w F h
  have hS := Becomes.refl h
  clear h
  by_cases hz : now = 0
  · subst hz
    rw [if_pos rfl] at hR
    subst hR
    clear hd
    go_enter Try.func28, Try.ntmps28
    go_wp2
    go_ret2
    exact ⟨rfl, hS⟩
  · rw [if_neg hz] at hR
    obtain ⟨a1, a2, a3⟩ := accA_bd (s := now) (by omega)
    have hmax : max (1 : Int) (now - 1) = accA now := by unfold accA; split <;> omega
    have hmax2 : (if (1 : Int) < now - 1 then now - 1 else 1) = accA now := by unfold accA; (repeat' split) <;> omega
    have HR := Lib.hid hR
    have HD := Lib.hid hd
    have HA := Lib.hid hA
    clear hR hd hA
    generalize accA now = a at *
    generalize accN now = n at *
    have hzz : (now == 0) = false := by simpa using hz
    go_enter Try.func28, Try.ntmps28
    go_wp2
    clear hmax hmax2
    go_loopw [8] (fun i wr => ∃ (k : Int) (m : Nat), i = .int .i64 k ∧ 1 ≤ k ∧ k + (m : Int) = now + 2 ∧ R = accF (fun k => decide (last < k) && g k) m k ∧ Becomes F A w wr) (fun i _ => (now + 2 - intOf i).toNat)
    case atStart => exact ⟨a, n, rfl, a1, a3, HR.out, hS⟩
    case round =>
      clear hS HR
      obtain ⟨k, m, rfl, hk1, hkm, hR, hS⟩ := hrel
      by_cases hlt : k ≤ now + 1
      · obtain ⟨m', rfl⟩ : ∃ m', m = m' + 1 := ⟨m - 1, by omega⟩
        have hdk := HD.out k hk1 (by omega)
        by_cases hl : last < k
        · obtain ⟨b, hb⟩ : ∃ b, g k = b := ⟨_, rfl⟩
          rw [hb] at hdk
          cases b
          · have hR' := hR.trans (accF_no (by rw [hb, Bool.and_false]))
            have HR' := Lib.hid hR'
            have HDK := Lib.hid hdk
            clear hR hR' hdk hb
            go_wp2_with (go_at_call 26; (with_reducible refine (Becomes.op HDK.out hS).mono ?_); rintro e w1 ⟨rfl, hS1⟩; clear hS)
            go_roundw
            case rel => exact ⟨k + 1, m', by go_num, by omega, by omega, HR'.out, hS1⟩
            case measure => simp [intOf]; omega
          · have hR' := hR.trans (accF_yes (by rw [hb, decide_eq_true hl]; rfl))
            subst hR'
            have HDK := Lib.hid hdk
            clear hR hdk hb
            have hk0 : 0 < R := by omega
            go_wp2_with (go_at_call 26; (with_reducible refine (Becomes.op HDK.out hS).mono ?_); rintro e w1 ⟨rfl, hS1⟩; clear hS)
            go_ret2
            exact ⟨by rw [decide_eq_true hk0]; rfl, hS1⟩
        · have hR' := hR.trans (accF_no (by rw [decide_eq_false hl, Bool.false_and]))
          have HR' := Lib.hid hR'
          clear hR hR' hdk
          go_wp2
          go_roundw
          case rel => exact ⟨k + 1, m', by go_num, by omega, by omega, HR'.out, hS⟩
          case measure => simp [intOf]; omega
      · obtain rfl : m = 0 := by omega
        have hR' : R = 0 := hR
        subst hR'
        clear hR
        go_wp2
        go_ret2
        exact ⟨rfl, hS⟩

set_option maxHeartbeats 4000000 in
theorem ptaccept (p : Nat) (most : Int) (ts : List ByteArray) (sec last tick code : Int) (s0 : -9223372036854775808 ≤ sec) (s1 : sec ≤ 9223372036854775807) :
    Does Try.prog (bookA p most ts) 11 #[.pointer (some ⟨p, 0, none⟩), .int .i64 sec, .int .i64 last, .int .i64 tick, .int .i64 code] (.returned (.tuple #[.int .i64 (accX ts sec last tick code), .bool (accB ts sec last tick code)])) (bookA p most ts) := by
  intro w F h
  have hS := Becomes.refl h
  clear h
  obtain ⟨b0, b1⟩ := stX_bd tick
  have HS := Lib.hid (fun w => ptstep tick w)
  have HL := Lib.hid (fun q1 q2 q3 => ptleast (tpA p q1 q2 q3 sec code most ts) (tpA_good _ _ _ _ _ _ _ _) q1 q2 q3 (stX tick) last (fun k => ckI ts (okK (some sec)) (cdK sec k) code) b0 b1 (fun k k0 k1 => ptfits p q1 q2 q3 sec code most ts k ((okS_iff k).2 ⟨k0, by omega⟩) s0 s1) (accX ts sec last tick code) rfl)
  unfold accB
  generalize accX ts sec last tick code = R at *
  generalize stX tick = s at *
  replace hS := hS.hold3 (bookA_good _ _ _) #[.pointer (some ⟨p, 0, none⟩)] #[.int .i64 sec] #[.int .i64 code] 23 3 3
  go_enter Try.func11, Try.ntmps11
  go_wp2_with (first
    | (go_at_call 14; (with_reducible refine (HS.out _).mono ?_); rintro e w1 ⟨rfl, rfl⟩)
    | (go_at_call 28; (with_reducible refine (Becomes.op (HL.out _ _ _) hS).mono ?_); rintro e w1 ⟨rfl, hS1⟩))
  go_ret2
  exact ⟨rfl, hS1.drop.drop.drop⟩
theorem dismac_nil (sec : Int) (s : ByteArray) (code : Int) (hs : s.size ≤ 9223372036854770000) (s0 : -9223372036854775808 ≤ sec) (s1 : sec ≤ 9223372036854775807) :
    Does Try.prog emp 27 #[.pointer none, .int .i64 sec, .string s, .int .i64 code] (.returned (.bool false)) emp :=
  fun w _ h => (cismac_nil sec s code w hs s0 s1).mono fun _ _ ⟨a, b⟩ => ⟨a, Becomes.same emp_good h b⟩
abbrev tpN (q1 q2 q3 : Nat) (sec code : Int) : Ass := (ownA q3 #[.int .i64 code] 3).star ((ownA q2 #[.int .i64 sec] 3).star ((ownA q1 #[.pointer none] 23).star emp))
theorem tpN_good (q1 q2 q3 : Nat) (sec code : Int) : (tpN q1 q2 q3 sec code).Good := (ownA_good _ _ _).star ((ownA_good _ _ _).star ((ownA_good _ _ _).star emp_good))
set_option maxHeartbeats 4000000 in
theorem ptfits_nil (q1 q2 q3 : Nat) (sec code : Int) (k : Int) (hk : okS k = true) (s0 : -9223372036854775808 ≤ sec) (s1 : sec ≤ 9223372036854775807) :
    Does Try.prog (tpN q1 q2 q3 sec code) 26 #[.int .i64 k, .pointer (some ⟨q1, 0, none⟩), .pointer (some ⟨q2, 0, none⟩), .pointer (some ⟨q3, 0, none⟩)]
      (.returned (.bool false)) (tpN q1 q2 q3 sec code) := by
  intro w F h
  have HT := Lib.hid (fun w => ptext k w)
  rw [if_pos hk, hk] at HT
  have HM := Lib.hid (dismac_nil sec (cdS k) code (by have := cdS_size k; omega) s0 s1)
  have hS : Becomes F (tpN q1 q2 q3 sec code) w w := Becomes.refl h
  have HG := Lib.hid (tpN_good q1 q2 q3 sec code)
  clear h
  generalize cdS k = S at *
  clear hk
  go_enter Try.func26, Try.ntmps26
  go_wp2_with (first
    | (go_at_call 22; (with_reducible refine (HT.out _).mono ?_); rintro e w1 ⟨rfl, hb⟩; replace hS := (hS.lay HG.out hb); obtain ⟨e1, g1, l1⟩ := hS.own; obtain ⟨e2, g2, l2⟩ := hS.drop.own; obtain ⟨e3, g3, l3⟩ := hS.drop.drop.own; clear hb)
    | (go_at_call 27; (with_reducible refine (Becomes.op3 HM.out (ownA_good _ _ _) (ownA_good _ _ _) (ownA_good _ _ _) hS).mono ?_); rintro e w2 ⟨rfl, hS1⟩))
  go_ret
  exact ⟨rfl, hS1⟩
theorem accF_none : ∀ (n : Nat) (k : Int) (last : Int), accF (fun k => decide (last < k) && false) n k = 0 := by
  intro n
  induction n with
  | zero => intro _ _; rfl
  | succ n ih => intro k last; rw [accF_no (by simp), ih]
set_option maxHeartbeats 4000000 in
theorem ptaccept_nil (sec last tick code : Int) (w : World) (s0 : -9223372036854775808 ≤ sec) (s1 : sec ≤ 9223372036854775807) :
    Calls Try.prog 11 #[.pointer none, .int .i64 sec, .int .i64 last, .int .i64 tick, .int .i64 code] w fun e w' => e = .returned (.tuple #[.int .i64 0, .bool false]) ∧ Below w.heap.size w w' := by
  have hS : Becomes [] emp w w := Becomes.refl rfl
  obtain ⟨b0, b1⟩ := stX_bd tick
  have HS := Lib.hid (fun w => ptstep tick w)
  have HL := Lib.hid (fun q1 q2 q3 => ptleast (tpN q1 q2 q3 sec code) (tpN_good _ _ _ _ _) q1 q2 q3 (stX tick) last (fun _ => false) b0 b1 (fun k k0 k1 => ptfits_nil q1 q2 q3 sec code k ((okS_iff k).2 ⟨k0, by omega⟩) s0 s1) 0 (by split <;> first | rfl | exact (accF_none _ _ _).symm))
  rw [show decide ((0 : Int) < 0) = false from rfl] at HL
  generalize stX tick = s at *
  replace hS := hS.hold3 emp_good #[.pointer none] #[.int .i64 sec] #[.int .i64 code] 23 3 3
  go_enter Try.func11, Try.ntmps11
  go_wp2_with (first
    | (go_at_call 14; (with_reducible refine (HS.out _).mono ?_); rintro e w1 ⟨rfl, rfl⟩)
    | (go_at_call 28; (with_reducible refine (Becomes.op (HL.out _ _ _) hS).mono ?_); rintro e w1 ⟨rfl, hS1⟩))
  go_ret2
  exact ⟨rfl, hS1.drop.drop.drop.nil⟩
end Go.Proofs.Ytgafgmcdbpdpgaa
