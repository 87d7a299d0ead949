/- The walk of JournalRoom. Conditions: the arguments' bounds, the handle of the type error. -/
import Derived.Test.YtbfpfmidjdonjaaGreatDoorBjc
namespace Go.Proofs.YtbfpfmidjdonjaaGreatDoor
open Go Go.RowKit

theorem mask31 (z : Int) : bits .and .i64 z 31 = z % 32 := by
  have := i64_mask z 5 (by omega)
  simpa using this
theorem mask3 (z : Int) : bits .and .i64 z 3 = z % 4 := by
  have := i64_mask z 2 (by omega)
  simpa using this
section
variable {T : List ByteArray} {D : Dk} {J : Jn}
/-- One Append of the law's. -/
theorem room_step {most : Int} (h : Safe T D J) (hb : J.boot = 1) {hv : Nat} (ha : J.all.length = hv) {k m : Nat} (hk : D.kept.length = k) (hk2 : k ≤ 34) (hT : T.length ≤ 1 + hv) (hmost : most = 65536) (es : List Ev) (hes : es.length = m) (hmay : ∀ e ∈ es, e.may = true) :
    (k < 2 + hv + m → jpE most T J D es = 1101 ∧ jpT most T J D es = T ∧ apD most T J D es = D ∧ apJ most T J D es = J) ∧
    (2 + hv + m ≤ k → jpE most T J D es = 0 ∧ Safe (jpT most T J D es) (apD most T J D es) (apJ most T J D es) ∧ (apJ most T J D es).boot = 1 ∧ (apJ most T J D es).all.length = hv + m ∧ (apD most T J D es).kept.length = k ∧ (jpT most T J D es).length ≤ 1 + (hv + m)) := by
  have hfit := h.fits
  refine ⟨fun hc => ?_, fun hc => ?_⟩
  · obtain ⟨e1, e2⟩ := h.full (most := most) es hmay (by omega)
    have hne : jpE most T J D es ≠ 0 := by rw [e1]; decide
    exact ⟨e1, e2, apD_no hne, apJ_no hne⟩
  · obtain ⟨e1, e2, e3, e4, e5, e6, _⟩ := h.append (most := most) es hmay (by omega) (by omega) (by omega) (by omega)
    exact ⟨e1, e6, by rw [e3, hb], by rw [e2, List.length_append]; omega, by rw [e4, hk], by omega⟩
end
set_option maxRecDepth 100000 in
set_option maxHeartbeats 8000000 in
theorem jroomlaw (z : Int) (ao : Option Addr) (cap : Nat) (zs : List Int) (w : World) (hg : Gd w) (hA : IArg w ao zs) :
    Calls Tryz.prog 7 #[.int .i64 z, .slice ao zs.length cap] w fun e w' => e = .returned (.bool true) ∧ Below w.heap.size w w' := by
  have hfew := hA.few
  have HA := Lib.hid hA
  have HG := Lib.hid hg
  have m31 := mask31 z
  obtain ⟨k, hk⟩ : ∃ k : Nat, 3 + z % 32 = (k : Int) := ⟨(3 + z % 32).toNat, by omega⟩
  have hk3 : 3 ≤ k := by omega
  have hk34 : k ≤ 34 := by omega
  obtain ⟨s1, s2, s3, s4, s5, _⟩ := start_safe (most := 65536) (n := k) (by decide) hk3 (by omega)
  have hc0 := calm_new hk3 (show k ≤ 256 by omega)
  have hok0 : (Dk.new k).Ok := Dk.ok_new (by omega) (by omega)
  have HS := Lib.hid (And.intro s2 (And.intro s3 (And.intro s4 s5)))
  have HO := Lib.hid (fun (C : Ass) (W : World) (pb pd : Nat) (hC : C.Good) (h : At w ((BD pb pd 65536 [] (Dk.new k)).star C) W) => (show Calls Tryz.prog 34 #[.pointer (some ⟨pb, 0, none⟩), .pointer (some ⟨pd, 0, none⟩)] W (fun e w' => ∃ p : Nat, e = .returned (.tuple #[.pointer (some ⟨p, 0, none⟩), .int .i64 0]) ∧ At w ((BD pb pd 65536 (joT 65536 [] (Dk.new k)) (joD 65536 [] (Dk.new k))).star ((JO p pb pd ((k - 2 : Nat) : Int) (joJ 65536 [] (Dk.new k))).star C)) w') from by have := jlopen hC hg h hok0 (by simp) (by simp [Dk.new]) s1; rw [show (Dk.new k).kept.length = k by simp [Dk.new]] at this; exact this))
  have hwr : IntKind.i64.wrap (3 + z % 32) = (k : Int) := by rw [IntKind.wrap_i64]; omega
  clear hA hg s1 s2 s3 s4 s5 hc0 hok0
  go_enter Tryz.func7, Tryz.ntmps7
  go_wp2_with (first
    | (go_at_call 12; (with_reducible refine (awake11 _ HG.out).mono ?_); rintro e w1 ⟨rfl, hb0⟩)
    | (go_at_call 10; (with_reducible refine (twin_none11 65536 _ (by omega) (by omega)).mono ?_); rintro e w1 ⟨p, q, rfl, hb⟩)
    | (go_at_call 11; (with_reducible refine (pair_at11 _ k (by omega) _ (by omega) (by omega)).mono ?_); rintro e w2 ⟨pd, qd, rfl, hp⟩; have hS := (lawdrop ((lawstart hb hp).imp (Ass.imp.comm _ _)).drop).under hb0; clear hb hp hb0)
    | (go_at_call 34; (with_reducible refine (HO.out _ _ _ _ emp_good hS).mono ?_); rintro e w3 ⟨p1, rfl, hS1⟩; replace hS := hS1; clear hS1)
    | (go_at_call 16; (with_reducible refine (lnum _ _).mono ?_); rintro e w9 ⟨rfl, rfl⟩))
  obtain ⟨g1, g2, g3, g4⟩ := HS.out
  have hi : ∃ T D J, Safe T D J ∧ J.boot = 1 ∧ J.all.length = 0 ∧ D.kept.length = k ∧ T.length ≤ 1 + 0 ∧ At w ((BD p pd 65536 T D).star ((JO p1 p pd ((k - 2 : Nat) : Int) J).star emp)) w3 := ⟨_, _, _, g2, by rw [g1], by rw [g1]; rfl, g4, by omega, hS⟩
  clear hS g1 g2 g3 g4 HS HO
  go_loopw [12, 13] (fun x12 x13 wr => ∃ (i hv : Nat) (T : List ByteArray) (D : Dk) (J : Jn), i ≤ zs.length ∧ i ≤ 30 ∧ x13 = .int .i64 (i : Int) ∧ x12 = .int .i64 (hv : Int) ∧ Safe T D J ∧ J.boot = 1 ∧ J.all.length = hv ∧ D.kept.length = k ∧ T.length ≤ 1 + hv ∧ At w ((BD p pd 65536 T D).star ((JO p1 p pd ((k - 2 : Nat) : Int) J).star emp)) wr) (fun _ x13 _ => 31 - (intOf x13).toNat)
  case atStart =>
    obtain ⟨T, D, J, q1, q2, q3, q4, q5, q6⟩ := hi
    exact ⟨0, 0, T, D, J, Nat.zero_le _, by omega, rfl, rfl, q1, q2, q3, q4, q5, q6⟩
  case round =>
    clear hi
    obtain ⟨i, hv, T, D, J, hil, hi30, rfl, rfl, hSf, hBt, hAl, hKl, hTl, hS⟩ := hrel
    have hfit := hSf.fits
    have hv34 : hv ≤ 34 := by omega
    have hjok : JOk T D ((k - 2 : Nat) : Int) J := hSf.jok (by omega) (by omega)
    by_cases hgo : i < zs.length ∧ i < 30
    · obtain ⟨hlt, hlt30⟩ := hgo
      obtain ⟨bb, off, zi, rfl, _, _, hcw⟩ := HA.out.at hlt
      have hc := hcw _ hS.bel
      have m3 := mask3 zi
      obtain ⟨mm, hmm⟩ : ∃ mm : Nat, zi % 4 = (mm : Int) := ⟨(zi % 4).toNat, by omega⟩
      have hm3 : mm ≤ 3 := by omega
      have HSf := Lib.hid (And.intro hSf (And.intro hBt (And.intro hAl (And.intro hKl (And.intro hTl hjok)))))
      clear hcw hSf hBt hAl hKl hTl hjok
      have hS0 := hS.erow0E
      have h30 : (i : Int) < 30 := by omega
      have hlz : (i : Int) < (zs.length : Int) := by omega
      clear hS
      go_wp2
      go_loopw [15, 16] (fun x15 x16 wr2 => ∃ q : Nat, q ≤ mm ∧ x16 = .int .i64 (q : Int) ∧ ∃ a2 c2, x15 = .slice a2 q c2 ∧ At w ((rowE TE 8 (.slice a2 q c2) (spL (hv : Int) q).length (ecells (spL (hv : Int) q))).star ((BD p pd 65536 T D).star ((JO p1 p pd ((k - 2 : Nat) : Int) J).star emp))) wr2) (fun _ x16 _ => mm - (intOf x16).toNat)
      case atStart => exact ⟨0, Nat.zero_le _, rfl, _, _, rfl, hS0⟩
      case round =>
        clear hS0
        obtain ⟨q, hqm, rfl, a2, c2, rfl, hS⟩ := hrel
        by_cases hq : q < mm
        · have HSr := Lib.hid hS
          clear hS
          go_wp2_with (at_builtin; refine app_evA ((BD_good _ _ _ _ _).star ((JO_good _ _ _ _ _).star emp_good)) rfl _ _ rfl a2 q c2 (spL (hv : Int) q) (spE ((hv : Int) + (q : Int))) rfl rfl HSr.out (by rw [spL_len]; omega) ?_; intro a3 c3 w4 hS3)
          go_round
          case rel => exact ⟨q + 1, by omega, by go_num, a3, c3, rfl, hS3⟩
          case measure => simp [intOf]; omega
        · obtain rfl : q = mm := by omega
          obtain ⟨hSf, hBt, hAl, hKl, hTl, hjok⟩ := HSf.out
          have hlen := spL_len (hv : Int) q
          obtain ⟨r1, r2⟩ := room_step (most := 65536) hSf hBt hAl hKl hk34 hTl rfl (spL (hv : Int) q) hlen (spL_may (by omega) (by omega))
          have hS1 := hS.imp ((Ass.imp.swap _ _ _).trans ((Ass.imp.swap _ _ _).under _))
          have hAp := jlappR emp_good a2 c2 (spL (hv : Int) q) (by rw [hlen]; rw [hlen] at hS1; exact hS1) hjok (by omega)
          rw [hlen] at hAp
          clear hS hS1
          by_cases hroom : k < 2 + hv + q
          · obtain ⟨e1, e2, e3, e4⟩ := r1 hroom
            rw [e1, e2, e3, e4] at hAp
            have HAp := Lib.hid hAp
            have HRm := Lib.hid (fun W (h : At w ((BD p pd 65536 T D).star ((JO p1 p pd ((k - 2 : Nat) : Int) J).star ((rowE TE 8 (.slice a2 q c2) q (ecells (spL (hv : Int) q))).star emp))) W) => (show Calls Tryz.prog 30 #[.pointer (some ⟨p1, 0, none⟩)] W (fun e w' => e = .returned (.int .i64 ((k : Int) - 2 - (hv : Int))) ∧ At w ((BD p pd 65536 T D).star ((JO p1 p pd ((k - 2 : Nat) : Int) J).star ((rowE TE 8 (.slice a2 q c2) q (ecells (spL (hv : Int) q))).star emp))) w') from by
              have := jlroom ((rowE_good _ _ _ _ _).star emp_good) h hjok
              rw [show ((k - 2 : Nat) : Int) - (J.all.length : Int) = (k : Int) - 2 - (hv : Int) by omega] at this
              exact this))
            have HEv := Lib.hid (fun W (h : At w ((BD p pd 65536 T D).star ((JO p1 p pd ((k - 2 : Nat) : Int) J).star ((rowE TE 8 (.slice a2 q c2) q (ecells (spL (hv : Int) q))).star emp))) W) => (show Calls Tryz.prog 26 #[.pointer (some ⟨p1, 0, none⟩)] W (fun e w' => ∃ ao cap, e = .returned (.slice ao hv cap) ∧ At w ((BD p pd 65536 T D).star ((JO p1 p pd ((k - 2 : Nat) : Int) J).star emp)) w') from by
              have := jlevents ((rowE_good _ _ _ _ _).star emp_good) h (by omega)
              rw [hAl] at this
              exact this.mono fun e w' ⟨ao, cap, a, b⟩ => ⟨ao, cap, a, b.drop.drop3⟩))
            have hd : (k : Int) - 2 < (hv : Int) + (q : Int) := by omega
            clear hAp r1 r2 e1 e2 e3 e4 hlen hjok
            go_wp2_with (first
              | (go_at_call 15; (with_reducible refine HAp.out.mono ?_); rintro e w5 ⟨rfl, hS5⟩)
              | (go_at_call 30; (with_reducible refine (HRm.out _ hS5).mono ?_); rintro e w6 ⟨rfl, hS6⟩)
              | (go_at_call 26; (with_reducible refine (HEv.out _ hS6).mono ?_); rintro e w7 ⟨a7, c7, rfl, hS7⟩)
              | (go_at_call 16; (with_reducible refine (lnum _ _).mono ?_); rintro e w9 ⟨rfl, rfl⟩))
            go_round
            case rel => exact ⟨i + 1, hv, T, D, J, by omega, by omega, by go_num, rfl, HSf.out.1, HSf.out.2.1, HSf.out.2.2.1, HSf.out.2.2.2.1, HSf.out.2.2.2.2.1, hS7⟩
            case measure => simp [intOf]; omega
          · obtain ⟨e1, e2, e3, e4, e5, e6⟩ := r2 (by omega)
            rw [e1] at hAp
            have HAp := Lib.hid hAp
            generalize jpT 65536 T J D (spL (hv : Int) q) = T2 at *
            generalize apD 65536 T J D (spL (hv : Int) q) = D2 at *
            generalize apJ 65536 T J D (spL (hv : Int) q) = J2 at *
            have hjok2 : JOk T2 D2 ((k - 2 : Nat) : Int) J2 := e2.jok (by omega) (by omega)
            have HN := Lib.hid (And.intro e2 (And.intro e3 (And.intro e4 (And.intro e5 e6))))
            have HRm := Lib.hid (fun W (h : At w ((BD p pd 65536 T2 D2).star ((JO p1 p pd ((k - 2 : Nat) : Int) J2).star ((rowE TE 8 (.slice a2 q c2) q (ecells (spL (hv : Int) q))).star emp))) W) => (show Calls Tryz.prog 30 #[.pointer (some ⟨p1, 0, none⟩)] W (fun e w' => e = .returned (.int .i64 ((k : Int) - 2 - ((hv : Int) + (q : Int)))) ∧ At w ((BD p pd 65536 T2 D2).star ((JO p1 p pd ((k - 2 : Nat) : Int) J2).star ((rowE TE 8 (.slice a2 q c2) q (ecells (spL (hv : Int) q))).star emp))) w') from by
              have := jlroom ((rowE_good _ _ _ _ _).star emp_good) h hjok2
              rw [show ((k - 2 : Nat) : Int) - (J2.all.length : Int) = (k : Int) - 2 - ((hv : Int) + (q : Int)) by omega] at this
              exact this))
            have HEv := Lib.hid (fun W (h : At w ((BD p pd 65536 T2 D2).star ((JO p1 p pd ((k - 2 : Nat) : Int) J2).star ((rowE TE 8 (.slice a2 q c2) q (ecells (spL (hv : Int) q))).star emp))) W) => (show Calls Tryz.prog 26 #[.pointer (some ⟨p1, 0, none⟩)] W (fun e w' => ∃ ao cap, e = .returned (.slice ao (hv + q) cap) ∧ At w ((BD p pd 65536 T2 D2).star ((JO p1 p pd ((k - 2 : Nat) : Int) J2).star emp)) w') from by
              have := jlevents ((rowE_good _ _ _ _ _).star emp_good) h (by omega)
              rw [e4] at this
              exact this.mono fun e w' ⟨ao, cap, a, b⟩ => ⟨ao, cap, a, b.drop.drop3⟩))
            have hd : ¬ (k : Int) - 2 < (hv : Int) + (q : Int) := by omega
            have hcast : ((hv + q : Nat) : Int) = (hv : Int) + (q : Int) := by omega
            clear hAp r1 r2 e1 e2 e3 e4 e5 e6 hlen hjok hjok2 hroom
            go_wp2_with (first
              | (go_at_call 15; (with_reducible refine HAp.out.mono ?_); rintro e w5 ⟨rfl, hS5⟩)
              | (go_at_call 30; (with_reducible refine (HRm.out _ hS5).mono ?_); rintro e w6 ⟨rfl, hS6⟩)
              | (go_at_call 26; (with_reducible refine (HEv.out _ hS6).mono ?_); rintro e w7 ⟨a7, c7, rfl, hS7⟩)
              | (go_at_call 16; (with_reducible refine (lnum _ _).mono ?_); rintro e w9 ⟨rfl, rfl⟩))
            go_round
            case rel => exact ⟨i + 1, hv + q, T2, D2, J2, by omega, by omega, by go_num, by go_num, HN.out.1, HN.out.2.1, HN.out.2.2.1, HN.out.2.2.2.1, HN.out.2.2.2.2, hS7⟩
            case measure => simp [intOf]; omega
    · obtain ⟨y1, y2, y3, y4, y5, y6⟩ := hSf.reopen (most := 65536) (by omega) (by omega) (by omega)
      have hj6 : JOk (joT 65536 T D) (joD 65536 T D) ((k - 2 : Nat) : Int) (joJ 65536 T D) := y6.jok (by omega) (by rw [y4]; omega)
      have ha6 : (joJ 65536 T D).all.length = hv := by rw [y2]; exact hAl
      have hOp := jlopen ((JO_good _ _ _ _ _).star emp_good) HG.out hS hjok.ok (by omega) (by have := hjok.wl; omega) y1
      rw [hKl] at hOp
      generalize joT 65536 T D = T2 at *
      generalize joD 65536 T D = D2 at *
      generalize joJ 65536 T D = J2 at *
      have HOp := Lib.hid hOp
      have HRm := Lib.hid (fun W p2 (h : At w ((BD p pd 65536 T2 D2).star ((JO p2 p pd ((k - 2 : Nat) : Int) J2).star ((JO p1 p pd ((k - 2 : Nat) : Int) J).star emp))) W) => (show Calls Tryz.prog 30 #[.pointer (some ⟨p2, 0, none⟩)] W (fun e w' => e = .returned (.int .i64 ((k : Int) - 2 - (hv : Int))) ∧ At w ((BD p pd 65536 T2 D2).star ((JO p2 p pd ((k - 2 : Nat) : Int) J2).star ((JO p1 p pd ((k - 2 : Nat) : Int) J).star emp))) w') from by
        have := jlroom ((JO_good _ _ _ _ _).star emp_good) h hj6
        rw [show ((k - 2 : Nat) : Int) - (J2.all.length : Int) = (k : Int) - 2 - (hv : Int) by omega] at this
        exact this))
      have HEv := Lib.hid (fun W p2 (h : At w ((BD p pd 65536 T2 D2).star ((JO p2 p pd ((k - 2 : Nat) : Int) J2).star ((JO p1 p pd ((k - 2 : Nat) : Int) J).star emp))) W) => (show Calls Tryz.prog 26 #[.pointer (some ⟨p2, 0, none⟩)] W (fun e w' => ∃ ao cap, e = .returned (.slice ao hv cap) ∧ At w ((BD p pd 65536 T2 D2).star ((JO p2 p pd ((k - 2 : Nat) : Int) J2).star ((JO p1 p pd ((k - 2 : Nat) : Int) J).star emp))) w') from by
        have := jlevents ((JO_good _ _ _ _ _).star emp_good) h (by omega)
        rw [ha6] at this
        exact this.mono fun e w' ⟨ao, cap, a, b⟩ => ⟨ao, cap, a, b.drop⟩))
      have hx : ¬ ((i : Int) < zs.length ∧ (i : Int) < 30) := fun c => hgo (by omega)
      clear hOp hS hSf hBt hAl hKl hTl hjok y1 y2 y3 y4 y5 y6 hj6 ha6
      by_cases hlt : i < zs.length
      · have hge : ¬ (i : Int) < 30 := by omega
        clear hgo hx
        go_wp2_with (first
          | (go_at_call 34; (with_reducible refine HOp.out.mono ?_); rintro e w4 ⟨p2, rfl, hS4⟩)
          | (go_at_call 30; (with_reducible refine (HRm.out _ _ hS5).mono ?_); rintro e w6 ⟨rfl, hS6⟩)
          | (go_at_call 26; (with_reducible refine (HEv.out _ _ hS4).mono ?_); rintro e w5 ⟨a7, c7, rfl, hS5⟩)
          | (go_at_call 16; (with_reducible refine (lnum _ _).mono ?_); rintro e w9 ⟨rfl, rfl⟩))
        go_ret
        exact ⟨rfl, hS6.bel⟩
      · clear hgo hx
        go_wp2_with (first
          | (go_at_call 34; (with_reducible refine HOp.out.mono ?_); rintro e w4 ⟨p2, rfl, hS4⟩)
          | (go_at_call 30; (with_reducible refine (HRm.out _ _ hS5).mono ?_); rintro e w6 ⟨rfl, hS6⟩)
          | (go_at_call 26; (with_reducible refine (HEv.out _ _ hS4).mono ?_); rintro e w5 ⟨a7, c7, rfl, hS5⟩)
          | (go_at_call 16; (with_reducible refine (lnum _ _).mono ?_); rintro e w9 ⟨rfl, rfl⟩))
        go_ret
        exact ⟨rfl, hS6.bel⟩
end Go.Proofs.YtbfpfmidjdonjaaGreatDoor
