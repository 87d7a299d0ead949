/- The walk of JournalForms. Condition: the handle of the type error. (Written by tools/genjforms.py.) -/
import Derived.Test.YtbfpfmidjdonjaaGreatDoorJfo
namespace Go.Proofs.YtbfpfmidjdonjaaGreatDoor
open Go Go.RowKit

theorem mask1023 (z : Int) : bits .and .i64 z 1023 = z % 1024 := by
  have := i64_mask z 10 (by omega)
  simpa using this
set_option maxRecDepth 100000 in
set_option maxHeartbeats 16000000 in
theorem jforms0 (n x dv : Int) (hd : 1 + x % 1024 = dv) (hd1 : 1 ≤ dv) (hj : (IntKind.u64.wrap n).tmod 4 = 0) (w : World) (hg : Gd w) :
    Calls Tryz.prog 5 #[.int .i64 n, .int .i64 x] w fun e w' => e = .returned (.bool true) ∧ Below w.heap.size w w' := by
  have HG := Lib.hid hg
  have m10 := mask1023 x
  have hdw : IntKind.i64.wrap (1 + x % 1024) = dv := by rw [IntKind.wrap_i64]; omega
  have h9 : IntKind.i64.wrap (9 + dv) = 9 + dv := IntWalk.i64_in _ (by omega)
  have hneg : IntKind.i64.wrap (-dv) = -dv := IntWalk.i64_in _ (by omega)
  obtain ⟨s1, s2, s3, s4, s5, _⟩ := start_safe (most := 99) (n := 6) (by decide) (by decide) (by decide)
  have hok0 : (Dk.new 6).Ok := Dk.ok_new (by omega) (by omega)
  have hok2 : (Dk.new 2).Ok := Dk.ok_new (by omega) (by omega)
  have HO := Lib.hid (fun (W : World) (pb p6 : Nat) (h : At w ((BD pb p6 99 [] (Dk.new 6)).star emp) W) => (show Calls Tryz.prog 34 #[.pointer (some ⟨pb, 0, none⟩), .pointer (some ⟨p6, 0, none⟩)] W (fun e w' => ∃ p : Nat, e = .returned (.tuple #[.pointer (some ⟨p, 0, none⟩), .int .i64 0]) ∧ At w ((BD pb p6 99 (joT 99 [] (Dk.new 6)) (joD 99 [] (Dk.new 6))).star ((JO p pb p6 4 (joJ 99 [] (Dk.new 6))).star emp)) w') from by have := jlopen emp_good hg h hok0 (by simp) (by simp [Dk.new]) s1; exact this))
  have HO2 := Lib.hid (fun (W : World) (pb p2 p6 : Nat) (h : At w ((BD pb p2 99 [] (Dk.new 2)).star ((dpA p6 (Dk.new 6)).star emp)) W) => (show Calls Tryz.prog 34 #[.pointer (some ⟨pb, 0, none⟩), .pointer (some ⟨p2, 0, none⟩)] W (fun e w' => e = .returned (.tuple #[.pointer none, .int .i64 1100]) ∧ At w ((BD pb p6 99 [] (Dk.new 6)).star emp) w') from by
    have := jlopen_no ((dpA_good _ _).star emp_good) hg h hok2 (by simp) (by simp [Dk.new]) (by rw [small_open.1]; decide)
    rw [small_open.1, small_open.2] at this
    exact this.mono fun e w' ⟨q1, q2⟩ => ⟨q1, lawother q2⟩))
  generalize joT 99 [] (Dk.new 6) = T1 at *
  generalize joD 99 [] (Dk.new 6) = D1 at *
  generalize joJ 99 [] (Dk.new 6) = J1 at *
  have ha1 : J1.all = [] := by rw [s2]
  have hb1 : J1.boot = 1 := by rw [s2]
  have hjok1 : JOk T1 D1 4 J1 := s3.jok (by omega) (by rw [s5]; rfl)
  have HR1 := Lib.hid (fun W pb p6 p1 (h : At w ((BD pb p6 99 T1 D1).star ((JO p1 pb p6 4 J1).star emp)) W) => (show Calls Tryz.prog 30 #[.pointer (some ⟨p1, 0, none⟩)] W (fun e w' => e = .returned (.int .i64 4) ∧ At w ((BD pb p6 99 T1 D1).star ((JO p1 pb p6 4 J1).star emp)) w') from by
    have := jlroom emp_good h hjok1
    rw [ha1] at this
    exact this))
  obtain ⟨e1, e2, e3, e4, e5, e6, _⟩ := s3.append (most := 99) [⟨0, 0, 0, 0, 0, 0, 0, 3⟩] (fun e he => by simp at he; subst he; decide) (by rw [ha1, s5]; decide) (by show ((T1.length + 1 : Nat) : Int) ≤ 99; omega) (by show T1.length + 1 ≤ _; omega) (by rw [hb1]; decide)
  have HA1 := Lib.hid (fun W pb p6 p1 (h : At w ((BD pb p6 99 T1 D1).star ((JO p1 pb p6 4 J1).star emp)) W) n (hn : n = W.heap.size) => (show Calls Tryz.prog 15 #[.pointer (some ⟨p1, 0, none⟩), .slice (some ⟨n, 0, none⟩) 1 1] (W.alloc (.cells #[.int .i64 0, .int .i64 0, .int .i64 0, .int .i64 0, .int .i64 0, .int .i64 0, .int .i64 0, .int .i64 3] 61)) (fun e w' => e = .returned (.int .i64 0) ∧ At w ((BD pb p6 99 (jpT 99 T1 J1 D1 [⟨0, 0, 0, 0, 0, 0, 0, 3⟩]) (apD 99 T1 J1 D1 [⟨0, 0, 0, 0, 0, 0, 0, 3⟩])).star ((JO p1 pb p6 4 (apJ 99 T1 J1 D1 [⟨0, 0, 0, 0, 0, 0, 0, 3⟩])).star emp)) w') from by
    subst hn
    have := jlapp emp_good h hjok1 [⟨0, 0, 0, 0, 0, 0, 0, 3⟩] (by decide) rfl
    rw [e1] at this
    exact this))
  have e5' : (jpT 99 T1 J1 D1 [⟨0, 0, 0, 0, 0, 0, 0, 3⟩]).length = T1.length + 1 := e5
  generalize jpT 99 T1 J1 D1 [⟨0, 0, 0, 0, 0, 0, 0, 3⟩] = T2 at *
  generalize apD 99 T1 J1 D1 [⟨0, 0, 0, 0, 0, 0, 0, 3⟩] = D2 at *
  generalize apJ 99 T1 J1 D1 [⟨0, 0, 0, 0, 0, 0, 0, 3⟩] = J2 at *
  rw [ha1] at e2
  rw [s5] at e4
  have ha2 : J2.all = [⟨0, 0, 0, 0, 0, 0, 0, 3⟩] := e2
  have hjok2 : JOk T2 D2 4 J2 := e6.jok (by omega) (by rw [e4]; rfl)
  obtain ⟨v1, v2⟩ := e6.form (most := 99) [⟨0, 0, 0, 0, 0, 0, 0, 0⟩, ⟨(9 + dv), 0, 0, 0, 0, 0, 0, 0⟩] (by simp [List.all_cons, may_kind hd1])
  have v3 : jpE 99 T2 J2 D2 [⟨0, 0, 0, 0, 0, 0, 0, 0⟩, ⟨(9 + dv), 0, 0, 0, 0, 0, 0, 0⟩] ≠ 0 := by rw [v1]; decide
  have HAe := Lib.hid (fun W pb p6 p1 (h : At w ((BD pb p6 99 T2 D2).star ((JO p1 pb p6 4 J2).star emp)) W) n (hn : W.heap.size = n) => (show Calls Tryz.prog 15 #[.pointer (some ⟨p1, 0, none⟩), .slice (some ⟨n, 0, none⟩) 2 2] (W.alloc (.cells #[.int .i64 0, .int .i64 0, .int .i64 0, .int .i64 0, .int .i64 0, .int .i64 0, .int .i64 0, .int .i64 0, .int .i64 (9 + dv), .int .i64 0, .int .i64 0, .int .i64 0, .int .i64 0, .int .i64 0, .int .i64 0, .int .i64 0] 61)) (fun e w' => e = .returned (.int .i64 1100) ∧ At w ((rowE TE 8 (.slice (some ⟨n, 0, none⟩) 2 2) ([⟨0, 0, 0, 0, 0, 0, 0, 0⟩, ⟨(9 + dv), 0, 0, 0, 0, 0, 0, 0⟩] : List Ev).length (ecells [⟨0, 0, 0, 0, 0, 0, 0, 0⟩, ⟨(9 + dv), 0, 0, 0, 0, 0, 0, 0⟩])).star ((BD pb p6 99 T2 D2).star ((JO p1 pb p6 4 J2).star emp))) w') from by
    have h1 := h.litrow ((BD_good _ _ _ _ _).star ((JO_good _ _ _ _ _).star emp_good)) [⟨0, 0, 0, 0, 0, 0, 0, 0⟩, ⟨(9 + dv), 0, 0, 0, 0, 0, 0, 0⟩] 2 n rfl (by omega) hn (cs := #[.int .i64 0, .int .i64 0, .int .i64 0, .int .i64 0, .int .i64 0, .int .i64 0, .int .i64 0, .int .i64 0, .int .i64 (9 + dv), .int .i64 0, .int .i64 0, .int .i64 0, .int .i64 0, .int .i64 0, .int .i64 0, .int .i64 0]) rfl
    have h2 := h1.imp ((Ass.imp.swap _ _ _).trans ((Ass.imp.swap _ _ _).under _))
    have := jlappR emp_good (some ⟨n, 0, none⟩) 2 [⟨0, 0, 0, 0, 0, 0, 0, 0⟩, ⟨(9 + dv), 0, 0, 0, 0, 0, 0, 0⟩] h2 hjok2 (by simp)
    rw [v1, v2, apD_no v3, apJ_no v3] at this
    exact this.mono fun e w' ⟨q1, q2⟩ => ⟨q1, q2.imp (Ass.imp.up2 _ _ _ _)⟩))
  have HWe := Lib.hid (fun W pb p6 p1 n (h : At w ((rowE TE 8 (.slice (some ⟨n, 0, none⟩) 2 2) ([⟨0, 0, 0, 0, 0, 0, 0, 0⟩, ⟨(9 + dv), 0, 0, 0, 0, 0, 0, 0⟩] : List Ev).length (ecells [⟨0, 0, 0, 0, 0, 0, 0, 0⟩, ⟨(9 + dv), 0, 0, 0, 0, 0, 0, 0⟩])).star ((BD pb p6 99 T2 D2).star ((JO p1 pb p6 4 J2).star emp))) W) => (show Calls Tryz.prog 18 #[.pointer (some ⟨p1, 0, none⟩), .slice (some ⟨n, 0, none⟩) 2 2] W (fun e w' => e = .returned (.int .i64 1100) ∧ At w ((BD pb p6 99 T2 D2).star ((JO p1 pb p6 4 J2).star emp)) w') from by
    have h2 := h.imp ((Ass.imp.swap _ _ _).trans ((Ass.imp.swap _ _ _).under _))
    have := jlwrtR emp_good (some ⟨n, 0, none⟩) 2 [⟨0, 0, 0, 0, 0, 0, 0, 0⟩, ⟨(9 + dv), 0, 0, 0, 0, 0, 0, 0⟩] h2 hjok2 (by simp)
    rw [v1, v2, wtD_no v3, wtJ_no v3] at this
    exact this.mono fun e w' ⟨q1, q2⟩ => ⟨q1, (q2.imp (Ass.imp.up2 _ _ _ _)).drop⟩))
  obtain ⟨f1, f2, f3, f4, f5, f6, _⟩ := e6.append (most := 99) [] (fun e he => by cases he) (by rw [ha2, e4]; decide) (by show ((T2.length + 0 : Nat) : Int) ≤ 99; omega) (by show T2.length + 0 ≤ _; omega) (by rw [e3, hb1]; decide)
  have HA0 := Lib.hid (fun W pb p6 p1 (h : At w ((BD pb p6 99 T2 D2).star ((JO p1 pb p6 4 J2).star emp)) W) => (show Calls Tryz.prog 15 #[.pointer (some ⟨p1, 0, none⟩), .slice none 0 0] W (fun e w' => e = .returned (.int .i64 0) ∧ At w ((BD pb p6 99 (jpT 99 T2 J2 D2 []) (apD 99 T2 J2 D2 [])).star ((JO p1 pb p6 4 (apJ 99 T2 J2 D2 [])).star emp)) w') from by
    have := jlapp0 emp_good h hjok2
    rw [f1] at this
    exact this))
  have f5' : (jpT 99 T2 J2 D2 []).length = T2.length + 0 := f5
  generalize jpT 99 T2 J2 D2 [] = T3 at *
  generalize apD 99 T2 J2 D2 [] = D3 at *
  generalize apJ 99 T2 J2 D2 [] = J3 at *
  have ha3 : J3.all = [⟨0, 0, 0, 0, 0, 0, 0, 3⟩] := by rw [f2, ha2]; rfl
  rw [e4] at f4
  obtain ⟨g1, g2, g3⟩ := f6.dead
  have HCr := Lib.hid (fun W pb p6 p1 (h : At w ((BD pb p6 99 T3 D3).star ((JO p1 pb p6 4 J3).star emp)) W) => jldisk ((JO_good p1 pb p6 4 J3).star emp_good) (kpcrash p6 D3 0 0 (by decide) (by decide)) h)
  generalize D3.cr 0 0 = D4 at *
  have hjok4 : JOk T3 D4 4 J3 := ⟨⟨by rw [g2, f4]; decide, by rw [g2, f4]; decide, by rw [g2]; exact f6.calm.sz, fun x hx => by rw [g3] at hx; cases hx⟩, by rw [g2, f4]; decide, by rw [g2, f4]; decide, by omega, by rw [g3]; decide, by rw [ha3, g2, f4]; decide⟩
  obtain ⟨d1, d2⟩ := dead_put (most := 99) (ts := T3) (J := J3) g1 [⟨0, 0, 0, 0, 0, 0, 0, 0⟩]
  obtain ⟨d3, d4⟩ := dead_open (most := 99) (ts := T3) g1
  have HAd := Lib.hid (fun W pb p6 p1 (h : At w ((BD pb p6 99 T3 D4).star ((JO p1 pb p6 4 J3).star emp)) W) n (hn : n = W.heap.size) => (show Calls Tryz.prog 15 #[.pointer (some ⟨p1, 0, none⟩), .slice (some ⟨n, 0, none⟩) 1 1] (W.alloc (.cells #[.int .i64 0, .int .i64 0, .int .i64 0, .int .i64 0, .int .i64 0, .int .i64 0, .int .i64 0, .int .i64 0] 61)) (fun e w' => e = .returned (.int .i64 1102) ∧ At w ((BD pb p6 99 T3 D4).star ((JO p1 pb p6 4 J3).star emp)) w') from by
    subst hn
    exact jlapp_no emp_good h hjok4 [⟨0, 0, 0, 0, 0, 0, 0, 0⟩] (by decide) rfl d1 (by decide) d2))
  have HOd := Lib.hid (fun W pb p6 p1 (h : At w ((BD pb p6 99 T3 D4).star ((JO p1 pb p6 4 J3).star emp)) W) => (show Calls Tryz.prog 34 #[.pointer (some ⟨pb, 0, none⟩), .pointer (some ⟨p6, 0, none⟩)] W (fun e w' => e = .returned (.tuple #[.pointer none, .int .i64 1102]) ∧ At w ((BD pb p6 99 T3 D4).star ((JO p1 pb p6 4 J3).star emp)) w') from by
    have := jlopen_no ((JO_good _ _ _ _ _).star emp_good) hg h hjok4.ok (by omega) (by rw [g3]; decide) (by rw [d3]; decide)
    rw [d3, d4] at this
    exact this))
  have HEv := Lib.hid (fun W pb p6 p1 (h : At w ((BD pb p6 99 T3 D4).star ((JO p1 pb p6 4 J3).star emp)) W) => (show Calls Tryz.prog 26 #[.pointer (some ⟨p1, 0, none⟩)] W (fun e w' => ∃ ao cap, e = .returned (.slice ao 1 cap) ∧ At w ((rowE TE 8 (.slice ao 1 cap) ([⟨0, 0, 0, 0, 0, 0, 0, 3⟩] : List Ev).length (ecells [⟨0, 0, 0, 0, 0, 0, 0, 3⟩])).star ((BD pb p6 99 T3 D4).star ((JO p1 pb p6 4 J3).star emp))) w') from by
    have := jlevents emp_good h (by rw [ha3]; decide)
    rw [ha3] at this
    exact this))
  have HSm := Lib.hid (fun W pb p6 p1 ao ca (h : At w ((rowE TE 8 (.slice ao 1 ca) ([⟨0, 0, 0, 0, 0, 0, 0, 3⟩] : List Ev).length (ecells [⟨0, 0, 0, 0, 0, 0, 0, 3⟩])).star ((BD pb p6 99 T3 D4).star ((JO p1 pb p6 4 J3).star emp))) W) n (hn : n = W.heap.size) => (show Calls Tryz.prog 28 #[.slice ao 1 ca, .slice (some ⟨n, 0, none⟩) 1 1] (W.alloc (.cells #[.int .i64 0, .int .i64 0, .int .i64 0, .int .i64 0, .int .i64 0, .int .i64 0, .int .i64 0, .int .i64 3] 61)) (fun e w' => e = .returned (.bool true) ∧ At w ((BD pb p6 99 T3 D4).star ((JO p1 pb p6 4 J3).star emp)) w') from by
    subst hn
    have h1 := h.lay ((rowE_good _ _ _ _ _).star ((BD_good _ _ _ _ _).star ((JO_good _ _ _ _ _).star emp_good))) (balloc W (.cells #[.int .i64 0, .int .i64 0, .int .i64 0, .int .i64 0, .int .i64 0, .int .i64 0, .int .i64 0, .int .i64 3] 61))
    exact (lsame_ev (esin_at (es := [⟨0, 0, 0, 0, 0, 0, 0, 3⟩]) h1 (by decide)) (esin_lit (w0 := w) (F := []) (w := W) [⟨0, 0, 0, 0, 0, 0, 0, 3⟩] (fun k hk => by cases hk) rfl (by decide))).mono fun e w' ⟨q1, q2⟩ => ⟨by rw [q1]; rfl, h1.drop.lay ((BD_good _ _ _ _ _).star ((JO_good _ _ _ _ _).star emp_good)) q2⟩))
  have HR4 := Lib.hid (fun W pb p6 p1 (h : At w ((BD pb p6 99 T3 D4).star ((JO p1 pb p6 4 J3).star emp)) W) => (show Calls Tryz.prog 30 #[.pointer (some ⟨p1, 0, none⟩)] W (fun e w' => e = .returned (.int .i64 3) ∧ At w ((BD pb p6 99 T3 D4).star ((JO p1 pb p6 4 J3).star emp)) w') from by
    have := jlroom emp_good h hjok4
    rw [ha3] at this
    exact this))
  clear hd hg s1 s2 s3 s4 s5 hok0 hok2 ha1 hb1 hjok1 e1 e2 e3 e4 e5 e6 e5' ha2 hjok2 v1 v2 v3 f1 f2 f3 f4 f5 f6 f5' ha3 g1 g2 g3 hjok4 d1 d2 d3 d4 hd1
  go_enter Tryz.func5, Tryz.ntmps5
  go_wp2_with (first
    | (go_at_call 12; (with_reducible refine (awake11 _ HG.out).mono ?_); rintro e w1 ⟨rfl, hb0⟩)
    | (go_at_call 10; (with_reducible refine (twin_none11 99 _ (by omega) (by omega)).mono ?_); rintro e w1 ⟨pb, qb, rfl, hb⟩)
    | (go_at_call 11; first
        | ((with_reducible refine (pair_at11 2 2 rfl _ (by omega) (by omega)).mono ?_); rintro e w2 ⟨p2, q2, rfl, hp⟩; have hS := (lawdrop ((lawstart hb hp).imp (Ass.imp.comm _ _)).drop); clear hb hp)
        | ((with_reducible refine (pair_at11 6 6 rfl _ (by omega) (by omega)).mono ?_); rintro e w2 ⟨p6, q6, rfl, hp⟩; replace hS := (lawdisk hS hp).under hb0; clear hp hb0))
    | (go_at_call 34; first
        | ((with_reducible refine (jopen_nil2 _ _).mono ?_); rintro e w9 ⟨rfl, rfl⟩)
        | ((with_reducible refine (HO2.out _ _ _ _ hS).mono ?_); rintro e w3 ⟨rfl, hS3⟩; clear hS)
        | ((with_reducible refine (HO.out _ _ _ hS3).mono ?_); rintro e w3 ⟨p1, rfl, hS4⟩; clear hS3)
        | ((with_reducible refine (HOd.out _ _ _ _ hS8).mono ?_); rintro e w3 ⟨rfl, hS9⟩; clear hS8))
    | (go_at_call 30; first
        | ((with_reducible refine (HR1.out _ _ _ _ hS4).mono ?_); rintro e w4 ⟨rfl, hS5⟩; replace hS4 := hS5; clear hS5)
        | ((with_reducible refine (HR4.out _ _ _ _ hSb).mono ?_); rintro e w4 ⟨rfl, hSc⟩))
    | (go_at_call 15; first
        | ((with_reducible refine (HA1.out _ _ _ _ hS4 _ ?hn).mono ?_); (case hn => simp); rintro e w5 ⟨rfl, hS5⟩; clear hS4)
        | ((with_reducible refine (HAe.out _ _ _ _ hS5 _ ?hn).mono ?_); (case hn => simp); rintro e w5 ⟨rfl, hS6⟩; clear hS5)
        | ((with_reducible refine (HA0.out _ _ _ _ hS6).mono ?_); rintro e w5 ⟨rfl, hS7⟩; clear hS6)
        | ((with_reducible refine (HAd.out _ _ _ _ hS7 _ ?hn).mono ?_); (case hn => simp); rintro e w5 ⟨rfl, hS8⟩; clear hS7))
    | (go_at_call 18; (with_reducible refine (HWe.out _ _ _ _ _ hS6).mono ?_); rintro e w5 ⟨rfl, hS7⟩; replace hS6 := hS7; clear hS7)
    | (go_at_call 24; (with_reducible refine (HCr.out _ _ _ _ hS7).mono ?_); rintro e w5 ⟨rfl, hS8⟩; replace hS7 := hS8; clear hS8)
    | (go_at_call 26; (with_reducible refine (HEv.out _ _ _ _ hS9).mono ?_); rintro e w6 ⟨ao6, ca6, rfl, hSa⟩)
    | (go_at_call 28; (with_reducible refine (HSm.out _ _ _ _ _ _ hSa _ ?hn).mono ?_); (case hn => simp); rintro e w7 ⟨rfl, hSb⟩)
    | (go_at_call 16; (with_reducible refine (lnum _ _).mono ?_); rintro e w9 ⟨rfl, rfl⟩))
  go_ret
  exact ⟨rfl, hSc.bel⟩
set_option maxRecDepth 100000 in
set_option maxHeartbeats 16000000 in
theorem jforms1 (n x dv : Int) (hd : 1 + x % 1024 = dv) (hd1 : 1 ≤ dv) (hj : (IntKind.u64.wrap n).tmod 4 = 1) (w : World) (hg : Gd w) :
    Calls Tryz.prog 5 #[.int .i64 n, .int .i64 x] w fun e w' => e = .returned (.bool true) ∧ Below w.heap.size w w' := by
  have HG := Lib.hid hg
  have m10 := mask1023 x
  have hdw : IntKind.i64.wrap (1 + x % 1024) = dv := by rw [IntKind.wrap_i64]; omega
  have h9 : IntKind.i64.wrap (9 + dv) = 9 + dv := IntWalk.i64_in _ (by omega)
  have hneg : IntKind.i64.wrap (-dv) = -dv := IntWalk.i64_in _ (by omega)
  obtain ⟨s1, s2, s3, s4, s5, _⟩ := start_safe (most := 99) (n := 6) (by decide) (by decide) (by decide)
  have hok0 : (Dk.new 6).Ok := Dk.ok_new (by omega) (by omega)
  have hok2 : (Dk.new 2).Ok := Dk.ok_new (by omega) (by omega)
  have HO := Lib.hid (fun (W : World) (pb p6 : Nat) (h : At w ((BD pb p6 99 [] (Dk.new 6)).star emp) W) => (show Calls Tryz.prog 34 #[.pointer (some ⟨pb, 0, none⟩), .pointer (some ⟨p6, 0, none⟩)] W (fun e w' => ∃ p : Nat, e = .returned (.tuple #[.pointer (some ⟨p, 0, none⟩), .int .i64 0]) ∧ At w ((BD pb p6 99 (joT 99 [] (Dk.new 6)) (joD 99 [] (Dk.new 6))).star ((JO p pb p6 4 (joJ 99 [] (Dk.new 6))).star emp)) w') from by have := jlopen emp_good hg h hok0 (by simp) (by simp [Dk.new]) s1; exact this))
  have HO2 := Lib.hid (fun (W : World) (pb p2 p6 : Nat) (h : At w ((BD pb p2 99 [] (Dk.new 2)).star ((dpA p6 (Dk.new 6)).star emp)) W) => (show Calls Tryz.prog 34 #[.pointer (some ⟨pb, 0, none⟩), .pointer (some ⟨p2, 0, none⟩)] W (fun e w' => e = .returned (.tuple #[.pointer none, .int .i64 1100]) ∧ At w ((BD pb p6 99 [] (Dk.new 6)).star emp) w') from by
    have := jlopen_no ((dpA_good _ _).star emp_good) hg h hok2 (by simp) (by simp [Dk.new]) (by rw [small_open.1]; decide)
    rw [small_open.1, small_open.2] at this
    exact this.mono fun e w' ⟨q1, q2⟩ => ⟨q1, lawother q2⟩))
  generalize joT 99 [] (Dk.new 6) = T1 at *
  generalize joD 99 [] (Dk.new 6) = D1 at *
  generalize joJ 99 [] (Dk.new 6) = J1 at *
  have ha1 : J1.all = [] := by rw [s2]
  have hb1 : J1.boot = 1 := by rw [s2]
  have hjok1 : JOk T1 D1 4 J1 := s3.jok (by omega) (by rw [s5]; rfl)
  have HR1 := Lib.hid (fun W pb p6 p1 (h : At w ((BD pb p6 99 T1 D1).star ((JO p1 pb p6 4 J1).star emp)) W) => (show Calls Tryz.prog 30 #[.pointer (some ⟨p1, 0, none⟩)] W (fun e w' => e = .returned (.int .i64 4) ∧ At w ((BD pb p6 99 T1 D1).star ((JO p1 pb p6 4 J1).star emp)) w') from by
    have := jlroom emp_good h hjok1
    rw [ha1] at this
    exact this))
  obtain ⟨e1, e2, e3, e4, e5, e6, _⟩ := s3.append (most := 99) [⟨0, 0, 0, 0, 0, 0, 0, 3⟩] (fun e he => by simp at he; subst he; decide) (by rw [ha1, s5]; decide) (by show ((T1.length + 1 : Nat) : Int) ≤ 99; omega) (by show T1.length + 1 ≤ _; omega) (by rw [hb1]; decide)
  have HA1 := Lib.hid (fun W pb p6 p1 (h : At w ((BD pb p6 99 T1 D1).star ((JO p1 pb p6 4 J1).star emp)) W) n (hn : n = W.heap.size) => (show Calls Tryz.prog 15 #[.pointer (some ⟨p1, 0, none⟩), .slice (some ⟨n, 0, none⟩) 1 1] (W.alloc (.cells #[.int .i64 0, .int .i64 0, .int .i64 0, .int .i64 0, .int .i64 0, .int .i64 0, .int .i64 0, .int .i64 3] 61)) (fun e w' => e = .returned (.int .i64 0) ∧ At w ((BD pb p6 99 (jpT 99 T1 J1 D1 [⟨0, 0, 0, 0, 0, 0, 0, 3⟩]) (apD 99 T1 J1 D1 [⟨0, 0, 0, 0, 0, 0, 0, 3⟩])).star ((JO p1 pb p6 4 (apJ 99 T1 J1 D1 [⟨0, 0, 0, 0, 0, 0, 0, 3⟩])).star emp)) w') from by
    subst hn
    have := jlapp emp_good h hjok1 [⟨0, 0, 0, 0, 0, 0, 0, 3⟩] (by decide) rfl
    rw [e1] at this
    exact this))
  have e5' : (jpT 99 T1 J1 D1 [⟨0, 0, 0, 0, 0, 0, 0, 3⟩]).length = T1.length + 1 := e5
  generalize jpT 99 T1 J1 D1 [⟨0, 0, 0, 0, 0, 0, 0, 3⟩] = T2 at *
  generalize apD 99 T1 J1 D1 [⟨0, 0, 0, 0, 0, 0, 0, 3⟩] = D2 at *
  generalize apJ 99 T1 J1 D1 [⟨0, 0, 0, 0, 0, 0, 0, 3⟩] = J2 at *
  rw [ha1] at e2
  rw [s5] at e4
  have ha2 : J2.all = [⟨0, 0, 0, 0, 0, 0, 0, 3⟩] := e2
  have hjok2 : JOk T2 D2 4 J2 := e6.jok (by omega) (by rw [e4]; rfl)
  obtain ⟨v1, v2⟩ := e6.form (most := 99) [⟨0, 0, 0, 0, 0, 0, 0, (-dv)⟩] (by simp [List.all_cons, may_tick hd1])
  have v3 : jpE 99 T2 J2 D2 [⟨0, 0, 0, 0, 0, 0, 0, (-dv)⟩] ≠ 0 := by rw [v1]; decide
  have HAe := Lib.hid (fun W pb p6 p1 (h : At w ((BD pb p6 99 T2 D2).star ((JO p1 pb p6 4 J2).star emp)) W) n (hn : W.heap.size = n) => (show Calls Tryz.prog 15 #[.pointer (some ⟨p1, 0, none⟩), .slice (some ⟨n, 0, none⟩) 1 1] (W.alloc (.cells #[.int .i64 0, .int .i64 0, .int .i64 0, .int .i64 0, .int .i64 0, .int .i64 0, .int .i64 0, .int .i64 (-dv)] 61)) (fun e w' => e = .returned (.int .i64 1100) ∧ At w ((rowE TE 8 (.slice (some ⟨n, 0, none⟩) 1 1) ([⟨0, 0, 0, 0, 0, 0, 0, (-dv)⟩] : List Ev).length (ecells [⟨0, 0, 0, 0, 0, 0, 0, (-dv)⟩])).star ((BD pb p6 99 T2 D2).star ((JO p1 pb p6 4 J2).star emp))) w') from by
    have h1 := h.litrow ((BD_good _ _ _ _ _).star ((JO_good _ _ _ _ _).star emp_good)) [⟨0, 0, 0, 0, 0, 0, 0, (-dv)⟩] 1 n rfl (by omega) hn (cs := #[.int .i64 0, .int .i64 0, .int .i64 0, .int .i64 0, .int .i64 0, .int .i64 0, .int .i64 0, .int .i64 (-dv)]) rfl
    have h2 := h1.imp ((Ass.imp.swap _ _ _).trans ((Ass.imp.swap _ _ _).under _))
    have := jlappR emp_good (some ⟨n, 0, none⟩) 1 [⟨0, 0, 0, 0, 0, 0, 0, (-dv)⟩] h2 hjok2 (by simp)
    rw [v1, v2, apD_no v3, apJ_no v3] at this
    exact this.mono fun e w' ⟨q1, q2⟩ => ⟨q1, q2.imp (Ass.imp.up2 _ _ _ _)⟩))
  have HWe := Lib.hid (fun W pb p6 p1 n (h : At w ((rowE TE 8 (.slice (some ⟨n, 0, none⟩) 1 1) ([⟨0, 0, 0, 0, 0, 0, 0, (-dv)⟩] : List Ev).length (ecells [⟨0, 0, 0, 0, 0, 0, 0, (-dv)⟩])).star ((BD pb p6 99 T2 D2).star ((JO p1 pb p6 4 J2).star emp))) W) => (show Calls Tryz.prog 18 #[.pointer (some ⟨p1, 0, none⟩), .slice (some ⟨n, 0, none⟩) 1 1] W (fun e w' => e = .returned (.int .i64 1100) ∧ At w ((BD pb p6 99 T2 D2).star ((JO p1 pb p6 4 J2).star emp)) w') from by
    have h2 := h.imp ((Ass.imp.swap _ _ _).trans ((Ass.imp.swap _ _ _).under _))
    have := jlwrtR emp_good (some ⟨n, 0, none⟩) 1 [⟨0, 0, 0, 0, 0, 0, 0, (-dv)⟩] h2 hjok2 (by simp)
    rw [v1, v2, wtD_no v3, wtJ_no v3] at this
    exact this.mono fun e w' ⟨q1, q2⟩ => ⟨q1, (q2.imp (Ass.imp.up2 _ _ _ _)).drop⟩))
  obtain ⟨f1, f2, f3, f4, f5, f6, _⟩ := e6.append (most := 99) [] (fun e he => by cases he) (by rw [ha2, e4]; decide) (by show ((T2.length + 0 : Nat) : Int) ≤ 99; omega) (by show T2.length + 0 ≤ _; omega) (by rw [e3, hb1]; decide)
  have HA0 := Lib.hid (fun W pb p6 p1 (h : At w ((BD pb p6 99 T2 D2).star ((JO p1 pb p6 4 J2).star emp)) W) => (show Calls Tryz.prog 15 #[.pointer (some ⟨p1, 0, none⟩), .slice none 0 0] W (fun e w' => e = .returned (.int .i64 0) ∧ At w ((BD pb p6 99 (jpT 99 T2 J2 D2 []) (apD 99 T2 J2 D2 [])).star ((JO p1 pb p6 4 (apJ 99 T2 J2 D2 [])).star emp)) w') from by
    have := jlapp0 emp_good h hjok2
    rw [f1] at this
    exact this))
  have f5' : (jpT 99 T2 J2 D2 []).length = T2.length + 0 := f5
  generalize jpT 99 T2 J2 D2 [] = T3 at *
  generalize apD 99 T2 J2 D2 [] = D3 at *
  generalize apJ 99 T2 J2 D2 [] = J3 at *
  have ha3 : J3.all = [⟨0, 0, 0, 0, 0, 0, 0, 3⟩] := by rw [f2, ha2]; rfl
  rw [e4] at f4
  obtain ⟨g1, g2, g3⟩ := f6.dead
  have HCr := Lib.hid (fun W pb p6 p1 (h : At w ((BD pb p6 99 T3 D3).star ((JO p1 pb p6 4 J3).star emp)) W) => jldisk ((JO_good p1 pb p6 4 J3).star emp_good) (kpcrash p6 D3 0 0 (by decide) (by decide)) h)
  generalize D3.cr 0 0 = D4 at *
  have hjok4 : JOk T3 D4 4 J3 := ⟨⟨by rw [g2, f4]; decide, by rw [g2, f4]; decide, by rw [g2]; exact f6.calm.sz, fun x hx => by rw [g3] at hx; cases hx⟩, by rw [g2, f4]; decide, by rw [g2, f4]; decide, by omega, by rw [g3]; decide, by rw [ha3, g2, f4]; decide⟩
  obtain ⟨d1, d2⟩ := dead_put (most := 99) (ts := T3) (J := J3) g1 [⟨0, 0, 0, 0, 0, 0, 0, 0⟩]
  obtain ⟨d3, d4⟩ := dead_open (most := 99) (ts := T3) g1
  have HAd := Lib.hid (fun W pb p6 p1 (h : At w ((BD pb p6 99 T3 D4).star ((JO p1 pb p6 4 J3).star emp)) W) n (hn : n = W.heap.size) => (show Calls Tryz.prog 15 #[.pointer (some ⟨p1, 0, none⟩), .slice (some ⟨n, 0, none⟩) 1 1] (W.alloc (.cells #[.int .i64 0, .int .i64 0, .int .i64 0, .int .i64 0, .int .i64 0, .int .i64 0, .int .i64 0, .int .i64 0] 61)) (fun e w' => e = .returned (.int .i64 1102) ∧ At w ((BD pb p6 99 T3 D4).star ((JO p1 pb p6 4 J3).star emp)) w') from by
    subst hn
    exact jlapp_no emp_good h hjok4 [⟨0, 0, 0, 0, 0, 0, 0, 0⟩] (by decide) rfl d1 (by decide) d2))
  have HOd := Lib.hid (fun W pb p6 p1 (h : At w ((BD pb p6 99 T3 D4).star ((JO p1 pb p6 4 J3).star emp)) W) => (show Calls Tryz.prog 34 #[.pointer (some ⟨pb, 0, none⟩), .pointer (some ⟨p6, 0, none⟩)] W (fun e w' => e = .returned (.tuple #[.pointer none, .int .i64 1102]) ∧ At w ((BD pb p6 99 T3 D4).star ((JO p1 pb p6 4 J3).star emp)) w') from by
    have := jlopen_no ((JO_good _ _ _ _ _).star emp_good) hg h hjok4.ok (by omega) (by rw [g3]; decide) (by rw [d3]; decide)
    rw [d3, d4] at this
    exact this))
  have HEv := Lib.hid (fun W pb p6 p1 (h : At w ((BD pb p6 99 T3 D4).star ((JO p1 pb p6 4 J3).star emp)) W) => (show Calls Tryz.prog 26 #[.pointer (some ⟨p1, 0, none⟩)] W (fun e w' => ∃ ao cap, e = .returned (.slice ao 1 cap) ∧ At w ((rowE TE 8 (.slice ao 1 cap) ([⟨0, 0, 0, 0, 0, 0, 0, 3⟩] : List Ev).length (ecells [⟨0, 0, 0, 0, 0, 0, 0, 3⟩])).star ((BD pb p6 99 T3 D4).star ((JO p1 pb p6 4 J3).star emp))) w') from by
    have := jlevents emp_good h (by rw [ha3]; decide)
    rw [ha3] at this
    exact this))
  have HSm := Lib.hid (fun W pb p6 p1 ao ca (h : At w ((rowE TE 8 (.slice ao 1 ca) ([⟨0, 0, 0, 0, 0, 0, 0, 3⟩] : List Ev).length (ecells [⟨0, 0, 0, 0, 0, 0, 0, 3⟩])).star ((BD pb p6 99 T3 D4).star ((JO p1 pb p6 4 J3).star emp))) W) n (hn : n = W.heap.size) => (show Calls Tryz.prog 28 #[.slice ao 1 ca, .slice (some ⟨n, 0, none⟩) 1 1] (W.alloc (.cells #[.int .i64 0, .int .i64 0, .int .i64 0, .int .i64 0, .int .i64 0, .int .i64 0, .int .i64 0, .int .i64 3] 61)) (fun e w' => e = .returned (.bool true) ∧ At w ((BD pb p6 99 T3 D4).star ((JO p1 pb p6 4 J3).star emp)) w') from by
    subst hn
    have h1 := h.lay ((rowE_good _ _ _ _ _).star ((BD_good _ _ _ _ _).star ((JO_good _ _ _ _ _).star emp_good))) (balloc W (.cells #[.int .i64 0, .int .i64 0, .int .i64 0, .int .i64 0, .int .i64 0, .int .i64 0, .int .i64 0, .int .i64 3] 61))
    exact (lsame_ev (esin_at (es := [⟨0, 0, 0, 0, 0, 0, 0, 3⟩]) h1 (by decide)) (esin_lit (w0 := w) (F := []) (w := W) [⟨0, 0, 0, 0, 0, 0, 0, 3⟩] (fun k hk => by cases hk) rfl (by decide))).mono fun e w' ⟨q1, q2⟩ => ⟨by rw [q1]; rfl, h1.drop.lay ((BD_good _ _ _ _ _).star ((JO_good _ _ _ _ _).star emp_good)) q2⟩))
  have HR4 := Lib.hid (fun W pb p6 p1 (h : At w ((BD pb p6 99 T3 D4).star ((JO p1 pb p6 4 J3).star emp)) W) => (show Calls Tryz.prog 30 #[.pointer (some ⟨p1, 0, none⟩)] W (fun e w' => e = .returned (.int .i64 3) ∧ At w ((BD pb p6 99 T3 D4).star ((JO p1 pb p6 4 J3).star emp)) w') from by
    have := jlroom emp_good h hjok4
    rw [ha3] at this
    exact this))
  clear hd hg s1 s2 s3 s4 s5 hok0 hok2 ha1 hb1 hjok1 e1 e2 e3 e4 e5 e6 e5' ha2 hjok2 v1 v2 v3 f1 f2 f3 f4 f5 f6 f5' ha3 g1 g2 g3 hjok4 d1 d2 d3 d4 hd1
  go_enter Tryz.func5, Tryz.ntmps5
  go_wp2_with (first
    | (go_at_call 12; (with_reducible refine (awake11 _ HG.out).mono ?_); rintro e w1 ⟨rfl, hb0⟩)
    | (go_at_call 10; (with_reducible refine (twin_none11 99 _ (by omega) (by omega)).mono ?_); rintro e w1 ⟨pb, qb, rfl, hb⟩)
    | (go_at_call 11; first
        | ((with_reducible refine (pair_at11 2 2 rfl _ (by omega) (by omega)).mono ?_); rintro e w2 ⟨p2, q2, rfl, hp⟩; have hS := (lawdrop ((lawstart hb hp).imp (Ass.imp.comm _ _)).drop); clear hb hp)
        | ((with_reducible refine (pair_at11 6 6 rfl _ (by omega) (by omega)).mono ?_); rintro e w2 ⟨p6, q6, rfl, hp⟩; replace hS := (lawdisk hS hp).under hb0; clear hp hb0))
    | (go_at_call 34; first
        | ((with_reducible refine (jopen_nil2 _ _).mono ?_); rintro e w9 ⟨rfl, rfl⟩)
        | ((with_reducible refine (HO2.out _ _ _ _ hS).mono ?_); rintro e w3 ⟨rfl, hS3⟩; clear hS)
        | ((with_reducible refine (HO.out _ _ _ hS3).mono ?_); rintro e w3 ⟨p1, rfl, hS4⟩; clear hS3)
        | ((with_reducible refine (HOd.out _ _ _ _ hS8).mono ?_); rintro e w3 ⟨rfl, hS9⟩; clear hS8))
    | (go_at_call 30; first
        | ((with_reducible refine (HR1.out _ _ _ _ hS4).mono ?_); rintro e w4 ⟨rfl, hS5⟩; replace hS4 := hS5; clear hS5)
        | ((with_reducible refine (HR4.out _ _ _ _ hSb).mono ?_); rintro e w4 ⟨rfl, hSc⟩))
    | (go_at_call 15; first
        | ((with_reducible refine (HA1.out _ _ _ _ hS4 _ ?hn).mono ?_); (case hn => simp); rintro e w5 ⟨rfl, hS5⟩; clear hS4)
        | ((with_reducible refine (HAe.out _ _ _ _ hS5 _ ?hn).mono ?_); (case hn => simp); rintro e w5 ⟨rfl, hS6⟩; clear hS5)
        | ((with_reducible refine (HA0.out _ _ _ _ hS6).mono ?_); rintro e w5 ⟨rfl, hS7⟩; clear hS6)
        | ((with_reducible refine (HAd.out _ _ _ _ hS7 _ ?hn).mono ?_); (case hn => simp); rintro e w5 ⟨rfl, hS8⟩; clear hS7))
    | (go_at_call 18; (with_reducible refine (HWe.out _ _ _ _ _ hS6).mono ?_); rintro e w5 ⟨rfl, hS7⟩; replace hS6 := hS7; clear hS7)
    | (go_at_call 24; (with_reducible refine (HCr.out _ _ _ _ hS7).mono ?_); rintro e w5 ⟨rfl, hS8⟩; replace hS7 := hS8; clear hS8)
    | (go_at_call 26; (with_reducible refine (HEv.out _ _ _ _ hS9).mono ?_); rintro e w6 ⟨ao6, ca6, rfl, hSa⟩)
    | (go_at_call 28; (with_reducible refine (HSm.out _ _ _ _ _ _ hSa _ ?hn).mono ?_); (case hn => simp); rintro e w7 ⟨rfl, hSb⟩)
    | (go_at_call 16; (with_reducible refine (lnum _ _).mono ?_); rintro e w9 ⟨rfl, rfl⟩))
  go_ret
  exact ⟨rfl, hSc.bel⟩
set_option maxRecDepth 100000 in
set_option maxHeartbeats 16000000 in
theorem jforms2 (n x dv : Int) (hd : 1 + x % 1024 = dv) (_ : 1 ≤ dv) (hj : (IntKind.u64.wrap n).tmod 4 = 2) (w : World) (hg : Gd w) :
    Calls Tryz.prog 5 #[.int .i64 n, .int .i64 x] w fun e w' => e = .returned (.bool true) ∧ Below w.heap.size w w' := by
  have HG := Lib.hid hg
  have m10 := mask1023 x
  have hdw : IntKind.i64.wrap (1 + x % 1024) = dv := by rw [IntKind.wrap_i64]; omega
  have h9 : IntKind.i64.wrap (9 + dv) = 9 + dv := IntWalk.i64_in _ (by omega)
  have hneg : IntKind.i64.wrap (-dv) = -dv := IntWalk.i64_in _ (by omega)
  obtain ⟨s1, s2, s3, s4, s5, _⟩ := start_safe (most := 99) (n := 6) (by decide) (by decide) (by decide)
  have hok0 : (Dk.new 6).Ok := Dk.ok_new (by omega) (by omega)
  have hok2 : (Dk.new 2).Ok := Dk.ok_new (by omega) (by omega)
  have HO := Lib.hid (fun (W : World) (pb p6 : Nat) (h : At w ((BD pb p6 99 [] (Dk.new 6)).star emp) W) => (show Calls Tryz.prog 34 #[.pointer (some ⟨pb, 0, none⟩), .pointer (some ⟨p6, 0, none⟩)] W (fun e w' => ∃ p : Nat, e = .returned (.tuple #[.pointer (some ⟨p, 0, none⟩), .int .i64 0]) ∧ At w ((BD pb p6 99 (joT 99 [] (Dk.new 6)) (joD 99 [] (Dk.new 6))).star ((JO p pb p6 4 (joJ 99 [] (Dk.new 6))).star emp)) w') from by have := jlopen emp_good hg h hok0 (by simp) (by simp [Dk.new]) s1; exact this))
  have HO2 := Lib.hid (fun (W : World) (pb p2 p6 : Nat) (h : At w ((BD pb p2 99 [] (Dk.new 2)).star ((dpA p6 (Dk.new 6)).star emp)) W) => (show Calls Tryz.prog 34 #[.pointer (some ⟨pb, 0, none⟩), .pointer (some ⟨p2, 0, none⟩)] W (fun e w' => e = .returned (.tuple #[.pointer none, .int .i64 1100]) ∧ At w ((BD pb p6 99 [] (Dk.new 6)).star emp) w') from by
    have := jlopen_no ((dpA_good _ _).star emp_good) hg h hok2 (by simp) (by simp [Dk.new]) (by rw [small_open.1]; decide)
    rw [small_open.1, small_open.2] at this
    exact this.mono fun e w' ⟨q1, q2⟩ => ⟨q1, lawother q2⟩))
  generalize joT 99 [] (Dk.new 6) = T1 at *
  generalize joD 99 [] (Dk.new 6) = D1 at *
  generalize joJ 99 [] (Dk.new 6) = J1 at *
  have ha1 : J1.all = [] := by rw [s2]
  have hb1 : J1.boot = 1 := by rw [s2]
  have hjok1 : JOk T1 D1 4 J1 := s3.jok (by omega) (by rw [s5]; rfl)
  have HR1 := Lib.hid (fun W pb p6 p1 (h : At w ((BD pb p6 99 T1 D1).star ((JO p1 pb p6 4 J1).star emp)) W) => (show Calls Tryz.prog 30 #[.pointer (some ⟨p1, 0, none⟩)] W (fun e w' => e = .returned (.int .i64 4) ∧ At w ((BD pb p6 99 T1 D1).star ((JO p1 pb p6 4 J1).star emp)) w') from by
    have := jlroom emp_good h hjok1
    rw [ha1] at this
    exact this))
  obtain ⟨e1, e2, e3, e4, e5, e6, _⟩ := s3.append (most := 99) [⟨0, 0, 0, 0, 0, 0, 0, 3⟩] (fun e he => by simp at he; subst he; decide) (by rw [ha1, s5]; decide) (by show ((T1.length + 1 : Nat) : Int) ≤ 99; omega) (by show T1.length + 1 ≤ _; omega) (by rw [hb1]; decide)
  have HA1 := Lib.hid (fun W pb p6 p1 (h : At w ((BD pb p6 99 T1 D1).star ((JO p1 pb p6 4 J1).star emp)) W) n (hn : n = W.heap.size) => (show Calls Tryz.prog 15 #[.pointer (some ⟨p1, 0, none⟩), .slice (some ⟨n, 0, none⟩) 1 1] (W.alloc (.cells #[.int .i64 0, .int .i64 0, .int .i64 0, .int .i64 0, .int .i64 0, .int .i64 0, .int .i64 0, .int .i64 3] 61)) (fun e w' => e = .returned (.int .i64 0) ∧ At w ((BD pb p6 99 (jpT 99 T1 J1 D1 [⟨0, 0, 0, 0, 0, 0, 0, 3⟩]) (apD 99 T1 J1 D1 [⟨0, 0, 0, 0, 0, 0, 0, 3⟩])).star ((JO p1 pb p6 4 (apJ 99 T1 J1 D1 [⟨0, 0, 0, 0, 0, 0, 0, 3⟩])).star emp)) w') from by
    subst hn
    have := jlapp emp_good h hjok1 [⟨0, 0, 0, 0, 0, 0, 0, 3⟩] (by decide) rfl
    rw [e1] at this
    exact this))
  have e5' : (jpT 99 T1 J1 D1 [⟨0, 0, 0, 0, 0, 0, 0, 3⟩]).length = T1.length + 1 := e5
  generalize jpT 99 T1 J1 D1 [⟨0, 0, 0, 0, 0, 0, 0, 3⟩] = T2 at *
  generalize apD 99 T1 J1 D1 [⟨0, 0, 0, 0, 0, 0, 0, 3⟩] = D2 at *
  generalize apJ 99 T1 J1 D1 [⟨0, 0, 0, 0, 0, 0, 0, 3⟩] = J2 at *
  rw [ha1] at e2
  rw [s5] at e4
  have ha2 : J2.all = [⟨0, 0, 0, 0, 0, 0, 0, 3⟩] := e2
  have hjok2 : JOk T2 D2 4 J2 := e6.jok (by omega) (by rw [e4]; rfl)
  obtain ⟨v1, v2⟩ := e6.full (most := 99) [⟨0, 0, 0, 0, 0, 0, 0, 0⟩, ⟨0, 0, 0, 0, 0, 0, 0, 0⟩, ⟨0, 0, 0, 0, 0, 0, 0, 0⟩, ⟨0, 0, 0, 0, 0, 0, 0, 0⟩] (fun e he => by simp at he; subst he; decide) (by rw [e4, ha2]; decide)
  have v3 : jpE 99 T2 J2 D2 [⟨0, 0, 0, 0, 0, 0, 0, 0⟩, ⟨0, 0, 0, 0, 0, 0, 0, 0⟩, ⟨0, 0, 0, 0, 0, 0, 0, 0⟩, ⟨0, 0, 0, 0, 0, 0, 0, 0⟩] ≠ 0 := by rw [v1]; decide
  have HAe := Lib.hid (fun W pb p6 p1 (h : At w ((BD pb p6 99 T2 D2).star ((JO p1 pb p6 4 J2).star emp)) W) n (hn : W.heap.size = n) => (show Calls Tryz.prog 15 #[.pointer (some ⟨p1, 0, none⟩), .slice (some ⟨n, 0, none⟩) 4 4] (W.alloc (.cells #[.int .i64 0, .int .i64 0, .int .i64 0, .int .i64 0, .int .i64 0, .int .i64 0, .int .i64 0, .int .i64 0, .int .i64 0, .int .i64 0, .int .i64 0, .int .i64 0, .int .i64 0, .int .i64 0, .int .i64 0, .int .i64 0, .int .i64 0, .int .i64 0, .int .i64 0, .int .i64 0, .int .i64 0, .int .i64 0, .int .i64 0, .int .i64 0, .int .i64 0, .int .i64 0, .int .i64 0, .int .i64 0, .int .i64 0, .int .i64 0, .int .i64 0, .int .i64 0] 61)) (fun e w' => e = .returned (.int .i64 1101) ∧ At w ((rowE TE 8 (.slice (some ⟨n, 0, none⟩) 4 4) ([⟨0, 0, 0, 0, 0, 0, 0, 0⟩, ⟨0, 0, 0, 0, 0, 0, 0, 0⟩, ⟨0, 0, 0, 0, 0, 0, 0, 0⟩, ⟨0, 0, 0, 0, 0, 0, 0, 0⟩] : List Ev).length (ecells [⟨0, 0, 0, 0, 0, 0, 0, 0⟩, ⟨0, 0, 0, 0, 0, 0, 0, 0⟩, ⟨0, 0, 0, 0, 0, 0, 0, 0⟩, ⟨0, 0, 0, 0, 0, 0, 0, 0⟩])).star ((BD pb p6 99 T2 D2).star ((JO p1 pb p6 4 J2).star emp))) w') from by
    have h1 := h.litrow ((BD_good _ _ _ _ _).star ((JO_good _ _ _ _ _).star emp_good)) [⟨0, 0, 0, 0, 0, 0, 0, 0⟩, ⟨0, 0, 0, 0, 0, 0, 0, 0⟩, ⟨0, 0, 0, 0, 0, 0, 0, 0⟩, ⟨0, 0, 0, 0, 0, 0, 0, 0⟩] 4 n rfl (by omega) hn (cs := #[.int .i64 0, .int .i64 0, .int .i64 0, .int .i64 0, .int .i64 0, .int .i64 0, .int .i64 0, .int .i64 0, .int .i64 0, .int .i64 0, .int .i64 0, .int .i64 0, .int .i64 0, .int .i64 0, .int .i64 0, .int .i64 0, .int .i64 0, .int .i64 0, .int .i64 0, .int .i64 0, .int .i64 0, .int .i64 0, .int .i64 0, .int .i64 0, .int .i64 0, .int .i64 0, .int .i64 0, .int .i64 0, .int .i64 0, .int .i64 0, .int .i64 0, .int .i64 0]) rfl
    have h2 := h1.imp ((Ass.imp.swap _ _ _).trans ((Ass.imp.swap _ _ _).under _))
    have := jlappR emp_good (some ⟨n, 0, none⟩) 4 [⟨0, 0, 0, 0, 0, 0, 0, 0⟩, ⟨0, 0, 0, 0, 0, 0, 0, 0⟩, ⟨0, 0, 0, 0, 0, 0, 0, 0⟩, ⟨0, 0, 0, 0, 0, 0, 0, 0⟩] h2 hjok2 (by simp)
    rw [v1, v2, apD_no v3, apJ_no v3] at this
    exact this.mono fun e w' ⟨q1, q2⟩ => ⟨q1, q2.imp (Ass.imp.up2 _ _ _ _)⟩))
  have HWe := Lib.hid (fun W pb p6 p1 n (h : At w ((rowE TE 8 (.slice (some ⟨n, 0, none⟩) 4 4) ([⟨0, 0, 0, 0, 0, 0, 0, 0⟩, ⟨0, 0, 0, 0, 0, 0, 0, 0⟩, ⟨0, 0, 0, 0, 0, 0, 0, 0⟩, ⟨0, 0, 0, 0, 0, 0, 0, 0⟩] : List Ev).length (ecells [⟨0, 0, 0, 0, 0, 0, 0, 0⟩, ⟨0, 0, 0, 0, 0, 0, 0, 0⟩, ⟨0, 0, 0, 0, 0, 0, 0, 0⟩, ⟨0, 0, 0, 0, 0, 0, 0, 0⟩])).star ((BD pb p6 99 T2 D2).star ((JO p1 pb p6 4 J2).star emp))) W) => (show Calls Tryz.prog 18 #[.pointer (some ⟨p1, 0, none⟩), .slice (some ⟨n, 0, none⟩) 4 4] W (fun e w' => e = .returned (.int .i64 1101) ∧ At w ((BD pb p6 99 T2 D2).star ((JO p1 pb p6 4 J2).star emp)) w') from by
    have h2 := h.imp ((Ass.imp.swap _ _ _).trans ((Ass.imp.swap _ _ _).under _))
    have := jlwrtR emp_good (some ⟨n, 0, none⟩) 4 [⟨0, 0, 0, 0, 0, 0, 0, 0⟩, ⟨0, 0, 0, 0, 0, 0, 0, 0⟩, ⟨0, 0, 0, 0, 0, 0, 0, 0⟩, ⟨0, 0, 0, 0, 0, 0, 0, 0⟩] h2 hjok2 (by simp)
    rw [v1, v2, wtD_no v3, wtJ_no v3] at this
    exact this.mono fun e w' ⟨q1, q2⟩ => ⟨q1, (q2.imp (Ass.imp.up2 _ _ _ _)).drop⟩))
  obtain ⟨f1, f2, f3, f4, f5, f6, _⟩ := e6.append (most := 99) [] (fun e he => by cases he) (by rw [ha2, e4]; decide) (by show ((T2.length + 0 : Nat) : Int) ≤ 99; omega) (by show T2.length + 0 ≤ _; omega) (by rw [e3, hb1]; decide)
  have HA0 := Lib.hid (fun W pb p6 p1 (h : At w ((BD pb p6 99 T2 D2).star ((JO p1 pb p6 4 J2).star emp)) W) => (show Calls Tryz.prog 15 #[.pointer (some ⟨p1, 0, none⟩), .slice none 0 0] W (fun e w' => e = .returned (.int .i64 0) ∧ At w ((BD pb p6 99 (jpT 99 T2 J2 D2 []) (apD 99 T2 J2 D2 [])).star ((JO p1 pb p6 4 (apJ 99 T2 J2 D2 [])).star emp)) w') from by
    have := jlapp0 emp_good h hjok2
    rw [f1] at this
    exact this))
  have f5' : (jpT 99 T2 J2 D2 []).length = T2.length + 0 := f5
  generalize jpT 99 T2 J2 D2 [] = T3 at *
  generalize apD 99 T2 J2 D2 [] = D3 at *
  generalize apJ 99 T2 J2 D2 [] = J3 at *
  have ha3 : J3.all = [⟨0, 0, 0, 0, 0, 0, 0, 3⟩] := by rw [f2, ha2]; rfl
  rw [e4] at f4
  obtain ⟨g1, g2, g3⟩ := f6.dead
  have HCr := Lib.hid (fun W pb p6 p1 (h : At w ((BD pb p6 99 T3 D3).star ((JO p1 pb p6 4 J3).star emp)) W) => jldisk ((JO_good p1 pb p6 4 J3).star emp_good) (kpcrash p6 D3 0 0 (by decide) (by decide)) h)
  generalize D3.cr 0 0 = D4 at *
  have hjok4 : JOk T3 D4 4 J3 := ⟨⟨by rw [g2, f4]; decide, by rw [g2, f4]; decide, by rw [g2]; exact f6.calm.sz, fun x hx => by rw [g3] at hx; cases hx⟩, by rw [g2, f4]; decide, by rw [g2, f4]; decide, by omega, by rw [g3]; decide, by rw [ha3, g2, f4]; decide⟩
  obtain ⟨d1, d2⟩ := dead_put (most := 99) (ts := T3) (J := J3) g1 [⟨0, 0, 0, 0, 0, 0, 0, 0⟩]
  obtain ⟨d3, d4⟩ := dead_open (most := 99) (ts := T3) g1
  have HAd := Lib.hid (fun W pb p6 p1 (h : At w ((BD pb p6 99 T3 D4).star ((JO p1 pb p6 4 J3).star emp)) W) n (hn : n = W.heap.size) => (show Calls Tryz.prog 15 #[.pointer (some ⟨p1, 0, none⟩), .slice (some ⟨n, 0, none⟩) 1 1] (W.alloc (.cells #[.int .i64 0, .int .i64 0, .int .i64 0, .int .i64 0, .int .i64 0, .int .i64 0, .int .i64 0, .int .i64 0] 61)) (fun e w' => e = .returned (.int .i64 1102) ∧ At w ((BD pb p6 99 T3 D4).star ((JO p1 pb p6 4 J3).star emp)) w') from by
    subst hn
    exact jlapp_no emp_good h hjok4 [⟨0, 0, 0, 0, 0, 0, 0, 0⟩] (by decide) rfl d1 (by decide) d2))
  have HOd := Lib.hid (fun W pb p6 p1 (h : At w ((BD pb p6 99 T3 D4).star ((JO p1 pb p6 4 J3).star emp)) W) => (show Calls Tryz.prog 34 #[.pointer (some ⟨pb, 0, none⟩), .pointer (some ⟨p6, 0, none⟩)] W (fun e w' => e = .returned (.tuple #[.pointer none, .int .i64 1102]) ∧ At w ((BD pb p6 99 T3 D4).star ((JO p1 pb p6 4 J3).star emp)) w') from by
    have := jlopen_no ((JO_good _ _ _ _ _).star emp_good) hg h hjok4.ok (by omega) (by rw [g3]; decide) (by rw [d3]; decide)
    rw [d3, d4] at this
    exact this))
  have HEv := Lib.hid (fun W pb p6 p1 (h : At w ((BD pb p6 99 T3 D4).star ((JO p1 pb p6 4 J3).star emp)) W) => (show Calls Tryz.prog 26 #[.pointer (some ⟨p1, 0, none⟩)] W (fun e w' => ∃ ao cap, e = .returned (.slice ao 1 cap) ∧ At w ((rowE TE 8 (.slice ao 1 cap) ([⟨0, 0, 0, 0, 0, 0, 0, 3⟩] : List Ev).length (ecells [⟨0, 0, 0, 0, 0, 0, 0, 3⟩])).star ((BD pb p6 99 T3 D4).star ((JO p1 pb p6 4 J3).star emp))) w') from by
    have := jlevents emp_good h (by rw [ha3]; decide)
    rw [ha3] at this
    exact this))
  have HSm := Lib.hid (fun W pb p6 p1 ao ca (h : At w ((rowE TE 8 (.slice ao 1 ca) ([⟨0, 0, 0, 0, 0, 0, 0, 3⟩] : List Ev).length (ecells [⟨0, 0, 0, 0, 0, 0, 0, 3⟩])).star ((BD pb p6 99 T3 D4).star ((JO p1 pb p6 4 J3).star emp))) W) n (hn : n = W.heap.size) => (show Calls Tryz.prog 28 #[.slice ao 1 ca, .slice (some ⟨n, 0, none⟩) 1 1] (W.alloc (.cells #[.int .i64 0, .int .i64 0, .int .i64 0, .int .i64 0, .int .i64 0, .int .i64 0, .int .i64 0, .int .i64 3] 61)) (fun e w' => e = .returned (.bool true) ∧ At w ((BD pb p6 99 T3 D4).star ((JO p1 pb p6 4 J3).star emp)) w') from by
    subst hn
    have h1 := h.lay ((rowE_good _ _ _ _ _).star ((BD_good _ _ _ _ _).star ((JO_good _ _ _ _ _).star emp_good))) (balloc W (.cells #[.int .i64 0, .int .i64 0, .int .i64 0, .int .i64 0, .int .i64 0, .int .i64 0, .int .i64 0, .int .i64 3] 61))
    exact (lsame_ev (esin_at (es := [⟨0, 0, 0, 0, 0, 0, 0, 3⟩]) h1 (by decide)) (esin_lit (w0 := w) (F := []) (w := W) [⟨0, 0, 0, 0, 0, 0, 0, 3⟩] (fun k hk => by cases hk) rfl (by decide))).mono fun e w' ⟨q1, q2⟩ => ⟨by rw [q1]; rfl, h1.drop.lay ((BD_good _ _ _ _ _).star ((JO_good _ _ _ _ _).star emp_good)) q2⟩))
  have HR4 := Lib.hid (fun W pb p6 p1 (h : At w ((BD pb p6 99 T3 D4).star ((JO p1 pb p6 4 J3).star emp)) W) => (show Calls Tryz.prog 30 #[.pointer (some ⟨p1, 0, none⟩)] W (fun e w' => e = .returned (.int .i64 3) ∧ At w ((BD pb p6 99 T3 D4).star ((JO p1 pb p6 4 J3).star emp)) w') from by
    have := jlroom emp_good h hjok4
    rw [ha3] at this
    exact this))
  clear hd hg s1 s2 s3 s4 s5 hok0 hok2 ha1 hb1 hjok1 e1 e2 e3 e4 e5 e6 e5' ha2 hjok2 v1 v2 v3 f1 f2 f3 f4 f5 f6 f5' ha3 g1 g2 g3 hjok4 d1 d2 d3 d4
  go_enter Tryz.func5, Tryz.ntmps5
  go_wp2_with (first
    | (go_at_call 12; (with_reducible refine (awake11 _ HG.out).mono ?_); rintro e w1 ⟨rfl, hb0⟩)
    | (go_at_call 10; (with_reducible refine (twin_none11 99 _ (by omega) (by omega)).mono ?_); rintro e w1 ⟨pb, qb, rfl, hb⟩)
    | (go_at_call 11; first
        | ((with_reducible refine (pair_at11 2 2 rfl _ (by omega) (by omega)).mono ?_); rintro e w2 ⟨p2, q2, rfl, hp⟩; have hS := (lawdrop ((lawstart hb hp).imp (Ass.imp.comm _ _)).drop); clear hb hp)
        | ((with_reducible refine (pair_at11 6 6 rfl _ (by omega) (by omega)).mono ?_); rintro e w2 ⟨p6, q6, rfl, hp⟩; replace hS := (lawdisk hS hp).under hb0; clear hp hb0))
    | (go_at_call 34; first
        | ((with_reducible refine (jopen_nil2 _ _).mono ?_); rintro e w9 ⟨rfl, rfl⟩)
        | ((with_reducible refine (HO2.out _ _ _ _ hS).mono ?_); rintro e w3 ⟨rfl, hS3⟩; clear hS)
        | ((with_reducible refine (HO.out _ _ _ hS3).mono ?_); rintro e w3 ⟨p1, rfl, hS4⟩; clear hS3)
        | ((with_reducible refine (HOd.out _ _ _ _ hS8).mono ?_); rintro e w3 ⟨rfl, hS9⟩; clear hS8))
    | (go_at_call 30; first
        | ((with_reducible refine (HR1.out _ _ _ _ hS4).mono ?_); rintro e w4 ⟨rfl, hS5⟩; replace hS4 := hS5; clear hS5)
        | ((with_reducible refine (HR4.out _ _ _ _ hSb).mono ?_); rintro e w4 ⟨rfl, hSc⟩))
    | (go_at_call 15; first
        | ((with_reducible refine (HA1.out _ _ _ _ hS4 _ ?hn).mono ?_); (case hn => simp); rintro e w5 ⟨rfl, hS5⟩; clear hS4)
        | ((with_reducible refine (HAe.out _ _ _ _ hS5 _ ?hn).mono ?_); (case hn => simp); rintro e w5 ⟨rfl, hS6⟩; clear hS5)
        | ((with_reducible refine (HA0.out _ _ _ _ hS6).mono ?_); rintro e w5 ⟨rfl, hS7⟩; clear hS6)
        | ((with_reducible refine (HAd.out _ _ _ _ hS7 _ ?hn).mono ?_); (case hn => simp); rintro e w5 ⟨rfl, hS8⟩; clear hS7))
    | (go_at_call 18; (with_reducible refine (HWe.out _ _ _ _ _ hS6).mono ?_); rintro e w5 ⟨rfl, hS7⟩; replace hS6 := hS7; clear hS7)
    | (go_at_call 24; (with_reducible refine (HCr.out _ _ _ _ hS7).mono ?_); rintro e w5 ⟨rfl, hS8⟩; replace hS7 := hS8; clear hS8)
    | (go_at_call 26; (with_reducible refine (HEv.out _ _ _ _ hS9).mono ?_); rintro e w6 ⟨ao6, ca6, rfl, hSa⟩)
    | (go_at_call 28; (with_reducible refine (HSm.out _ _ _ _ _ _ hSa _ ?hn).mono ?_); (case hn => simp); rintro e w7 ⟨rfl, hSb⟩)
    | (go_at_call 16; (with_reducible refine (lnum _ _).mono ?_); rintro e w9 ⟨rfl, rfl⟩))
  go_ret
  exact ⟨rfl, hSc.bel⟩
set_option maxRecDepth 100000 in
set_option maxHeartbeats 16000000 in
theorem jforms3 (n x dv : Int) (hd : 1 + x % 1024 = dv) (hd1 : 1 ≤ dv) (hj : (IntKind.u64.wrap n).tmod 4 = 3) (w : World) (hg : Gd w) :
    Calls Tryz.prog 5 #[.int .i64 n, .int .i64 x] w fun e w' => e = .returned (.bool true) ∧ Below w.heap.size w w' := by
  have HG := Lib.hid hg
  have m10 := mask1023 x
  have hdw : IntKind.i64.wrap (1 + x % 1024) = dv := by rw [IntKind.wrap_i64]; omega
  have h9 : IntKind.i64.wrap (9 + dv) = 9 + dv := IntWalk.i64_in _ (by omega)
  have hneg : IntKind.i64.wrap (-dv) = -dv := IntWalk.i64_in _ (by omega)
  obtain ⟨s1, s2, s3, s4, s5, _⟩ := start_safe (most := 99) (n := 6) (by decide) (by decide) (by decide)
  have hok0 : (Dk.new 6).Ok := Dk.ok_new (by omega) (by omega)
  have hok2 : (Dk.new 2).Ok := Dk.ok_new (by omega) (by omega)
  have HO := Lib.hid (fun (W : World) (pb p6 : Nat) (h : At w ((BD pb p6 99 [] (Dk.new 6)).star emp) W) => (show Calls Tryz.prog 34 #[.pointer (some ⟨pb, 0, none⟩), .pointer (some ⟨p6, 0, none⟩)] W (fun e w' => ∃ p : Nat, e = .returned (.tuple #[.pointer (some ⟨p, 0, none⟩), .int .i64 0]) ∧ At w ((BD pb p6 99 (joT 99 [] (Dk.new 6)) (joD 99 [] (Dk.new 6))).star ((JO p pb p6 4 (joJ 99 [] (Dk.new 6))).star emp)) w') from by have := jlopen emp_good hg h hok0 (by simp) (by simp [Dk.new]) s1; exact this))
  have HO2 := Lib.hid (fun (W : World) (pb p2 p6 : Nat) (h : At w ((BD pb p2 99 [] (Dk.new 2)).star ((dpA p6 (Dk.new 6)).star emp)) W) => (show Calls Tryz.prog 34 #[.pointer (some ⟨pb, 0, none⟩), .pointer (some ⟨p2, 0, none⟩)] W (fun e w' => e = .returned (.tuple #[.pointer none, .int .i64 1100]) ∧ At w ((BD pb p6 99 [] (Dk.new 6)).star emp) w') from by
    have := jlopen_no ((dpA_good _ _).star emp_good) hg h hok2 (by simp) (by simp [Dk.new]) (by rw [small_open.1]; decide)
    rw [small_open.1, small_open.2] at this
    exact this.mono fun e w' ⟨q1, q2⟩ => ⟨q1, lawother q2⟩))
  generalize joT 99 [] (Dk.new 6) = T1 at *
  generalize joD 99 [] (Dk.new 6) = D1 at *
  generalize joJ 99 [] (Dk.new 6) = J1 at *
  have ha1 : J1.all = [] := by rw [s2]
  have hb1 : J1.boot = 1 := by rw [s2]
  have hjok1 : JOk T1 D1 4 J1 := s3.jok (by omega) (by rw [s5]; rfl)
  have HR1 := Lib.hid (fun W pb p6 p1 (h : At w ((BD pb p6 99 T1 D1).star ((JO p1 pb p6 4 J1).star emp)) W) => (show Calls Tryz.prog 30 #[.pointer (some ⟨p1, 0, none⟩)] W (fun e w' => e = .returned (.int .i64 4) ∧ At w ((BD pb p6 99 T1 D1).star ((JO p1 pb p6 4 J1).star emp)) w') from by
    have := jlroom emp_good h hjok1
    rw [ha1] at this
    exact this))
  obtain ⟨e1, e2, e3, e4, e5, e6, _⟩ := s3.append (most := 99) [⟨0, 0, 0, 0, 0, 0, 0, 3⟩] (fun e he => by simp at he; subst he; decide) (by rw [ha1, s5]; decide) (by show ((T1.length + 1 : Nat) : Int) ≤ 99; omega) (by show T1.length + 1 ≤ _; omega) (by rw [hb1]; decide)
  have HA1 := Lib.hid (fun W pb p6 p1 (h : At w ((BD pb p6 99 T1 D1).star ((JO p1 pb p6 4 J1).star emp)) W) n (hn : n = W.heap.size) => (show Calls Tryz.prog 15 #[.pointer (some ⟨p1, 0, none⟩), .slice (some ⟨n, 0, none⟩) 1 1] (W.alloc (.cells #[.int .i64 0, .int .i64 0, .int .i64 0, .int .i64 0, .int .i64 0, .int .i64 0, .int .i64 0, .int .i64 3] 61)) (fun e w' => e = .returned (.int .i64 0) ∧ At w ((BD pb p6 99 (jpT 99 T1 J1 D1 [⟨0, 0, 0, 0, 0, 0, 0, 3⟩]) (apD 99 T1 J1 D1 [⟨0, 0, 0, 0, 0, 0, 0, 3⟩])).star ((JO p1 pb p6 4 (apJ 99 T1 J1 D1 [⟨0, 0, 0, 0, 0, 0, 0, 3⟩])).star emp)) w') from by
    subst hn
    have := jlapp emp_good h hjok1 [⟨0, 0, 0, 0, 0, 0, 0, 3⟩] (by decide) rfl
    rw [e1] at this
    exact this))
  have e5' : (jpT 99 T1 J1 D1 [⟨0, 0, 0, 0, 0, 0, 0, 3⟩]).length = T1.length + 1 := e5
  generalize jpT 99 T1 J1 D1 [⟨0, 0, 0, 0, 0, 0, 0, 3⟩] = T2 at *
  generalize apD 99 T1 J1 D1 [⟨0, 0, 0, 0, 0, 0, 0, 3⟩] = D2 at *
  generalize apJ 99 T1 J1 D1 [⟨0, 0, 0, 0, 0, 0, 0, 3⟩] = J2 at *
  rw [ha1] at e2
  rw [s5] at e4
  have ha2 : J2.all = [⟨0, 0, 0, 0, 0, 0, 0, 3⟩] := e2
  have hjok2 : JOk T2 D2 4 J2 := e6.jok (by omega) (by rw [e4]; rfl)
  obtain ⟨v1, v2⟩ := e6.form (most := 99) [⟨0, 0, 0, 0, 0, 0, 0, 0⟩, ⟨0, 0, 0, 0, 0, 0, 0, 0⟩, ⟨0, 0, 0, 0, 0, 0, 0, 0⟩, ⟨0, 0, 0, 0, 0, 0, 0, 0⟩, ⟨0, dv, 0, 0, 0, 0, 0, 0⟩] (by simp [List.all_cons, may_user hd1])
  have v3 : jpE 99 T2 J2 D2 [⟨0, 0, 0, 0, 0, 0, 0, 0⟩, ⟨0, 0, 0, 0, 0, 0, 0, 0⟩, ⟨0, 0, 0, 0, 0, 0, 0, 0⟩, ⟨0, 0, 0, 0, 0, 0, 0, 0⟩, ⟨0, dv, 0, 0, 0, 0, 0, 0⟩] ≠ 0 := by rw [v1]; decide
  have HAe := Lib.hid (fun W pb p6 p1 (h : At w ((BD pb p6 99 T2 D2).star ((JO p1 pb p6 4 J2).star emp)) W) n (hn : W.heap.size = n) => (show Calls Tryz.prog 15 #[.pointer (some ⟨p1, 0, none⟩), .slice (some ⟨n, 0, none⟩) 5 5] (W.alloc (.cells #[.int .i64 0, .int .i64 0, .int .i64 0, .int .i64 0, .int .i64 0, .int .i64 0, .int .i64 0, .int .i64 0, .int .i64 0, .int .i64 0, .int .i64 0, .int .i64 0, .int .i64 0, .int .i64 0, .int .i64 0, .int .i64 0, .int .i64 0, .int .i64 0, .int .i64 0, .int .i64 0, .int .i64 0, .int .i64 0, .int .i64 0, .int .i64 0, .int .i64 0, .int .i64 0, .int .i64 0, .int .i64 0, .int .i64 0, .int .i64 0, .int .i64 0, .int .i64 0, .int .i64 0, .int .i64 dv, .int .i64 0, .int .i64 0, .int .i64 0, .int .i64 0, .int .i64 0, .int .i64 0] 61)) (fun e w' => e = .returned (.int .i64 1100) ∧ At w ((rowE TE 8 (.slice (some ⟨n, 0, none⟩) 5 5) ([⟨0, 0, 0, 0, 0, 0, 0, 0⟩, ⟨0, 0, 0, 0, 0, 0, 0, 0⟩, ⟨0, 0, 0, 0, 0, 0, 0, 0⟩, ⟨0, 0, 0, 0, 0, 0, 0, 0⟩, ⟨0, dv, 0, 0, 0, 0, 0, 0⟩] : List Ev).length (ecells [⟨0, 0, 0, 0, 0, 0, 0, 0⟩, ⟨0, 0, 0, 0, 0, 0, 0, 0⟩, ⟨0, 0, 0, 0, 0, 0, 0, 0⟩, ⟨0, 0, 0, 0, 0, 0, 0, 0⟩, ⟨0, dv, 0, 0, 0, 0, 0, 0⟩])).star ((BD pb p6 99 T2 D2).star ((JO p1 pb p6 4 J2).star emp))) w') from by
    have h1 := h.litrow ((BD_good _ _ _ _ _).star ((JO_good _ _ _ _ _).star emp_good)) [⟨0, 0, 0, 0, 0, 0, 0, 0⟩, ⟨0, 0, 0, 0, 0, 0, 0, 0⟩, ⟨0, 0, 0, 0, 0, 0, 0, 0⟩, ⟨0, 0, 0, 0, 0, 0, 0, 0⟩, ⟨0, dv, 0, 0, 0, 0, 0, 0⟩] 5 n rfl (by omega) hn (cs := #[.int .i64 0, .int .i64 0, .int .i64 0, .int .i64 0, .int .i64 0, .int .i64 0, .int .i64 0, .int .i64 0, .int .i64 0, .int .i64 0, .int .i64 0, .int .i64 0, .int .i64 0, .int .i64 0, .int .i64 0, .int .i64 0, .int .i64 0, .int .i64 0, .int .i64 0, .int .i64 0, .int .i64 0, .int .i64 0, .int .i64 0, .int .i64 0, .int .i64 0, .int .i64 0, .int .i64 0, .int .i64 0, .int .i64 0, .int .i64 0, .int .i64 0, .int .i64 0, .int .i64 0, .int .i64 dv, .int .i64 0, .int .i64 0, .int .i64 0, .int .i64 0, .int .i64 0, .int .i64 0]) rfl
    have h2 := h1.imp ((Ass.imp.swap _ _ _).trans ((Ass.imp.swap _ _ _).under _))
    have := jlappR emp_good (some ⟨n, 0, none⟩) 5 [⟨0, 0, 0, 0, 0, 0, 0, 0⟩, ⟨0, 0, 0, 0, 0, 0, 0, 0⟩, ⟨0, 0, 0, 0, 0, 0, 0, 0⟩, ⟨0, 0, 0, 0, 0, 0, 0, 0⟩, ⟨0, dv, 0, 0, 0, 0, 0, 0⟩] h2 hjok2 (by simp)
    rw [v1, v2, apD_no v3, apJ_no v3] at this
    exact this.mono fun e w' ⟨q1, q2⟩ => ⟨q1, q2.imp (Ass.imp.up2 _ _ _ _)⟩))
  have HWe := Lib.hid (fun W pb p6 p1 n (h : At w ((rowE TE 8 (.slice (some ⟨n, 0, none⟩) 5 5) ([⟨0, 0, 0, 0, 0, 0, 0, 0⟩, ⟨0, 0, 0, 0, 0, 0, 0, 0⟩, ⟨0, 0, 0, 0, 0, 0, 0, 0⟩, ⟨0, 0, 0, 0, 0, 0, 0, 0⟩, ⟨0, dv, 0, 0, 0, 0, 0, 0⟩] : List Ev).length (ecells [⟨0, 0, 0, 0, 0, 0, 0, 0⟩, ⟨0, 0, 0, 0, 0, 0, 0, 0⟩, ⟨0, 0, 0, 0, 0, 0, 0, 0⟩, ⟨0, 0, 0, 0, 0, 0, 0, 0⟩, ⟨0, dv, 0, 0, 0, 0, 0, 0⟩])).star ((BD pb p6 99 T2 D2).star ((JO p1 pb p6 4 J2).star emp))) W) => (show Calls Tryz.prog 18 #[.pointer (some ⟨p1, 0, none⟩), .slice (some ⟨n, 0, none⟩) 5 5] W (fun e w' => e = .returned (.int .i64 1100) ∧ At w ((BD pb p6 99 T2 D2).star ((JO p1 pb p6 4 J2).star emp)) w') from by
    have h2 := h.imp ((Ass.imp.swap _ _ _).trans ((Ass.imp.swap _ _ _).under _))
    have := jlwrtR emp_good (some ⟨n, 0, none⟩) 5 [⟨0, 0, 0, 0, 0, 0, 0, 0⟩, ⟨0, 0, 0, 0, 0, 0, 0, 0⟩, ⟨0, 0, 0, 0, 0, 0, 0, 0⟩, ⟨0, 0, 0, 0, 0, 0, 0, 0⟩, ⟨0, dv, 0, 0, 0, 0, 0, 0⟩] h2 hjok2 (by simp)
    rw [v1, v2, wtD_no v3, wtJ_no v3] at this
    exact this.mono fun e w' ⟨q1, q2⟩ => ⟨q1, (q2.imp (Ass.imp.up2 _ _ _ _)).drop⟩))
  obtain ⟨f1, f2, f3, f4, f5, f6, _⟩ := e6.append (most := 99) [] (fun e he => by cases he) (by rw [ha2, e4]; decide) (by show ((T2.length + 0 : Nat) : Int) ≤ 99; omega) (by show T2.length + 0 ≤ _; omega) (by rw [e3, hb1]; decide)
  have HA0 := Lib.hid (fun W pb p6 p1 (h : At w ((BD pb p6 99 T2 D2).star ((JO p1 pb p6 4 J2).star emp)) W) => (show Calls Tryz.prog 15 #[.pointer (some ⟨p1, 0, none⟩), .slice none 0 0] W (fun e w' => e = .returned (.int .i64 0) ∧ At w ((BD pb p6 99 (jpT 99 T2 J2 D2 []) (apD 99 T2 J2 D2 [])).star ((JO p1 pb p6 4 (apJ 99 T2 J2 D2 [])).star emp)) w') from by
    have := jlapp0 emp_good h hjok2
    rw [f1] at this
    exact this))
  have f5' : (jpT 99 T2 J2 D2 []).length = T2.length + 0 := f5
  generalize jpT 99 T2 J2 D2 [] = T3 at *
  generalize apD 99 T2 J2 D2 [] = D3 at *
  generalize apJ 99 T2 J2 D2 [] = J3 at *
  have ha3 : J3.all = [⟨0, 0, 0, 0, 0, 0, 0, 3⟩] := by rw [f2, ha2]; rfl
  rw [e4] at f4
  obtain ⟨g1, g2, g3⟩ := f6.dead
  have HCr := Lib.hid (fun W pb p6 p1 (h : At w ((BD pb p6 99 T3 D3).star ((JO p1 pb p6 4 J3).star emp)) W) => jldisk ((JO_good p1 pb p6 4 J3).star emp_good) (kpcrash p6 D3 0 0 (by decide) (by decide)) h)
  generalize D3.cr 0 0 = D4 at *
  have hjok4 : JOk T3 D4 4 J3 := ⟨⟨by rw [g2, f4]; decide, by rw [g2, f4]; decide, by rw [g2]; exact f6.calm.sz, fun x hx => by rw [g3] at hx; cases hx⟩, by rw [g2, f4]; decide, by rw [g2, f4]; decide, by omega, by rw [g3]; decide, by rw [ha3, g2, f4]; decide⟩
  obtain ⟨d1, d2⟩ := dead_put (most := 99) (ts := T3) (J := J3) g1 [⟨0, 0, 0, 0, 0, 0, 0, 0⟩]
  obtain ⟨d3, d4⟩ := dead_open (most := 99) (ts := T3) g1
  have HAd := Lib.hid (fun W pb p6 p1 (h : At w ((BD pb p6 99 T3 D4).star ((JO p1 pb p6 4 J3).star emp)) W) n (hn : n = W.heap.size) => (show Calls Tryz.prog 15 #[.pointer (some ⟨p1, 0, none⟩), .slice (some ⟨n, 0, none⟩) 1 1] (W.alloc (.cells #[.int .i64 0, .int .i64 0, .int .i64 0, .int .i64 0, .int .i64 0, .int .i64 0, .int .i64 0, .int .i64 0] 61)) (fun e w' => e = .returned (.int .i64 1102) ∧ At w ((BD pb p6 99 T3 D4).star ((JO p1 pb p6 4 J3).star emp)) w') from by
    subst hn
    exact jlapp_no emp_good h hjok4 [⟨0, 0, 0, 0, 0, 0, 0, 0⟩] (by decide) rfl d1 (by decide) d2))
  have HOd := Lib.hid (fun W pb p6 p1 (h : At w ((BD pb p6 99 T3 D4).star ((JO p1 pb p6 4 J3).star emp)) W) => (show Calls Tryz.prog 34 #[.pointer (some ⟨pb, 0, none⟩), .pointer (some ⟨p6, 0, none⟩)] W (fun e w' => e = .returned (.tuple #[.pointer none, .int .i64 1102]) ∧ At w ((BD pb p6 99 T3 D4).star ((JO p1 pb p6 4 J3).star emp)) w') from by
    have := jlopen_no ((JO_good _ _ _ _ _).star emp_good) hg h hjok4.ok (by omega) (by rw [g3]; decide) (by rw [d3]; decide)
    rw [d3, d4] at this
    exact this))
  have HEv := Lib.hid (fun W pb p6 p1 (h : At w ((BD pb p6 99 T3 D4).star ((JO p1 pb p6 4 J3).star emp)) W) => (show Calls Tryz.prog 26 #[.pointer (some ⟨p1, 0, none⟩)] W (fun e w' => ∃ ao cap, e = .returned (.slice ao 1 cap) ∧ At w ((rowE TE 8 (.slice ao 1 cap) ([⟨0, 0, 0, 0, 0, 0, 0, 3⟩] : List Ev).length (ecells [⟨0, 0, 0, 0, 0, 0, 0, 3⟩])).star ((BD pb p6 99 T3 D4).star ((JO p1 pb p6 4 J3).star emp))) w') from by
    have := jlevents emp_good h (by rw [ha3]; decide)
    rw [ha3] at this
    exact this))
  have HSm := Lib.hid (fun W pb p6 p1 ao ca (h : At w ((rowE TE 8 (.slice ao 1 ca) ([⟨0, 0, 0, 0, 0, 0, 0, 3⟩] : List Ev).length (ecells [⟨0, 0, 0, 0, 0, 0, 0, 3⟩])).star ((BD pb p6 99 T3 D4).star ((JO p1 pb p6 4 J3).star emp))) W) n (hn : n = W.heap.size) => (show Calls Tryz.prog 28 #[.slice ao 1 ca, .slice (some ⟨n, 0, none⟩) 1 1] (W.alloc (.cells #[.int .i64 0, .int .i64 0, .int .i64 0, .int .i64 0, .int .i64 0, .int .i64 0, .int .i64 0, .int .i64 3] 61)) (fun e w' => e = .returned (.bool true) ∧ At w ((BD pb p6 99 T3 D4).star ((JO p1 pb p6 4 J3).star emp)) w') from by
    subst hn
    have h1 := h.lay ((rowE_good _ _ _ _ _).star ((BD_good _ _ _ _ _).star ((JO_good _ _ _ _ _).star emp_good))) (balloc W (.cells #[.int .i64 0, .int .i64 0, .int .i64 0, .int .i64 0, .int .i64 0, .int .i64 0, .int .i64 0, .int .i64 3] 61))
    exact (lsame_ev (esin_at (es := [⟨0, 0, 0, 0, 0, 0, 0, 3⟩]) h1 (by decide)) (esin_lit (w0 := w) (F := []) (w := W) [⟨0, 0, 0, 0, 0, 0, 0, 3⟩] (fun k hk => by cases hk) rfl (by decide))).mono fun e w' ⟨q1, q2⟩ => ⟨by rw [q1]; rfl, h1.drop.lay ((BD_good _ _ _ _ _).star ((JO_good _ _ _ _ _).star emp_good)) q2⟩))
  have HR4 := Lib.hid (fun W pb p6 p1 (h : At w ((BD pb p6 99 T3 D4).star ((JO p1 pb p6 4 J3).star emp)) W) => (show Calls Tryz.prog 30 #[.pointer (some ⟨p1, 0, none⟩)] W (fun e w' => e = .returned (.int .i64 3) ∧ At w ((BD pb p6 99 T3 D4).star ((JO p1 pb p6 4 J3).star emp)) w') from by
    have := jlroom emp_good h hjok4
    rw [ha3] at this
    exact this))
  clear hd hg s1 s2 s3 s4 s5 hok0 hok2 ha1 hb1 hjok1 e1 e2 e3 e4 e5 e6 e5' ha2 hjok2 v1 v2 v3 f1 f2 f3 f4 f5 f6 f5' ha3 g1 g2 g3 hjok4 d1 d2 d3 d4 hd1
  go_enter Tryz.func5, Tryz.ntmps5
  go_wp2_with (first
    | (go_at_call 12; (with_reducible refine (awake11 _ HG.out).mono ?_); rintro e w1 ⟨rfl, hb0⟩)
    | (go_at_call 10; (with_reducible refine (twin_none11 99 _ (by omega) (by omega)).mono ?_); rintro e w1 ⟨pb, qb, rfl, hb⟩)
    | (go_at_call 11; first
        | ((with_reducible refine (pair_at11 2 2 rfl _ (by omega) (by omega)).mono ?_); rintro e w2 ⟨p2, q2, rfl, hp⟩; have hS := (lawdrop ((lawstart hb hp).imp (Ass.imp.comm _ _)).drop); clear hb hp)
        | ((with_reducible refine (pair_at11 6 6 rfl _ (by omega) (by omega)).mono ?_); rintro e w2 ⟨p6, q6, rfl, hp⟩; replace hS := (lawdisk hS hp).under hb0; clear hp hb0))
    | (go_at_call 34; first
        | ((with_reducible refine (jopen_nil2 _ _).mono ?_); rintro e w9 ⟨rfl, rfl⟩)
        | ((with_reducible refine (HO2.out _ _ _ _ hS).mono ?_); rintro e w3 ⟨rfl, hS3⟩; clear hS)
        | ((with_reducible refine (HO.out _ _ _ hS3).mono ?_); rintro e w3 ⟨p1, rfl, hS4⟩; clear hS3)
        | ((with_reducible refine (HOd.out _ _ _ _ hS8).mono ?_); rintro e w3 ⟨rfl, hS9⟩; clear hS8))
    | (go_at_call 30; first
        | ((with_reducible refine (HR1.out _ _ _ _ hS4).mono ?_); rintro e w4 ⟨rfl, hS5⟩; replace hS4 := hS5; clear hS5)
        | ((with_reducible refine (HR4.out _ _ _ _ hSb).mono ?_); rintro e w4 ⟨rfl, hSc⟩))
    | (go_at_call 15; first
        | ((with_reducible refine (HA1.out _ _ _ _ hS4 _ ?hn).mono ?_); (case hn => simp); rintro e w5 ⟨rfl, hS5⟩; clear hS4)
        | ((with_reducible refine (HAe.out _ _ _ _ hS5 _ ?hn).mono ?_); (case hn => simp); rintro e w5 ⟨rfl, hS6⟩; clear hS5)
        | ((with_reducible refine (HA0.out _ _ _ _ hS6).mono ?_); rintro e w5 ⟨rfl, hS7⟩; clear hS6)
        | ((with_reducible refine (HAd.out _ _ _ _ hS7 _ ?hn).mono ?_); (case hn => simp); rintro e w5 ⟨rfl, hS8⟩; clear hS7))
    | (go_at_call 18; (with_reducible refine (HWe.out _ _ _ _ _ hS6).mono ?_); rintro e w5 ⟨rfl, hS7⟩; replace hS6 := hS7; clear hS7)
    | (go_at_call 24; (with_reducible refine (HCr.out _ _ _ _ hS7).mono ?_); rintro e w5 ⟨rfl, hS8⟩; replace hS7 := hS8; clear hS8)
    | (go_at_call 26; (with_reducible refine (HEv.out _ _ _ _ hS9).mono ?_); rintro e w6 ⟨ao6, ca6, rfl, hSa⟩)
    | (go_at_call 28; (with_reducible refine (HSm.out _ _ _ _ _ _ hSa _ ?hn).mono ?_); (case hn => simp); rintro e w7 ⟨rfl, hSb⟩)
    | (go_at_call 16; (with_reducible refine (lnum _ _).mono ?_); rintro e w9 ⟨rfl, rfl⟩))
  go_ret
  exact ⟨rfl, hSc.bel⟩
theorem jformslaw (n x : Int) (w : World) (hg : Gd w) :
    Calls Tryz.prog 5 #[.int .i64 n, .int .i64 x] w fun e w' => e = .returned (.bool true) ∧ Below w.heap.size w w' := by
  have hu0 : 0 ≤ IntKind.u64.wrap n := by rw [IntKind.wrap_u64]; omega
  have hm := Int.tmod_eq_emod_of_nonneg (b := 4) hu0
  have h4 : (IntKind.u64.wrap n).tmod 4 = 0 ∨ (IntKind.u64.wrap n).tmod 4 = 1 ∨ (IntKind.u64.wrap n).tmod 4 = 2 ∨ (IntKind.u64.wrap n).tmod 4 = 3 := by omega
  rcases h4 with h | h | h | h
  · exact jforms0 n x _ rfl (by omega) h w hg
  · exact jforms1 n x _ rfl (by omega) h w hg
  · exact jforms2 n x _ rfl (by omega) h w hg
  · exact jforms3 n x _ rfl (by omega) h w hg
end Go.Proofs.YtbfpfmidjdonjaaGreatDoor
