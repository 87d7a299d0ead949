/- The walk of RingForms: epochs that are none; keys of unlike epochs; which are live. No condition. -/
import Derived.Test.YtcfibjfhmfdmkaaRgaw
import Derived.Test.YtcfibjfhmfdmkaaFplain3
namespace Go.Proofs.Ytcfibjfhmfdmkaa
open Go Go.RowKit Go.Maps

theorem rg_one (p : Int) (p0 : 0 ≤ p) (p1 : p ≤ 1023) : rgE 2 [] p = 0 ∧ rgX 2 [] p = 0 ∧ rgT 2 [] p = [epK p] := rg_new (ts := []) p0 (by omega) (by simp) (by decide)
theorem rg_same (p : Int) (p0 : 0 ≤ p) (p1 : p ≤ 1023) : rgE 2 [epK p] p = 0 ∧ rgX 2 [epK p] p = 0 ∧ rgT 2 [epK p] p = [epK p] := by
  obtain ⟨a, b, c⟩ := rg_old (most := 2) (ts := [epK p]) p0 (by omega) (by simp)
  exact ⟨a, b.trans (by simp [idx]), c⟩
theorem rg_other (p q : Int) (p0 : 0 ≤ p) (p1 : p ≤ 1023) (q0 : 0 ≤ q) (q1 : q ≤ 1023) (h : p ≠ q) : rgE 2 [epK p] q = 0 ∧ rgX 2 [epK p] q = 1 ∧ rgT 2 [epK p] q = [epK p, epK q] :=
  rg_new (ts := [epK p]) q0 (by omega) (by simp; exact fun c => h (epK_inj q0 (by omega) p0 (by omega) c).symm) (by simp)
set_option maxRecDepth 100000 in
set_option maxHeartbeats 8000000 in
theorem rgforms_same (x a c keep : Int) (w : World) (m p o : Int) (hmm : bits .and .i64 x 1023 = m) (m0 : 0 ≤ m) (m1 : m ≤ 1023) (hpm : bits .and .i64 a 1023 = p) (p0 : 0 ≤ p) (p1 : p ≤ 1023) (hqm : bits .and .i64 c 1023 = p) (hom : bits .and .i64 keep 7 = o) (o0 : 0 ≤ o) (o1 : o ≤ 7) :
    Calls Try.prog 4 #[.int .i64 x, .int .i64 a, .int .i64 c, .int .i64 keep] w fun e w' => e = .returned (.bool true) ∧ Below w.heap.size w w' := by
  obtain ⟨a1, a2, a3⟩ := rg_one p p0 p1
  have C1 := Lib.hid (fun B => (pgkey B 2 [] p (by omega) (by omega)).to (v2 := .returned (.tuple #[.int .i64 0, .int .i64 0])) (by rw [a1, a2]) (congrArg (bookA B 2) a3))
  obtain ⟨b1, b2, b3⟩ := rg_same p p0 p1
  have C2 := Lib.hid (fun B => (pgkey B 2 [epK p] p (by omega) (by omega)).to (v2 := .returned (.tuple #[.int .i64 0, .int .i64 0])) (by rw [b1, b2]) (congrArg (bookA B 2) b3))
  clear b1 b2 b3
  generalize [epK p] = T at *
  have u3 : okNum (-(1 + m)) = false := by rw [Bool.eq_false_iff, Ne, okNum_iff]; omega
  have u4 : okNum (1073741823 + (1 + m)) = false := by rw [Bool.eq_false_iff, Ne, okNum_iff]; omega
  obtain ⟨d1, d2, d3⟩ := rg_bad (most := 2) (ts := T) u3
  have C3 := Lib.hid (fun B => (pgkey B 2 T (-(1 + m)) (by omega) (by omega)).to (v2 := .returned (.tuple #[.int .i64 0, .int .i64 1400])) (by rw [d1, d2]) (congrArg (bookA B 2) d3))
  obtain ⟨e1, e2, e3⟩ := rg_bad (most := 2) (ts := T) u4
  have C4 := Lib.hid (fun B => (pgkey B 2 T (1073741823 + (1 + m)) (by omega) (by omega)).to (v2 := .returned (.tuple #[.int .i64 0, .int .i64 1400])) (by rw [e1, e2]) (congrArg (bookA B 2) e3))
  have np : okNum p = true := (okNum_iff p).2 ⟨p0, by omega⟩
  have no : okNum o = true := (okNum_iff o).2 ⟨o0, by omega⟩
  have L1 := Lib.hid (fun W => pglive p p o true (by unfold rgL; simp [*] <;> omega) W)
  have L2 := Lib.hid (fun W => pglive (-(1 + m)) p o false (by unfold rgL; rw [u3]; rfl) W)
  have L3 := Lib.hid (fun W => pglive p (1073741823 + (1 + m)) o false (by unfold rgL; rw [u4, Bool.and_false]; rfl) W)
  have L4 := Lib.hid (fun W => pglive p p (-(1 + m)) false (by unfold rgL; rw [u3, Bool.and_false]; rfl) W)
  have f2 : p - p = 0 := by omega
  clear a1 a2 a3 d1 d2 d3 e1 e2 e3 u3 u4 np no
  go_enter Try.func4, Try.ntmps4
  go_wp2_with (first
    | (go_at_call 6; (with_reducible refine (awake14 _).mono ?_); rintro e w1 ⟨rfl, hb1⟩)
    | (go_at_call 5; (with_reducible refine (twin_none14 2 _ (by omega) (by omega)).mono ?_); rintro e w2 ⟨b, r, rfl, hb⟩; have hS := (At.start hb).under hb1; clear hb hb1)
    | (go_at_call 7; first
        | ((with_reducible refine (pgkey_nil _ _).mono ?_); rintro e w3 ⟨rfl, rfl⟩)
        | ((with_reducible refine (At.op1 (C1.out _) (refA_good _ _ _) emp_good hS).mono ?_); rintro e w3 ⟨rfl, hS1⟩; replace hS := hS1; clear hS1)
        | ((with_reducible refine (At.op1 (C2.out _) (refA_good _ _ _) emp_good hS).mono ?_); rintro e w3 ⟨rfl, hS1⟩; replace hS := hS1; clear hS1)
        | ((with_reducible refine (At.op1 (C3.out _) (refA_good _ _ _) emp_good hS).mono ?_); rintro e w3 ⟨rfl, hS1⟩; replace hS := hS1; clear hS1)
        | ((with_reducible refine (At.op1 (C4.out _) (refA_good _ _ _) emp_good hS).mono ?_); rintro e w3 ⟨rfl, hS1⟩; replace hS := hS1; clear hS1))
    | (go_at_call 10; first
        | ((with_reducible refine (L1.out _).mono ?_); rintro e w3 ⟨rfl, rfl⟩)
        | ((with_reducible refine (L2.out _).mono ?_); rintro e w3 ⟨rfl, rfl⟩)
        | ((with_reducible refine (L3.out _).mono ?_); rintro e w3 ⟨rfl, rfl⟩)
        | ((with_reducible refine (L4.out _).mono ?_); rintro e w3 ⟨rfl, rfl⟩))
    | (go_at_call 9; (with_reducible refine (lnum _ _).mono ?_); rintro e w4 ⟨rfl, rfl⟩))
  go_ret
  exact ⟨rfl, hS.bel⟩
set_option maxRecDepth 100000 in
set_option maxHeartbeats 8000000 in
theorem rgforms_near (x a c keep : Int) (w : World) (m p q o : Int) (hmm : bits .and .i64 x 1023 = m) (m0 : 0 ≤ m) (m1 : m ≤ 1023) (hpm : bits .and .i64 a 1023 = p) (p0 : 0 ≤ p) (p1 : p ≤ 1023) (hqm : bits .and .i64 c 1023 = q) (q0 : 0 ≤ q) (q1 : q ≤ 1023) (hom : bits .and .i64 keep 7 = o) (o0 : 0 ≤ o) (o1 : o ≤ 7) (h1 : p < q) (h2 : q - p ≤ o) :
    Calls Try.prog 4 #[.int .i64 x, .int .i64 a, .int .i64 c, .int .i64 keep] w fun e w' => e = .returned (.bool true) ∧ Below w.heap.size w w' := by
  obtain ⟨a1, a2, a3⟩ := rg_one p p0 p1
  have C1 := Lib.hid (fun B => (pgkey B 2 [] p (by omega) (by omega)).to (v2 := .returned (.tuple #[.int .i64 0, .int .i64 0])) (by rw [a1, a2]) (congrArg (bookA B 2) a3))
  obtain ⟨b1, b2, b3⟩ := rg_other p q p0 p1 q0 q1 (by omega)
  have C2 := Lib.hid (fun B => (pgkey B 2 [epK p] q (by omega) (by omega)).to (v2 := .returned (.tuple #[.int .i64 1, .int .i64 0])) (by rw [b1, b2]) (congrArg (bookA B 2) b3))
  clear b1 b2 b3
  generalize [epK p, epK q] = T at *
  generalize [epK p] = T1 at *
  have u3 : okNum (-(1 + m)) = false := by rw [Bool.eq_false_iff, Ne, okNum_iff]; omega
  have u4 : okNum (1073741823 + (1 + m)) = false := by rw [Bool.eq_false_iff, Ne, okNum_iff]; omega
  obtain ⟨d1, d2, d3⟩ := rg_bad (most := 2) (ts := T) u3
  have C3 := Lib.hid (fun B => (pgkey B 2 T (-(1 + m)) (by omega) (by omega)).to (v2 := .returned (.tuple #[.int .i64 0, .int .i64 1400])) (by rw [d1, d2]) (congrArg (bookA B 2) d3))
  obtain ⟨e1, e2, e3⟩ := rg_bad (most := 2) (ts := T) u4
  have C4 := Lib.hid (fun B => (pgkey B 2 T (1073741823 + (1 + m)) (by omega) (by omega)).to (v2 := .returned (.tuple #[.int .i64 0, .int .i64 1400])) (by rw [e1, e2]) (congrArg (bookA B 2) e3))
  have np : okNum p = true := (okNum_iff p).2 ⟨p0, by omega⟩
  have nq : okNum q = true := (okNum_iff q).2 ⟨q0, by omega⟩
  have no : okNum o = true := (okNum_iff o).2 ⟨o0, by omega⟩
  have L1 := Lib.hid (fun W => pglive p q o true (by unfold rgL; simp [*] <;> omega) W)
  have L2 := Lib.hid (fun W => pglive (-(1 + m)) q o false (by unfold rgL; rw [u3]; rfl) W)
  have L3 := Lib.hid (fun W => pglive p (1073741823 + (1 + m)) o false (by unfold rgL; rw [u4, Bool.and_false]; rfl) W)
  have L4 := Lib.hid (fun W => pglive p q (-(1 + m)) false (by unfold rgL; rw [u3, Bool.and_false]; rfl) W)
  have f1 : (p == q) = false := by rw [beq_eq_false_iff_ne]; omega
  have f2 : decide (p ≤ q) = true := by simp; omega
  have f3 : decide (q - p ≤ o) = true := by simp; omega
  clear a1 a2 a3 d1 d2 d3 e1 e2 e3 u3 u4 np nq no
  go_enter Try.func4, Try.ntmps4
  go_wp2_with (first
    | (go_at_call 6; (with_reducible refine (awake14 _).mono ?_); rintro e w1 ⟨rfl, hb1⟩)
    | (go_at_call 5; (with_reducible refine (twin_none14 2 _ (by omega) (by omega)).mono ?_); rintro e w2 ⟨b, r, rfl, hb⟩; have hS := (At.start hb).under hb1; clear hb hb1)
    | (go_at_call 7; first
        | ((with_reducible refine (pgkey_nil _ _).mono ?_); rintro e w3 ⟨rfl, rfl⟩)
        | ((with_reducible refine (At.op1 (C1.out _) (refA_good _ _ _) emp_good hS).mono ?_); rintro e w3 ⟨rfl, hS1⟩; replace hS := hS1; clear hS1)
        | ((with_reducible refine (At.op1 (C2.out _) (refA_good _ _ _) emp_good hS).mono ?_); rintro e w3 ⟨rfl, hS1⟩; replace hS := hS1; clear hS1)
        | ((with_reducible refine (At.op1 (C3.out _) (refA_good _ _ _) emp_good hS).mono ?_); rintro e w3 ⟨rfl, hS1⟩; replace hS := hS1; clear hS1)
        | ((with_reducible refine (At.op1 (C4.out _) (refA_good _ _ _) emp_good hS).mono ?_); rintro e w3 ⟨rfl, hS1⟩; replace hS := hS1; clear hS1))
    | (go_at_call 10; first
        | ((with_reducible refine (L1.out _).mono ?_); rintro e w3 ⟨rfl, rfl⟩)
        | ((with_reducible refine (L2.out _).mono ?_); rintro e w3 ⟨rfl, rfl⟩)
        | ((with_reducible refine (L3.out _).mono ?_); rintro e w3 ⟨rfl, rfl⟩)
        | ((with_reducible refine (L4.out _).mono ?_); rintro e w3 ⟨rfl, rfl⟩))
    | (go_at_call 9; (with_reducible refine (lnum _ _).mono ?_); rintro e w4 ⟨rfl, rfl⟩))
  go_ret
  exact ⟨rfl, hS.bel⟩
set_option maxRecDepth 100000 in
set_option maxHeartbeats 8000000 in
theorem rgforms_far (x a c keep : Int) (w : World) (m p q o : Int) (hmm : bits .and .i64 x 1023 = m) (m0 : 0 ≤ m) (m1 : m ≤ 1023) (hpm : bits .and .i64 a 1023 = p) (p0 : 0 ≤ p) (p1 : p ≤ 1023) (hqm : bits .and .i64 c 1023 = q) (q0 : 0 ≤ q) (q1 : q ≤ 1023) (hom : bits .and .i64 keep 7 = o) (o0 : 0 ≤ o) (o1 : o ≤ 7) (h1 : p < q) (h2 : o < q - p) :
    Calls Try.prog 4 #[.int .i64 x, .int .i64 a, .int .i64 c, .int .i64 keep] w fun e w' => e = .returned (.bool true) ∧ Below w.heap.size w w' := by
  obtain ⟨a1, a2, a3⟩ := rg_one p p0 p1
  have C1 := Lib.hid (fun B => (pgkey B 2 [] p (by omega) (by omega)).to (v2 := .returned (.tuple #[.int .i64 0, .int .i64 0])) (by rw [a1, a2]) (congrArg (bookA B 2) a3))
  obtain ⟨b1, b2, b3⟩ := rg_other p q p0 p1 q0 q1 (by omega)
  have C2 := Lib.hid (fun B => (pgkey B 2 [epK p] q (by omega) (by omega)).to (v2 := .returned (.tuple #[.int .i64 1, .int .i64 0])) (by rw [b1, b2]) (congrArg (bookA B 2) b3))
  clear b1 b2 b3
  generalize [epK p, epK q] = T at *
  generalize [epK p] = T1 at *
  have u3 : okNum (-(1 + m)) = false := by rw [Bool.eq_false_iff, Ne, okNum_iff]; omega
  have u4 : okNum (1073741823 + (1 + m)) = false := by rw [Bool.eq_false_iff, Ne, okNum_iff]; omega
  obtain ⟨d1, d2, d3⟩ := rg_bad (most := 2) (ts := T) u3
  have C3 := Lib.hid (fun B => (pgkey B 2 T (-(1 + m)) (by omega) (by omega)).to (v2 := .returned (.tuple #[.int .i64 0, .int .i64 1400])) (by rw [d1, d2]) (congrArg (bookA B 2) d3))
  obtain ⟨e1, e2, e3⟩ := rg_bad (most := 2) (ts := T) u4
  have C4 := Lib.hid (fun B => (pgkey B 2 T (1073741823 + (1 + m)) (by omega) (by omega)).to (v2 := .returned (.tuple #[.int .i64 0, .int .i64 1400])) (by rw [e1, e2]) (congrArg (bookA B 2) e3))
  have np : okNum p = true := (okNum_iff p).2 ⟨p0, by omega⟩
  have nq : okNum q = true := (okNum_iff q).2 ⟨q0, by omega⟩
  have no : okNum o = true := (okNum_iff o).2 ⟨o0, by omega⟩
  have L1 := Lib.hid (fun W => pglive p q o false (by unfold rgL; simp [*] <;> omega) W)
  have L2 := Lib.hid (fun W => pglive (-(1 + m)) q o false (by unfold rgL; rw [u3]; rfl) W)
  have L3 := Lib.hid (fun W => pglive p (1073741823 + (1 + m)) o false (by unfold rgL; rw [u4, Bool.and_false]; rfl) W)
  have L4 := Lib.hid (fun W => pglive p q (-(1 + m)) false (by unfold rgL; rw [u3, Bool.and_false]; rfl) W)
  have f1 : (p == q) = false := by rw [beq_eq_false_iff_ne]; omega
  have f2 : decide (p ≤ q) = true := by simp; omega
  have f3 : decide (q - p ≤ o) = false := by simp; omega
  clear a1 a2 a3 d1 d2 d3 e1 e2 e3 u3 u4 np nq no
  go_enter Try.func4, Try.ntmps4
  go_wp2_with (first
    | (go_at_call 6; (with_reducible refine (awake14 _).mono ?_); rintro e w1 ⟨rfl, hb1⟩)
    | (go_at_call 5; (with_reducible refine (twin_none14 2 _ (by omega) (by omega)).mono ?_); rintro e w2 ⟨b, r, rfl, hb⟩; have hS := (At.start hb).under hb1; clear hb hb1)
    | (go_at_call 7; first
        | ((with_reducible refine (pgkey_nil _ _).mono ?_); rintro e w3 ⟨rfl, rfl⟩)
        | ((with_reducible refine (At.op1 (C1.out _) (refA_good _ _ _) emp_good hS).mono ?_); rintro e w3 ⟨rfl, hS1⟩; replace hS := hS1; clear hS1)
        | ((with_reducible refine (At.op1 (C2.out _) (refA_good _ _ _) emp_good hS).mono ?_); rintro e w3 ⟨rfl, hS1⟩; replace hS := hS1; clear hS1)
        | ((with_reducible refine (At.op1 (C3.out _) (refA_good _ _ _) emp_good hS).mono ?_); rintro e w3 ⟨rfl, hS1⟩; replace hS := hS1; clear hS1)
        | ((with_reducible refine (At.op1 (C4.out _) (refA_good _ _ _) emp_good hS).mono ?_); rintro e w3 ⟨rfl, hS1⟩; replace hS := hS1; clear hS1))
    | (go_at_call 10; first
        | ((with_reducible refine (L1.out _).mono ?_); rintro e w3 ⟨rfl, rfl⟩)
        | ((with_reducible refine (L2.out _).mono ?_); rintro e w3 ⟨rfl, rfl⟩)
        | ((with_reducible refine (L3.out _).mono ?_); rintro e w3 ⟨rfl, rfl⟩)
        | ((with_reducible refine (L4.out _).mono ?_); rintro e w3 ⟨rfl, rfl⟩))
    | (go_at_call 9; (with_reducible refine (lnum _ _).mono ?_); rintro e w4 ⟨rfl, rfl⟩))
  go_ret
  exact ⟨rfl, hS.bel⟩
set_option maxRecDepth 100000 in
set_option maxHeartbeats 8000000 in
theorem rgforms_ahead (x a c keep : Int) (w : World) (m p q o : Int) (hmm : bits .and .i64 x 1023 = m) (m0 : 0 ≤ m) (m1 : m ≤ 1023) (hpm : bits .and .i64 a 1023 = p) (p0 : 0 ≤ p) (p1 : p ≤ 1023) (hqm : bits .and .i64 c 1023 = q) (q0 : 0 ≤ q) (q1 : q ≤ 1023) (hom : bits .and .i64 keep 7 = o) (o0 : 0 ≤ o) (o1 : o ≤ 7) (h1 : q < p) :
    Calls Try.prog 4 #[.int .i64 x, .int .i64 a, .int .i64 c, .int .i64 keep] w fun e w' => e = .returned (.bool true) ∧ Below w.heap.size w w' := by
  obtain ⟨a1, a2, a3⟩ := rg_one p p0 p1
  have C1 := Lib.hid (fun B => (pgkey B 2 [] p (by omega) (by omega)).to (v2 := .returned (.tuple #[.int .i64 0, .int .i64 0])) (by rw [a1, a2]) (congrArg (bookA B 2) a3))
  obtain ⟨b1, b2, b3⟩ := rg_other p q p0 p1 q0 q1 (by omega)
  have C2 := Lib.hid (fun B => (pgkey B 2 [epK p] q (by omega) (by omega)).to (v2 := .returned (.tuple #[.int .i64 1, .int .i64 0])) (by rw [b1, b2]) (congrArg (bookA B 2) b3))
  clear b1 b2 b3
  generalize [epK p, epK q] = T at *
  generalize [epK p] = T1 at *
  have u3 : okNum (-(1 + m)) = false := by rw [Bool.eq_false_iff, Ne, okNum_iff]; omega
  have u4 : okNum (1073741823 + (1 + m)) = false := by rw [Bool.eq_false_iff, Ne, okNum_iff]; omega
  obtain ⟨d1, d2, d3⟩ := rg_bad (most := 2) (ts := T) u3
  have C3 := Lib.hid (fun B => (pgkey B 2 T (-(1 + m)) (by omega) (by omega)).to (v2 := .returned (.tuple #[.int .i64 0, .int .i64 1400])) (by rw [d1, d2]) (congrArg (bookA B 2) d3))
  obtain ⟨e1, e2, e3⟩ := rg_bad (most := 2) (ts := T) u4
  have C4 := Lib.hid (fun B => (pgkey B 2 T (1073741823 + (1 + m)) (by omega) (by omega)).to (v2 := .returned (.tuple #[.int .i64 0, .int .i64 1400])) (by rw [e1, e2]) (congrArg (bookA B 2) e3))
  have np : okNum p = true := (okNum_iff p).2 ⟨p0, by omega⟩
  have nq : okNum q = true := (okNum_iff q).2 ⟨q0, by omega⟩
  have no : okNum o = true := (okNum_iff o).2 ⟨o0, by omega⟩
  have L1 := Lib.hid (fun W => pglive p q o false (by unfold rgL; simp [*] <;> omega) W)
  have L2 := Lib.hid (fun W => pglive (-(1 + m)) q o false (by unfold rgL; rw [u3]; rfl) W)
  have L3 := Lib.hid (fun W => pglive p (1073741823 + (1 + m)) o false (by unfold rgL; rw [u4, Bool.and_false]; rfl) W)
  have L4 := Lib.hid (fun W => pglive p q (-(1 + m)) false (by unfold rgL; rw [u3, Bool.and_false]; rfl) W)
  have f1 : (p == q) = false := by rw [beq_eq_false_iff_ne]; omega
  have f2 : decide (p ≤ q) = false := by simp; omega
  clear a1 a2 a3 d1 d2 d3 e1 e2 e3 u3 u4 np nq no
  go_enter Try.func4, Try.ntmps4
  go_wp2_with (first
    | (go_at_call 6; (with_reducible refine (awake14 _).mono ?_); rintro e w1 ⟨rfl, hb1⟩)
    | (go_at_call 5; (with_reducible refine (twin_none14 2 _ (by omega) (by omega)).mono ?_); rintro e w2 ⟨b, r, rfl, hb⟩; have hS := (At.start hb).under hb1; clear hb hb1)
    | (go_at_call 7; first
        | ((with_reducible refine (pgkey_nil _ _).mono ?_); rintro e w3 ⟨rfl, rfl⟩)
        | ((with_reducible refine (At.op1 (C1.out _) (refA_good _ _ _) emp_good hS).mono ?_); rintro e w3 ⟨rfl, hS1⟩; replace hS := hS1; clear hS1)
        | ((with_reducible refine (At.op1 (C2.out _) (refA_good _ _ _) emp_good hS).mono ?_); rintro e w3 ⟨rfl, hS1⟩; replace hS := hS1; clear hS1)
        | ((with_reducible refine (At.op1 (C3.out _) (refA_good _ _ _) emp_good hS).mono ?_); rintro e w3 ⟨rfl, hS1⟩; replace hS := hS1; clear hS1)
        | ((with_reducible refine (At.op1 (C4.out _) (refA_good _ _ _) emp_good hS).mono ?_); rintro e w3 ⟨rfl, hS1⟩; replace hS := hS1; clear hS1))
    | (go_at_call 10; first
        | ((with_reducible refine (L1.out _).mono ?_); rintro e w3 ⟨rfl, rfl⟩)
        | ((with_reducible refine (L2.out _).mono ?_); rintro e w3 ⟨rfl, rfl⟩)
        | ((with_reducible refine (L3.out _).mono ?_); rintro e w3 ⟨rfl, rfl⟩)
        | ((with_reducible refine (L4.out _).mono ?_); rintro e w3 ⟨rfl, rfl⟩))
    | (go_at_call 9; (with_reducible refine (lnum _ _).mono ?_); rintro e w4 ⟨rfl, rfl⟩))
  go_ret
  exact ⟨rfl, hS.bel⟩
theorem rgforms_walk (x a c keep : Int) (w : World) :
    Calls Try.prog 4 #[.int .i64 x, .int .i64 a, .int .i64 c, .int .i64 keep] w fun e w' => e = .returned (.bool true) ∧ Below w.heap.size w w' := by
  have hmm := i64_mask x 10 (by omega)
  rw [show ((2 ^ 10 - 1 : Nat) : Int) = 1023 from by decide, show ((2 ^ 10 : Nat) : Int) = 1024 from by decide] at hmm
  obtain ⟨m, hm⟩ : ∃ m, x % 1024 = m := ⟨_, rfl⟩
  have m0 : 0 ≤ m := by omega
  have m1 : m ≤ 1023 := by omega
  rw [hm] at hmm
  clear hm
  have hpm := i64_mask a 10 (by omega)
  rw [show ((2 ^ 10 - 1 : Nat) : Int) = 1023 from by decide, show ((2 ^ 10 : Nat) : Int) = 1024 from by decide] at hpm
  obtain ⟨p, hp⟩ : ∃ p, a % 1024 = p := ⟨_, rfl⟩
  have p0 : 0 ≤ p := by omega
  have p1 : p ≤ 1023 := by omega
  rw [hp] at hpm
  clear hp
  have hqm := i64_mask c 10 (by omega)
  rw [show ((2 ^ 10 - 1 : Nat) : Int) = 1023 from by decide, show ((2 ^ 10 : Nat) : Int) = 1024 from by decide] at hqm
  obtain ⟨q, hq⟩ : ∃ q, c % 1024 = q := ⟨_, rfl⟩
  have q0 : 0 ≤ q := by omega
  have q1 : q ≤ 1023 := by omega
  rw [hq] at hqm
  clear hq
  have hom := i64_mask keep 3 (by omega)
  rw [show ((2 ^ 3 - 1 : Nat) : Int) = 7 from by decide, show ((2 ^ 3 : Nat) : Int) = 8 from by decide] at hom
  obtain ⟨o, ho⟩ : ∃ o, keep % 8 = o := ⟨_, rfl⟩
  have o0 : 0 ≤ o := by omega
  have o1 : o ≤ 7 := by omega
  rw [ho] at hom
  clear ho
  rcases Int.lt_trichotomy p q with h | h | h
  · by_cases h2 : q - p ≤ o
    · exact rgforms_near x a c keep w m p q o hmm m0 m1 hpm p0 p1 hqm q0 q1 hom o0 o1 h h2
    · exact rgforms_far x a c keep w m p q o hmm m0 m1 hpm p0 p1 hqm q0 q1 hom o0 o1 h (by omega)
  · subst h
    exact rgforms_same x a c keep w m p o hmm m0 m1 hpm p0 p1 hqm hom o0 o1
  · exact rgforms_ahead x a c keep w m p q o hmm m0 m1 hpm p0 p1 hqm q0 q1 hom o0 o1 h
end Go.Proofs.Ytcfibjfhmfdmkaa
