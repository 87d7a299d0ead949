/- Put together: Jl, Jl2, Jaw, Jaw2, Jaw3. Conditions: each theorem's own. -/
import Derived.Test.YtbfpfmidjdonjaaGreatDoorBjb
import Derived.Test.YtbfpfmidjdonjaaGreatDoorBbk
import Derived.Test.YtbfpfmidjdonjaaGreatDoorKref3
import Derived.Test.YtbfpfmidjdonjaaGreatDoorBkr
import Derived.Test.YtbfpfmidjdonjaaGreatDoorBrg
import Derived.Deep.QuietTactic
namespace Go.Proofs.YtbfpfmidjdonjaaGreatDoor
open Go Go.RowKit
theorem Ass.imp.assoc (A B C : Ass) : (A.star (B.star C)).imp ((A.star B).star C) := by
  rintro w F ⟨F1, _, rfl, a, ⟨F2, F3, rfl, b, c, d2⟩, d1⟩
  exact ⟨(F1 ++ F2) ++ F3, ⟨F1 ++ F2, F3, rfl, ⟨F1, F2, rfl, a, b, fun k hk hk' => d1 k hk (by simp [hk'])⟩, c, fun k hk hk' => by
    rcases List.mem_append.1 hk with h | h
    · exact d1 k h (by simp [hk'])
    · exact d2 k h hk'⟩, fun k => by simp⟩
theorem Ass.imp.assoc' (A B C : Ass) : ((A.star B).star C).imp (A.star (B.star C)) := by
  rintro w F ⟨_, F3, rfl, ⟨F1, F2, rfl, a, b, d1⟩, c, d2⟩
  exact ⟨F1 ++ (F2 ++ F3), ⟨F1, F2 ++ F3, rfl, a, ⟨F2, F3, rfl, b, c, fun k hk hk' => d2 k (by simp [hk]) hk'⟩, fun k hk hk' => by
    rcases List.mem_append.1 hk' with h | h
    · exact d1 k hk h
    · exact d2 k (by simp [hk]) h⟩, fun k => by simp⟩
theorem Ass.imp.comm (A B : Ass) : (A.star B).imp (B.star A) := by
  rintro w F ⟨F1, F2, rfl, a, b, d⟩
  exact ⟨F2 ++ F1, ⟨F2, F1, rfl, b, a, fun k hk hk' => d k hk' hk⟩, fun k => by simp [or_comm]⟩
theorem Ass.imp.left {X Y : Ass} (h : X.imp Y) (C : Ass) : (X.star C).imp (Y.star C) := ((Ass.imp.comm X C).trans (h.under C)).trans (Ass.imp.comm C Y)
def JO (p pb pd : Nat) (m : Int) (J : Jn) : Ass := fun w F => ∃ v, (J.all = [] → v = .slice none 0 0) ∧ ((ownA p (jcs pb pd J.boot m v J.last J.over) TJ).star (rowE TE 8 v J.all.length (ecells J.all))) w F
theorem JO_good (p pb pd : Nat) (m : Int) (J : Jn) : (JO p pb pd m J).Good := by
  rintro w F ⟨v, h0, h⟩
  obtain ⟨a, b⟩ := ((ownA_good _ _ _).star (rowE_good _ _ _ _ _)) w F h
  exact ⟨a, fun w' hw' => ⟨v, h0, b w' hw'⟩⟩
theorem JA.split (p pb pd : Nat) (most : Int) (ts : List ByteArray) (d : Dk) (m : Int) (J : Jn) : (JA p pb pd most ts d m J).imp ((BD pb pd most ts d).star (JO p pb pd m J)) := by
  rintro w F ⟨v, h0, h⟩
  obtain ⟨F2, ⟨G1, G2, rfl, g1, g2, g3⟩, e⟩ := (Ass.imp.assoc _ _ _) w F h
  exact ⟨G2 ++ G1, ⟨G2, G1, rfl, g2, ⟨v, h0, g1⟩, fun k hk hk' => g3 k hk' hk⟩, fun k => (by simp [or_comm] : k ∈ G2 ++ G1 ↔ k ∈ G1 ++ G2).trans (e k)⟩
theorem JA.join (p pb pd : Nat) (most : Int) (ts : List ByteArray) (d : Dk) (m : Int) (J : Jn) : ((BD pb pd most ts d).star (JO p pb pd m J)).imp (JA p pb pd most ts d m J) := by
  rintro w F ⟨G2, G1, rfl, g2, ⟨v, h0, g1⟩, g3⟩
  obtain ⟨F2, h2, e⟩ := (Ass.imp.assoc' _ _ _) w (G1 ++ G2) ⟨G1, G2, rfl, g1, g2, fun k hk hk' => g3 k hk' hk⟩
  exact ⟨F2, ⟨v, h0, h2⟩, fun k => (e k).trans (by simp [or_comm])⟩
theorem At.jopb {P : Program} {f : FuncId} {args : Array Value} {α : Type} {R : α → Ending → World → Prop} {X C : Ass} {X' : α → Ass} (hC : C.Good) (hX : X.Good) {w0 w w1 : World} (h : At w0 (X.star C) w) (hb : Below w.heap.size w w1)
    (hc : ∀ F FC, X w1 F → C w1 FC → (∀ k ∈ F, k ∉ FC) → (∀ k ∈ F, w0.heap.size ≤ k ∧ k < w.heap.size) → Calls P f args w1 fun e w' => ∃ a, R a e w' ∧ Becomes F (X' a) w1 w') : Calls P f args w1 fun e w' => ∃ a, R a e w' ∧ At w0 ((X' a).star C) w' := by
  obtain ⟨_, ⟨F1, F2, rfl, h1, h2, h3⟩, hB, hbl⟩ := h
  have h1' := hX.below h1 hb
  have h2' := hC.below h2 hb
  have hlt := (hX w F1 h1).1
  have hbl1 : Below w0.heap.size w0 w1 := hbl.trans (hb.mono hbl.size)
  refine (hc F1 F2 h1' h2' h3 (fun k hk => ⟨hB k (by simp [hk]), hlt k hk⟩)).mono ?_
  rintro e w' ⟨a, he, hk⟩
  obtain ⟨F', g1, g2, g3⟩ := hk.frameL hC h2' h3
  refine ⟨a, he, F', g1, fun k hk => ?_, hbl1.trans (g2.below hB hbl1.size)⟩
  rcases g3 k hk with c | c
  · exact hB k c
  · exact Nat.le_trans hbl1.size c
theorem At.jop {P : Program} {f : FuncId} {args : Array Value} {R : Ending → World → Prop} {X X' C : Ass} (hC : C.Good) (hX : X.Good) {w0 w : World} (h : At w0 (X.star C) w)
    (hc : ∀ F FC, X w F → C w FC → (∀ k ∈ F, k ∉ FC) → (∀ k ∈ F, w0.heap.size ≤ k) → Calls P f args w fun e w' => R e w' ∧ Becomes F X' w w') : Calls P f args w fun e w' => R e w' ∧ At w0 (X'.star C) w' :=
  (At.jopb (α := Unit) (R := fun _ => R) (X' := fun _ => X') hC hX h (Below.refl _ _) fun F FC h1 h2 h3 h4 => (hc F FC h1 h2 h3 fun k hk => (h4 k hk).1).mono fun _ _ hh => ⟨(), hh⟩).mono fun _ _ ⟨_, hh⟩ => hh
section
variable {w0 w : World} {C : Ass} {p pb pd : Nat} {most : Int} {ts : List ByteArray} {d : Dk} {m : Int} {J : Jn}
theorem At.fuse (h : At w0 ((BD pb pd most ts d).star ((JO p pb pd m J).star C)) w) : At w0 ((JA p pb pd most ts d m J).star C) w := h.imp ((Ass.imp.assoc _ _ _).trans ((JA.join _ _ _ _ _ _ _ _).left _))
theorem At.part (h : At w0 ((JA p pb pd most ts d m J).star C) w) : At w0 ((BD pb pd most ts d).star ((JO p pb pd m J).star C)) w := h.imp (((JA.split _ _ _ _ _ _ _ _).left _).trans (Ass.imp.assoc' _ _ _))
theorem gd_out {F : List Nat} (hg : Gd w0) (h : ∀ k ∈ F, w0.heap.size ≤ k) : 0 ∉ F := fun c => by have := h _ c; have := hg.pos; omega
theorem jlopen (hC : C.Good) (hg : Gd w0) (h : At w0 ((BD pb pd most ts d).star C) w) (ho : d.Ok) (hl : ts.length ≤ 1000000) (hn : d.waits.length ≤ 1000000) (hE : joE most ts d = 0) :
    Calls Tryz.prog 34 #[.pointer (some ⟨pb, 0, none⟩), .pointer (some ⟨pd, 0, none⟩)] w fun e w' => ∃ p : Nat, e = .returned (.tuple #[.pointer (some ⟨p, 0, none⟩), .int .i64 0]) ∧ At w0 ((BD pb pd most (joT most ts d) (joD most ts d)).star ((JO p pb pd ((d.kept.length - 2 : Nat) : Int) (joJ most ts d)).star C)) w' := by
  have hgw : Gd w := h.gd hg
  refine (At.jopb (X' := fun p => JA p pb pd most (joT most ts d) (joD most ts d) ((d.kept.length - 2 : Nat) : Int) (joJ most ts d)) (R := fun p e _ => e = .returned (.tuple #[.pointer (some ⟨p, 0, none⟩), .int .i64 0])) hC (BD_good _ _ _ _ _) h (Below.refl _ _) fun _ _ h1 _ _ h4 => (jopen (Becomes.refl h1) hgw (gd_out hg fun k hk => (h4 k hk).1) ho hl hn).mono fun e w' hj => ?_).mono fun e w' ⟨p, he, hA⟩ => ⟨p, he, hA.part⟩
  rcases hj with ⟨_, p, he, hb⟩ | ⟨hne, _⟩
  · exact ⟨p, he, hb⟩
  · exact absurd hE hne
theorem jlopen_no (hC : C.Good) (hg : Gd w0) (h : At w0 ((BD pb pd most ts d).star C) w) (ho : d.Ok) (hl : ts.length ≤ 1000000) (hn : d.waits.length ≤ 1000000) (hE : joE most ts d ≠ 0) :
    Calls Tryz.prog 34 #[.pointer (some ⟨pb, 0, none⟩), .pointer (some ⟨pd, 0, none⟩)] w fun e w' => e = .returned (.tuple #[.pointer none, .int .i64 (joE most ts d)]) ∧ At w0 ((BD pb pd most (joT most ts d) d).star C) w' := by
  have hgw : Gd w := h.gd hg
  have eD : joD most ts d = d := by unfold joD; rw [if_neg hE]
  refine At.jop (R := fun e _ => e = .returned (.tuple #[.pointer none, .int .i64 (joE most ts d)])) hC (BD_good _ _ _ _ _) h fun _ _ h1 _ _ h4 => (jopen (Becomes.refl h1) hgw (gd_out hg h4) ho hl hn).mono fun e w' hj => ?_
  rcases hj with ⟨h0, _⟩ | ⟨_, he, hb⟩
  · exact absurd h0 hE
  · rw [eD] at hb; exact ⟨he, hb⟩
theorem esin_lit {F : List Nat} {w w1 : World} (es : List Ev) (hF : ∀ k ∈ F, w0.heap.size ≤ k ∧ k < w.heap.size) (hw : w1 = w.alloc (.cells (ecells es).toArray TE)) (hn : es.length ≤ 1000) : EsIn F w1 (some ⟨w.heap.size, 0, none⟩) es.length es := by
  subst hw
  refine ⟨rfl, .inr ⟨w.heap.size, 0, rfl, fun i u hu => ?_, fun c => by have := (hF _ c).2; omega, by simp⟩, by omega⟩
  rw [Nat.zero_add, cell_of_row _ w.heap.size i _ _ _ (heap_alloc_new w _), List.getElem?_toArray]
  exact hu
theorem jlapp (hC : C.Good) (h : At w0 ((BD pb pd most ts d).star ((JO p pb pd m J).star C)) w) (hb : JOk ts d m J) (es : List Ev) (hn : es.length ≤ 1000) {w1 : World} (hw : w1 = w.alloc (.cells (ecells es).toArray TE)) :
    Calls Tryz.prog 15 #[.pointer (some ⟨p, 0, none⟩), .slice (some ⟨w.heap.size, 0, none⟩) es.length es.length] w1 fun e w' => e = .returned (.int .i64 (jpE most ts J d es)) ∧ At w0 ((BD pb pd most (jpT most ts J d es) (apD most ts J d es)).star ((JO p pb pd m (apJ most ts J d es)).star C)) w' :=
  (At.jopb (α := Unit) (X' := fun _ => JA p pb pd most (jpT most ts J d es) (apD most ts J d es) m (apJ most ts J d es)) (R := fun _ e _ => e = .returned (.int .i64 (jpE most ts J d es))) hC (JA_good _ _ _ _ _ _ _ _) h.fuse (hw ▸ balloc w _) fun _ _ h1 _ _ h4 => (jappend (Becomes.refl h1) (esin_lit es h4 hw hn) (fun c => by cases c) hb).mono fun _ _ hh => ⟨(), hh⟩).mono fun _ _ ⟨_, he, hA⟩ => ⟨he, hA.part⟩
theorem jlwrt (hC : C.Good) (h : At w0 ((BD pb pd most ts d).star ((JO p pb pd m J).star C)) w) (hb : JOk ts d m J) (es : List Ev) (hn : es.length ≤ 1000) {w1 : World} (hw : w1 = w.alloc (.cells (ecells es).toArray TE)) :
    Calls Tryz.prog 18 #[.pointer (some ⟨p, 0, none⟩), .slice (some ⟨w.heap.size, 0, none⟩) es.length es.length] w1 fun e w' => e = .returned (.int .i64 (jpE most ts J d es)) ∧ At w0 ((BD pb pd most (jpT most ts J d es) (wtD most ts J d es)).star ((JO p pb pd m (wtJ most ts J d es)).star C)) w' :=
  (At.jopb (α := Unit) (X' := fun _ => JA p pb pd most (jpT most ts J d es) (wtD most ts J d es) m (wtJ most ts J d es)) (R := fun _ e _ => e = .returned (.int .i64 (jpE most ts J d es))) hC (JA_good _ _ _ _ _ _ _ _) h.fuse (hw ▸ balloc w _) fun _ _ h1 _ _ h4 => (jwrit (cap := es.length) (Becomes.refl h1) (esin_lit es h4 hw hn) hb).mono fun _ _ hh => ⟨(), hh⟩).mono fun _ _ ⟨_, he, hA⟩ => ⟨he, hA.part⟩
theorem jlevents (hC : C.Good) (h : At w0 ((BD pb pd most ts d).star ((JO p pb pd m J).star C)) w) (hn : J.all.length ≤ 1000) :
    Calls Tryz.prog 26 #[.pointer (some ⟨p, 0, none⟩)] w fun e w' => ∃ ao cap, e = .returned (.slice ao J.all.length cap) ∧ At w0 ((rowE TE 8 (.slice ao J.all.length cap) J.all.length (ecells J.all)).star ((BD pb pd most ts d).star ((JO p pb pd m J).star C))) w' := by
  refine (At.jopb (X' := fun v => (rowE TE 8 v J.all.length (ecells J.all)).star (JA p pb pd most ts d m J)) (R := fun v e _ => e = .returned v) hC (JA_good _ _ _ _ _ _ _ _) h.fuse (Below.refl _ _) fun _ _ h1 _ _ _ => (jevents (Becomes.refl h1) hn).mono fun e w' ⟨v, he, _, hb⟩ => ⟨v, he, hb⟩).mono ?_
  rintro e w' ⟨v, he, hA⟩
  have h2 := hA.imp (Ass.imp.assoc' _ _ _)
  have h3 := h2.imp ((((JA.split _ _ _ _ _ _ _ _).left _).trans (Ass.imp.assoc' _ _ _)).under _)
  obtain ⟨_, ⟨_, _, _, ⟨hr, _⟩, _⟩, _⟩ := h2
  obtain ⟨ao, cap, rfl⟩ := rowE_shape hr
  exact ⟨ao, cap, he, h3⟩
theorem jlroom (hC : C.Good) (h : At w0 ((BD pb pd most ts d).star ((JO p pb pd m J).star C)) w) (hb : JOk ts d m J) :
    Calls Tryz.prog 30 #[.pointer (some ⟨p, 0, none⟩)] w fun e w' => e = .returned (.int .i64 (m - J.all.length)) ∧ At w0 ((BD pb pd most ts d).star ((JO p pb pd m J).star C)) w' :=
  (At.jop (X' := JA p pb pd most ts d m J) (R := fun e _ => e = .returned (.int .i64 (m - J.all.length))) hC (JA_good _ _ _ _ _ _ _ _) h.fuse fun _ _ h1 _ _ _ => jroom1 (Becomes.refl h1) hb).mono fun _ _ ⟨he, hA⟩ => ⟨he, hA.part⟩
theorem jlboot (h : At w0 ((JO p pb pd m J).star C) w) : Calls Tryz.prog 29 #[.pointer (some ⟨p, 0, none⟩)] w fun e w' => e = .returned (.int .i64 J.boot) ∧ w = w' := by
  obtain ⟨_, ⟨_, _, _, ⟨v, _, ⟨_, _, _, ⟨h1, _⟩, _⟩⟩, _⟩, _⟩ := h
  have c2 : w.cell? ⟨p, 2, none⟩ = some (.int .i64 J.boot) := cell_of_row w p 2 _ TJ (0, 0) h1
  clear h1
  generalize J.boot = B at *
  go_enter Tryz.func29, Tryz.ntmps29
  go_wp2
  go_ret
  exact ⟨rfl, rfl⟩
theorem jldisk {f : FuncId} {args : Array Value} {u : Ending} {d' : Dk} (hC : C.Good) (hd : Does Tryz.prog (dpA pd d) f args u (dpA pd d')) (h : At w0 ((BD pb pd most ts d).star C) w) : Calls Tryz.prog f args w fun e w' => e = u ∧ At w0 ((BD pb pd most ts d').star C) w' :=
  At.jop (X' := BD pb pd most ts d') (R := fun e _ => e = u) hC (BD_good _ _ _ _ _) h fun _ _ h1 _ _ _ => Becomes.opN hd (Ass.imp.swap _ _ _) (Ass.imp.swap _ _ _) ((bookA_good _ _ _).star emp_good) (Becomes.refl h1)
end
open Go Go.RowKit
abbrev se0 : Oper := ⟨some 17, .move (.tmp 0), 36, "memory.go:14", #[], none⟩
abbrev se1 : Oper := ⟨some 18, .move (.tmp 5), 3, "memory.go:14", #[], none⟩
abbrev se2 : Oper := ⟨some 19, .indexAddr 36 (.tmp 17) (.tmp 18), 0, "memory.go:14", #[⟨0, .data⟩, ⟨1, .data⟩], none⟩
abbrev se3 : Oper := ⟨some 20, .load 61 (.tmp 19), 61, "memory.go:14", #[⟨2, .data⟩], none⟩
abbrev se4 : Oper := ⟨some 21, .move (.tmp 1), 36, "memory.go:14", #[], none⟩
abbrev se5 : Oper := ⟨some 22, .move (.tmp 5), 3, "memory.go:14", #[], none⟩
abbrev se6 : Oper := ⟨some 23, .indexAddr 36 (.tmp 21) (.tmp 22), 0, "memory.go:14", #[⟨4, .data⟩, ⟨5, .data⟩], none⟩
abbrev se7 : Oper := ⟨some 24, .load 61 (.tmp 23), 61, "memory.go:14", #[⟨6, .data⟩], none⟩
abbrev se8 : Oper := ⟨some 25, .binOp .neq 61 (.tmp 20) (.tmp 24) 61, 4, "memory.go:14", #[⟨3, .data⟩, ⟨7, .data⟩], none⟩
theorem jexec_neq {a : Act} {w : World} {op : Oper} (p q : Operand) (ho : op.op = .binOp .neq 61 p q 61) (x y : Ev) (hp : a.eval p = .agg #[.int .i64 x.kind, .int .i64 x.user, .int .i64 x.session, .int .i64 x.address, .int .i64 x.a, .int .i64 x.b, .int .i64 x.c, .int .i64 x.tick]) (hq : a.eval q = .agg #[.int .i64 y.kind, .int .i64 y.user, .int .i64 y.session, .int .i64 y.address, .int .i64 y.a, .int .i64 y.b, .int .i64 y.c, .int .i64 y.tick]) : (execOp a.eval op).run Tryz.prog w = .ok (.value (.bool (!decide (x = y)))) w := by
  unfold execOp
  simp only [ho, hp, hq, Sem.run_bind]
  by_cases h : x = y
  · subst h
    go_simp
  · have hd : decide (x = y) = false := decide_eq_false h
    rw [hd]
    by_cases q0 : x.kind = y.kind
    · by_cases q1 : x.user = y.user
      · by_cases q2 : x.session = y.session
        · by_cases q3 : x.address = y.address
          · by_cases q4 : x.a = y.a
            · by_cases q5 : x.b = y.b
              · by_cases q6 : x.c = y.c
                · by_cases q7 : x.tick = y.tick
                  · exact absurd (show x = y from by obtain ⟨_, _, _, _, _, _, _, _⟩ := x; obtain ⟨_, _, _, _, _, _, _, _⟩ := y; simp only [Ev.mk.injEq]; exact ⟨q0, q1, q2, q3, q4, q5, q6, q7⟩) h
                  · go_simp
                · go_simp
              · go_simp
            · go_simp
          · go_simp
        · go_simp
      · go_simp
    · go_simp
def sameEv (n : Nat) (es fs : List Ev) : Prop := ∀ i, i < n → es.getD i Ev.zero = fs.getD i Ev.zero
theorem sameEv_eq {es fs : List Ev} (h1 : es.length = fs.length) (h : sameEv es.length es fs) : es = fs := by
  apply List.ext_getElem h1
  intro i a b
  have := h i a
  simpa [List.getD, a, b] using this
set_option maxRecDepth 100000 in
set_option maxHeartbeats 4000000 in
theorem lsame_ev {w : World} {ao bo : Option Addr} {n m c1 c2 : Nat} {es fs : List Ev} (h1 : EsIn [] w ao n es) (h2 : EsIn [] w bo m fs) :
    Calls Tryz.prog 28 #[.slice ao n c1, .slice bo m c2] w fun e w' => e = .returned (.bool (decide (es = fs))) ∧ Below w.heap.size w w' := by
  obtain ⟨l1, r1, f1⟩ := h1
  obtain ⟨l2, r2, f2⟩ := h2
  by_cases hl : n = m
  · subst hl
    have HL := Lib.hid (And.intro l1 l2)
    have HR1 := Lib.hid r1
    have HR2 := Lib.hid r2
    clear l1 l2 r1 r2
    have hb0 := Below.refl w.heap.size w
    go_enter Tryz.func28, Tryz.ntmps28
    go_wp2
    go_loopw [5] (fun x wr => ∃ k : Nat, k ≤ n ∧ x = .int .i64 (k : Int) ∧ sameEv k es fs ∧ Below w.heap.size w wr) (fun x _ => n - (intOf x).toNat)
    case atStart => exact ⟨0, Nat.zero_le _, rfl, (fun i hi => by omega), hb0⟩
    case round =>
      clear hb0
      obtain ⟨k, hkn, rfl, hp, hbl⟩ := hrel
      by_cases hlt : k < n
      · obtain ⟨b1, o1, rfl, e1, _, g1⟩ : ∃ b off, ao = some ⟨b, off, none⟩ ∧ EsAt w b off es ∧ b ∉ ([] : List Nat) ∧ b < w.heap.size := by
          rcases HR1.out with c | c
          · omega
          · exact c
        obtain ⟨b2, o2, rfl, e2, _, g2⟩ : ∃ b off, bo = some ⟨b, off, none⟩ ∧ EsAt w b off fs ∧ b ∉ ([] : List Nat) ∧ b < w.heap.size := by
          rcases HR2.out with c | c
          · omega
          · exact c
        have H1 := Lib.hid (fun W (hb : Below w.heap.size w W) => (e1.same (hb.block b1 g1)).elem (j := k) (by rw [← HL.out.1]; exact hlt))
        have H2 := Lib.hid (fun W (hb : Below w.heap.size w W) => (e2.same (hb.block b2 g2)).elem (j := k) (by rw [← HL.out.2]; exact hlt))
        obtain ⟨x, hx⟩ : ∃ x, es.getD k Ev.zero = x := ⟨_, rfl⟩
        obtain ⟨y, hy⟩ : ∃ y, fs.getD k Ev.zero = y := ⟨_, rfl⟩
        have HX := Lib.hid (And.intro hx hy)
        rw [hx] at H1
        rw [hy] at H2
        have HP := Lib.hid hp
        clear hx hy hp e1 e2
        go_wp2
        refine region_held (S := fun Z8 => Below w.heap.size w Z8) 9 [false, false, false, false, false, false, false, false, false] rfl rfl (by kernel_rfl) fun V0 hW => ?_
        have hV : Below w.heap.size w V0 := by rw [hW]; exact bon hbl (bdrew wr)
        clear hW hbl
        refine run_go [(0, se0, (some 17)), (1, se1, (some 18)), (2, se2, (some 19)), (3, se3, (some 20)), (4, se4, (some 21)), (5, se5, (some 22)), (6, se6, (some 23)), (7, se7, (some 24))] (by kernel_rfl) ?_
        iterate 8 (refine run_take ?_ rfl rfl (fun _ _ _ h => h) (Or.inl ⟨by rfl, ?_⟩) hV ?_; rotate_left; (· (intro w0 hy0; obtain ⟨a0, a1, a2, a3, a4, a5, a6, a7⟩ := H1.out _ hy0; obtain ⟨z0, z1, z2, z3, z4, z5, z6, z7⟩ := H2.out _ hy0; (go_simp <;> with_reducible rfl))); simp only [Act.put, List.setIfInBounds_toArray, List.set_cons_zero, List.set_cons_succ])
        refine run_end ?_
        refine held_take 8 se8 (some 25) (.bool (!decide (x = y))) rfl rfl (by kernel_rfl) (by kernel_rfl) (by kernel_rfl) (fun _ _ _ h => h) (Or.inl ⟨by rfl, fun w0 hy0 => jexec_neq (.tmp 20) (.tmp 24) rfl x y rfl rfl⟩) hV ?_
        simp only [Act.put, List.setIfInBounds_toArray, List.set_cons_zero, List.set_cons_succ]
        refine wpAnyH_done (by kernel_rfl) ?_ _
        by_cases hxy : x = y
        · have hd : (!decide (x = y)) = false := by simp [hxy]
          rw [hd]
          have HXY := Lib.hid hxy
          clear hxy hd
          go_wp2
          go_round
          case rel =>
            refine ⟨k + 1, by omega, by go_num, fun i hi => ?_, hV⟩
            by_cases c : i < k
            · exact HP.out i c
            · obtain rfl : i = k := by omega
              rw [HX.out.1, HX.out.2]; exact HXY.out
          case measure => simp [intOf]; omega
        · have hd : (!decide (x = y)) = true := by simp [hxy]
          rw [hd]
          have HXY := Lib.hid hxy
          clear hxy hd
          go_wp2
          go_ret
          have hne : decide (es = fs) = false := decide_eq_false fun c => HXY.out (by rw [← HX.out.1, ← HX.out.2, c])
          rw [hne]
          exact ⟨rfl, hV⟩
      · have HQ := Lib.hid (show es = fs from by
          obtain ⟨q1, q2⟩ := HL.out
          have hk : k = n := by omega
          refine sameEv_eq (by omega) ?_
          rw [← q1, ← hk]
          exact hp)
        clear hp
        go_wp2
        go_ret
        have he : decide (es = fs) = true := decide_eq_true HQ.out
        rw [he]
        exact ⟨rfl, hbl⟩
  · have hne : decide (es = fs) = false := decide_eq_false fun c => hl (by rw [l1, l2, c])
    rw [hne]
    have hd : ((n : Int) != (m : Int)) = true := by simp; omega
    clear l1 l2 r1 r2 hne
    go_enter Tryz.func28, Tryz.ntmps28
    go_wp2
    go_ret
    exact ⟨rfl, Below.refl _ _⟩
theorem pair_bad11 (n : Int) (w : World) (h : n < 1 ∨ 256 < n) : Calls Tryz.prog 11 #[.int .i64 n] w fun e w' => e = .returned (.tuple #[.pointer none, .pointer none]) ∧ Below w.heap.size w w' := by
  have HP := Lib.hid (fun w => kpnew_bad n w h)
  have HR := Lib.hid (fun w => krnew_bad n w h)
  clear h
  go_enter Tryz.func11, Tryz.ntmps11
  go_wp2_with (first
    | (go_at_call 44; (with_reducible refine (HP.out _).mono ?_); rintro e w1 ⟨rfl, hb1⟩)
    | (go_at_call 45; (with_reducible refine (HR.out _).mono ?_); rintro e w2 ⟨rfl, rfl⟩)
    | (go_at_call 16; (with_reducible refine (lnum _ _).mono ?_); rintro e w3 ⟨rfl, rfl⟩))
  go_ret2
  exact ⟨rfl, hb1⟩
theorem pair_ok11 (n : Nat) (w : World) (h1 : 1 ≤ n) (h2 : n ≤ 256) : Calls Tryz.prog 11 #[.int .i64 n] w fun e w' => ∃ pd qd : Nat, e = .returned (.tuple #[.pointer (some ⟨pd, 0, none⟩), .pointer (some ⟨qd, 0, none⟩)]) ∧ Becomes [] ((dkA TR qd (Dk.new n)).star ((dpA pd (Dk.new n)).star emp)) w w' := by
  have HP := Lib.hid (fun w => kpnew_ok n w h1 h2)
  have HR := Lib.hid (fun w => krnew_ok n w h1 h2)
  have hS := At.none (Below.refl w.heap.size w)
  clear h1 h2
  go_enter Tryz.func11, Tryz.ntmps11
  go_wp2_with (first
    | (go_at_call 44; (with_reducible refine (HP.out _).mono ?_); rintro e w1 ⟨pd, rfl, hb1⟩; replace hS := At.add emp_good hS hb1; clear hb1)
    | (go_at_call 45; (with_reducible refine (HR.out _).mono ?_); rintro e w2 ⟨qd, rfl, hb2⟩; replace hS := At.add ((dpA_good _ _).star emp_good) hS hb2; clear hb2)
    | (go_at_call 16; (with_reducible refine (lnum _ _).mono ?_); rintro e w3 ⟨rfl, rfl⟩))
  go_ret2
  exact ⟨pd, qd, rfl, hS.made⟩
open Go Go.RowKit
def jokB (ts : List ByteArray) (d : Dk) (m : Int) (J : Jn) : Bool :=
  decide (1 ≤ d.kept.length) && decide (d.kept.length ≤ 256) && d.kept.all (fun s => decide (s.size = 64)) && d.waits.all (fun x => decide (x.1 < d.kept.length) && decide (x.2.size = 64)) && decide (m = (d.kept.length : Int) - 2) && decide (2 ≤ d.kept.length) && decide (ts.length + 1000 ≤ 1000000) && decide (d.waits.length + 1000 ≤ 1000000) && decide (2 + J.all.length ≤ d.kept.length)
theorem jok_of {ts : List ByteArray} {d : Dk} {m : Int} {J : Jn} (h : jokB ts d m J = true) : JOk ts d m J := by
  unfold jokB at h
  simp only [Bool.and_eq_true, decide_eq_true_eq, List.all_eq_true] at h
  obtain ⟨⟨⟨⟨⟨⟨⟨⟨a, b⟩, c⟩, e⟩, f⟩, g⟩, i⟩, j⟩, k⟩ := h
  exact ⟨⟨a, b, c, e⟩, f, g, i, j, k⟩
abbrev awE1 : Ev := ⟨0, 0, 0, 0, 0, 0, 0, 5⟩
abbrev awE2 : Ev := ⟨8, 0, 0, 0, 0, 0, 0, 0⟩
abbrev awE3 : Ev := ⟨99, 0, 0, 0, 0, 0, 0, 0⟩
def awD0 : Dk := Dk.new 5
def awJ1 : Jn := joJ 99 [] awD0
def awT1 : List ByteArray := joT 99 [] awD0
def awD1 : Dk := joD 99 [] awD0
def awJ2 : Jn := apJ 99 awT1 awJ1 awD1 [awE1]
def awT2 : List ByteArray := jpT 99 awT1 awJ1 awD1 [awE1]
def awD2 : Dk := apD 99 awT1 awJ1 awD1 [awE1]
def awJ3 : Jn := wtJ 99 awT2 awJ2 awD2 [awE2, awE2]
def awT3 : List ByteArray := jpT 99 awT2 awJ2 awD2 [awE2, awE2]
def awD3 : Dk := wtD 99 awT2 awJ2 awD2 [awE2, awE2]
def awD5 : Dk := awD3.cr 1 5
def awD6 : Dk := awD5.rs
def awJ7 : Jn := joJ 99 awT3 awD6
def awT7 : List ByteArray := joT 99 awT3 awD6
def awD7 : Dk := joD 99 awT3 awD6
theorem aw_e1 : joE 99 [] awD0 = 0 := by kernel_rfl
theorem aw_e2 : jpE 99 awT1 awJ1 awD1 [awE1] = 0 := by kernel_rfl
theorem aw_e3 : jpE 99 awT2 awJ2 awD2 [awE2, awE2] = 0 := by kernel_rfl
theorem aw_e4 : jpE 99 awT3 awJ3 awD3 [awE1] = 1102 := by kernel_rfl
theorem aw_e7 : joE 99 awT3 awD6 = 0 := by kernel_rfl
theorem aw_e8 : jpE 99 awT7 awJ7 awD7 [awE2, awE2] = 1101 := by kernel_rfl
theorem aw_e9 : jpE 99 awT7 awJ7 awD7 [awE3] = 1100 := by kernel_rfl
theorem aw_t4 : jpT 99 awT3 awJ3 awD3 [awE1] = awT3 := by kernel_rfl
theorem aw_t8 : jpT 99 awT7 awJ7 awD7 [awE2, awE2] = awT7 := by kernel_rfl
theorem aw_t9 : jpT 99 awT7 awJ7 awD7 [awE3] = awT7 := by kernel_rfl
theorem aw_o0 : jokB [] awD0 3 ⟨0, 0, [], false⟩ = true := by kernel_rfl
theorem aw_o1 : jokB awT1 awD1 3 awJ1 = true := by kernel_rfl
theorem aw_o2 : jokB awT2 awD2 3 awJ2 = true := by kernel_rfl
theorem aw_o3 : jokB awT3 awD3 3 awJ3 = true := by kernel_rfl
theorem aw_o6 : jokB awT3 awD6 3 awJ3 = true := by kernel_rfl
theorem aw_o7 : jokB awT7 awD7 3 awJ7 = true := by kernel_rfl
theorem aw_b : awJ3.boot = 1 := by kernel_rfl
theorem aw_b7 : awJ7.boot = 2 := by kernel_rfl
theorem aw_a7 : awJ7.all = [awE1, awE2] := by kernel_rfl
theorem aw_k3 : awD3.crE 1 5 = 0 := by kernel_rfl
theorem aw_k5 : awD5.rsE = 0 := by kernel_rfl
theorem aw_l6 : awD6.kept.length = 5 := by kernel_rfl
open Go Go.RowKit
theorem pair_at11 (k : Int) (n : Nat) (hk : (n : Int) = k) (w : World) (h1 : 1 ≤ n) (h2 : n ≤ 256) : Calls Tryz.prog 11 #[.int .i64 k] w fun e w' => ∃ pd qd : Nat, e = .returned (.tuple #[.pointer (some ⟨pd, 0, none⟩), .pointer (some ⟨qd, 0, none⟩)]) ∧ Becomes [] ((dkA TR qd (Dk.new n)).star ((dpA pd (Dk.new n)).star emp)) w w' := by
  subst hk
  exact pair_ok11 n w h1 h2
theorem emp_left (T : Ass) : (emp.star T).imp T := by
  rintro w F ⟨_, F2, rfl, rfl, h, _⟩
  exact ⟨F2, h, fun k => by simp⟩
theorem emp_in (A B Y : Ass) : (A.star (B.star Y)).imp ((A.star (B.star emp)).star Y) := by
  rintro w F ⟨F1, _, rfl, a, ⟨F2, F3, rfl, b, y, d2⟩, d1⟩
  refine ⟨(F1 ++ (F2 ++ [])) ++ F3, ⟨_, F3, rfl, ⟨F1, _, rfl, a, ⟨F2, [], rfl, b, rfl, by simp⟩, fun k hk hk' => d1 k hk (by simp at hk'; simp [hk'])⟩, y, fun k hk hk' => ?_⟩, fun k => by simp⟩
  simp at hk
  rcases hk with c | c
  · exact d1 k c (by simp [hk'])
  · exact d2 k c hk'
theorem lawstart {w w1 w2 : World} {p q pd qd : Nat} {most : Int} {n : Nat} {ts : List ByteArray} (hb : Becomes [] (two p q most ts) w w1) (hp : Becomes [] ((dkA TR qd (Dk.new n)).star ((dpA pd (Dk.new n)).star emp)) w1 w2) : At w ((BD p pd most ts (Dk.new n)).star ((dkA TR qd (Dk.new n)).star ((refA q most ts).star emp))) w2 :=
  (At.add (two_good _ _ _ _) (At.start hb) hp).imp ((((Ass.imp.assoc' _ _ _).trans (((Ass.imp.assoc' _ _ _).trans ((emp_left _).under _)).under _)).trans (Ass.imp.up3 _ _ _ _ _)).trans (((Ass.imp.up1 _ _ _).under _).trans (emp_in _ _ _)))
theorem lawdrop {X : Ass} {w0 w : World} (h : At w0 X w) : At w0 (X.star emp) w := by
  obtain ⟨F, h1, h2, h3⟩ := h
  exact ⟨F ++ [], ⟨F, [], rfl, h1, rfl, by simp⟩, by simpa using h2, h3⟩
theorem lawtwo {w0 w : World} {p pb pd : Nat} {most : Int} {ts : List ByteArray} {d : Dk} {m : Int} {J : Jn} (c1 c2 : Array Value) (h : At w0 ((BD pb pd most ts d).star ((JO p pb pd m J).star emp)) w) :
    At w0 ((BD pb pd most ts d).star ((JO p pb pd m J).star ((ownA (w.heap.size + 1) c2 61).star ((ownA w.heap.size c1 61).star emp)))) ((w.alloc (.cells c1 61)).alloc (.cells c2 61)) := by
  have h1 := (h.hold ((BD_good _ _ _ _ _).star ((JO_good _ _ _ _ _).star emp_good)) c1 61).hold ((ownA_good _ _ _).star ((BD_good _ _ _ _ _).star ((JO_good _ _ _ _ _).star emp_good))) c2 61
  rw [show (w.alloc (.cells c1 61)).heap.size = w.heap.size + 1 by simp] at h1
  exact h1.imp ((Ass.imp.up2 _ _ _ _).trans ((Ass.imp.up2 _ _ _ _).under _))
theorem jx_Num {a : Act} {w : World} {op : Oper} (x : Operand) (ho : op.op = .call { callee := .value (.func 16), args := #[x], argTypes := #[40] }) {u : Value} (hx : a.eval x = u) : (execOp a.eval op).run Tryz.prog w = .ok (.enter 16 #[u]) w := by
  unfold execOp
  simp only [ho, resolve, Sem.run_bind, List.map_toArray, List.map_cons, List.map_nil, hx]
  go_simp
theorem jx_Boot {a : Act} {w : World} {op : Oper} (x : Operand) (ho : op.op = .call { callee := .value (.func 29), args := #[x], argTypes := #[32] }) {u : Value} (hx : a.eval x = u) : (execOp a.eval op).run Tryz.prog w = .ok (.enter 29 #[u]) w := by
  unfold execOp
  simp only [ho, resolve, Sem.run_bind, List.map_toArray, List.map_cons, List.map_nil, hx]
  go_simp
theorem jx_Events {a : Act} {w : World} {op : Oper} (x : Operand) (ho : op.op = .call { callee := .value (.func 26), args := #[x], argTypes := #[32] }) {u : Value} (hx : a.eval x = u) : (execOp a.eval op).run Tryz.prog w = .ok (.enter 26 #[u]) w := by
  unfold execOp
  simp only [ho, resolve, Sem.run_bind, List.map_toArray, List.map_cons, List.map_nil, hx]
  go_simp
theorem jx_Room {a : Act} {w : World} {op : Oper} (x : Operand) (ho : op.op = .call { callee := .value (.func 30), args := #[x], argTypes := #[32] }) {u : Value} (hx : a.eval x = u) : (execOp a.eval op).run Tryz.prog w = .ok (.enter 30 #[u]) w := by
  unfold execOp
  simp only [ho, resolve, Sem.run_bind, List.map_toArray, List.map_cons, List.map_nil, hx]
  go_simp
theorem jx_SameEvents {a : Act} {w : World} {op : Oper} (x y : Operand) (ho : op.op = .call { callee := .value (.func 28), args := #[x, y], argTypes := #[36, 36] }) {u v : Value} (hx : a.eval x = u) (hy : a.eval y = v) : (execOp a.eval op).run Tryz.prog w = .ok (.enter 28 #[u, v]) w := by
  unfold execOp
  simp only [ho, resolve, Sem.run_bind, List.map_toArray, List.map_cons, List.map_nil, hx, hy]
  go_simp
section
variable {P : Program} {ops : Array Oper} {Q : Exit → Act → World → Prop} {S : World → Prop} {fuel : Nat} {listed : Array Bool} {a : Act} {w : World}
theorem wpAnyH_one (i : Nat) (hr : Region.ready .any ops listed = [i]) (h : wpOp P ops Q i (fun a' w' => S w' ∧ wpAnyH P .any ops Q S fuel (listed.setIfInBounds i true) a' w') a w) : wpAnyH P .any ops Q S (fuel + 1) listed a w := by
  refine wpAnyH_all hr (by simp) (fun j hj => ?_)
  obtain rfl : j = i := by simpa using hj
  exact h
theorem jop_callx {Rx : Ending → World → Prop} (i : Nat) (o : Oper) (dst : Option Tmp) (f : FuncId) (args : Array Value) (ho : ops[i]? = some o) (hd : o.dst = dst) (hw : Region.wanted o (yielded ops a.tmps) = true)
    (hrun : (execOp a.eval o).run P w = .ok (.enter f args) w) (hc : Calls P f args w Rx)
    (h : ∀ e w', Rx e w' → ∃ v, e = .returned v ∧ S w' ∧ wpAnyH P .any ops Q S fuel (listed.setIfInBounds i true) (a.put dst v) w') : wpOp P ops Q i (fun a' w' => S w' ∧ wpAnyH P .any ops Q S fuel (listed.setIfInBounds i true) a' w') a w := by
  subst hd
  refine wpOp_step ho (fun K hK => ?_)
  rw [if_pos hw]
  unfold Oper.wp
  rw [hrun, Oper.upon_enter]
  refine hc.mono ?_
  intro e w' hR
  obtain ⟨v, rfl, h1, h2⟩ := h e w' hR
  exact hK _ _ ⟨h1, h2⟩
end
theorem fillE2 (x0 x1 x2 x3 x4 x5 x6 x7 y0 y1 y2 y3 y4 y5 y6 y7 : Int) : Instr.fill (fun i => some (i * 8, 8)) ((Array.range (2 * 8)).map ((Value.agg #[.int .i64 0, .int .i64 0, .int .i64 0, .int .i64 0, .int .i64 0, .int .i64 0, .int .i64 0, .int .i64 0]).cells[· % (Value.agg #[.int .i64 0, .int .i64 0, .int .i64 0, .int .i64 0, .int .i64 0, .int .i64 0, .int .i64 0, .int .i64 0]).cells.size]!)) #[(0, Value.agg #[.int .i64 x0, .int .i64 x1, .int .i64 x2, .int .i64 x3, .int .i64 x4, .int .i64 x5, .int .i64 x6, .int .i64 x7]), (1, Value.agg #[.int .i64 y0, .int .i64 y1, .int .i64 y2, .int .i64 y3, .int .i64 y4, .int .i64 y5, .int .i64 y6, .int .i64 y7])].toList = some #[.int .i64 x0, .int .i64 x1, .int .i64 x2, .int .i64 x3, .int .i64 x4, .int .i64 x5, .int .i64 x6, .int .i64 x7, .int .i64 y0, .int .i64 y1, .int .i64 y2, .int .i64 y3, .int .i64 y4, .int .i64 y5, .int .i64 y6, .int .i64 y7] := by kernel_rfl
theorem jexec_slice2 {a : Act} {w : World} {op : Oper} (p q : Operand) (ho : op.op = .buildSlice 36 2 #[(0, p), (1, q)]) (x y : Ev) (hx : a.eval p = .agg #[.int .i64 x.kind, .int .i64 x.user, .int .i64 x.session, .int .i64 x.address, .int .i64 x.a, .int .i64 x.b, .int .i64 x.c, .int .i64 x.tick]) (hy : a.eval q = .agg #[.int .i64 y.kind, .int .i64 y.user, .int .i64 y.session, .int .i64 y.address, .int .i64 y.a, .int .i64 y.b, .int .i64 y.c, .int .i64 y.tick]) :
    (execOp a.eval op).run Tryz.prog w = .ok (.value (.slice (some ⟨w.heap.size, 0, none⟩) 2 2)) (w.alloc (.cells (ecells [x, y]).toArray 61)) := by
  obtain ⟨ie, hie, hz, hs, _⟩ := info_parts infoEv
  have hrun := run_buildSlice (P := Tryz.prog) w 36 TE 2 #[(0, .agg #[.int .i64 x.kind, .int .i64 x.user, .int .i64 x.session, .int .i64 x.address, .int .i64 x.a, .int .i64 x.b, .int .i64 x.c, .int .i64 x.tick]), (1, .agg #[.int .i64 y.kind, .int .i64 y.user, .int .i64 y.session, .int .i64 y.address, .int .i64 y.a, .int .i64 y.b, .int .i64 y.c, .int .i64 y.tick])] (ecells [x, y]).toArray ie _ Tryz.underlying36 hie hz (by rw [hs]; decide) (by rw [hs]; decide) (by rw [hs]; exact fillE2 _ _ _ _ _ _ _ _ _ _ _ _ _ _ _ _)
  unfold execOp
  simp only [ho, List.map_toArray, List.map_cons, List.map_nil, hx, hy, Sem.run_bind, hrun, Result.andThen_ok, Sem.run_pure]
theorem esin_at {w0 w : World} {C : Ass} {ao : Option Addr} {n cap : Nat} {es : List Ev} (h : At w0 ((rowE TE 8 (.slice ao n cap) es.length (ecells es)).star C) w) (hn : es.length ≤ 1000) : EsIn [] w ao n es := by
  obtain ⟨F, h1, _, _⟩ := h
  have hr : w.ownsRow 0 TE 8 (.slice ao n cap) es.length (ecells es) := by obtain ⟨_, _, _, ⟨h, _⟩, _⟩ := h1; exact h
  obtain ⟨a2, c2, e⟩ := rowE_shape hr
  obtain ⟨rfl, rfl, rfl⟩ : ao = a2 ∧ n = es.length ∧ cap = c2 := by simpa using e
  rcases hr.2 with ⟨e, h0⟩ | ⟨g, c, cur, e, _, hg, _⟩
  · exact ⟨rfl, .inl (by omega), by omega⟩
  · obtain ⟨rfl, _⟩ : ao = some ⟨g, 0, none⟩ ∧ cap = c := by simpa using e
    have hlt : g < w.heap.size := by
      rcases Nat.lt_or_ge g w.heap.size with c | c
      · exact c
      · rw [Array.getElem?_eq_none c] at hg; cases hg
    refine ⟨rfl, .inr ⟨g, 0, rfl, fun i u hu => ?_, by simp, hlt⟩, by omega⟩
    have := hr.cells (g := g) rfl i u hu
    rw [Addr.add_lit] at this
    exact this
theorem esin_own {w0 w : World} {C : Ass} {b : Nat} {es : List Ev} {c : Array Value} (h : At w0 ((ownA b c 61).star C) w) (hc : c = (ecells es).toArray := by rfl) (hn : es.length ≤ 1000 := by decide) : EsIn [] w (some ⟨b, 0, none⟩) es.length es := by
  subst hc
  obtain ⟨h1, _, h3⟩ := h.own
  refine ⟨rfl, .inr ⟨b, 0, rfl, fun i u hu => ?_, by simp, h3⟩, by omega⟩
  rw [Nat.zero_add, h1 i, List.getElem?_toArray]
  exact hu
abbrev aw0 : Oper := ⟨some 91, .move (.tmp 8), 40, "law.go:76", #[], none⟩
abbrev aw1 : Oper := ⟨some 92, .call { callee := .value (.func 16), args := #[.tmp 91], argTypes := #[40] }, 3, "law.go:76", #[⟨0, .data⟩], none⟩
abbrev aw2 : Oper := ⟨some 93, .binOp .eql 3 (.tmp 92) (.const (.int .i64 1)) 3, 4, "law.go:76", #[⟨1, .data⟩], none⟩
abbrev aw3 : Oper := ⟨some 94, .move (.tmp 93), 4, "law.go:76", #[⟨2, .data⟩, ⟨1, .chain⟩], none⟩
abbrev aw4 : Oper := ⟨some 95, .move (.tmp 5), 32, "law.go:76", #[⟨3, .guard⟩], some (3, true)⟩
abbrev aw5 : Oper := ⟨some 96, .call { callee := .value (.func 29), args := #[.tmp 95], argTypes := #[32] }, 3, "law.go:76", #[⟨4, .data⟩, ⟨3, .chain⟩, ⟨3, .guard⟩], some (3, true)⟩
abbrev aw6 : Oper := ⟨some 97, .binOp .eql 3 (.tmp 96) (.const (.int .i64 1)) 3, 4, "law.go:76", #[⟨5, .data⟩, ⟨3, .guard⟩], some (3, true)⟩
abbrev aw7 : Oper := ⟨some 98, .pick (.tmp 94) (.tmp 97) (.const (.bool false)), 4, "law.go:76", #[⟨3, .data⟩, ⟨6, .data⟩], none⟩
abbrev aw8 : Oper := ⟨some 99, .move (.tmp 98), 4, "law.go:76", #[⟨7, .data⟩, ⟨5, .chain⟩], none⟩
abbrev aw9 : Oper := ⟨some 100, .move (.tmp 11), 40, "law.go:76", #[⟨8, .guard⟩], some (8, true)⟩
abbrev aw10 : Oper := ⟨some 101, .call { callee := .value (.func 16), args := #[.tmp 100], argTypes := #[40] }, 3, "law.go:76", #[⟨9, .data⟩, ⟨8, .chain⟩, ⟨8, .guard⟩], some (8, true)⟩
abbrev aw11 : Oper := ⟨some 102, .binOp .eql 3 (.tmp 101) (.const (.int .i64 0)) 3, 4, "law.go:76", #[⟨10, .data⟩, ⟨8, .guard⟩], some (8, true)⟩
abbrev aw12 : Oper := ⟨some 103, .pick (.tmp 99) (.tmp 102) (.const (.bool false)), 4, "law.go:76", #[⟨8, .data⟩, ⟨11, .data⟩], none⟩
abbrev aw13 : Oper := ⟨some 104, .move (.tmp 103), 4, "law.go:76", #[⟨12, .data⟩, ⟨10, .chain⟩], none⟩
abbrev aw14 : Oper := ⟨some 105, .move (.tmp 12), 40, "law.go:76", #[⟨13, .guard⟩], some (13, true)⟩
abbrev aw15 : Oper := ⟨some 106, .call { callee := .value (.func 16), args := #[.tmp 105], argTypes := #[40] }, 3, "law.go:76", #[⟨14, .data⟩, ⟨13, .chain⟩, ⟨13, .guard⟩], some (13, true)⟩
abbrev aw16 : Oper := ⟨some 107, .binOp .eql 3 (.tmp 106) (.const (.int .i64 0)) 3, 4, "law.go:76", #[⟨15, .data⟩, ⟨13, .guard⟩], some (13, true)⟩
abbrev aw17 : Oper := ⟨some 108, .pick (.tmp 104) (.tmp 107) (.const (.bool false)), 4, "law.go:76", #[⟨13, .data⟩, ⟨16, .data⟩], none⟩
abbrev aw18 : Oper := ⟨some 109, .move (.tmp 108), 4, "law.go:76", #[⟨17, .data⟩, ⟨15, .chain⟩], none⟩
abbrev aw19 : Oper := ⟨some 110, .move (.tmp 13), 40, "law.go:76", #[⟨18, .guard⟩], some (18, true)⟩
abbrev aw20 : Oper := ⟨some 111, .call { callee := .value (.func 16), args := #[.tmp 110], argTypes := #[40] }, 3, "law.go:76", #[⟨19, .data⟩, ⟨18, .chain⟩, ⟨18, .guard⟩], some (18, true)⟩
abbrev aw21 : Oper := ⟨some 112, .binOp .eql 3 (.tmp 111) (.const (.int .i64 1102)) 3, 4, "law.go:76", #[⟨20, .data⟩, ⟨18, .guard⟩], some (18, true)⟩
abbrev aw22 : Oper := ⟨some 113, .pick (.tmp 109) (.tmp 112) (.const (.bool false)), 4, "law.go:76", #[⟨18, .data⟩, ⟨21, .data⟩], none⟩
abbrev aw23 : Oper := ⟨some 114, .move (.tmp 113), 4, "law.go:76", #[⟨22, .data⟩, ⟨20, .chain⟩], none⟩
abbrev aw24 : Oper := ⟨some 115, .move (.tmp 14), 32, "law.go:76", #[⟨23, .guard⟩], some (23, true)⟩
abbrev aw25 : Oper := ⟨some 116, .call { callee := .value (.func 29), args := #[.tmp 115], argTypes := #[32] }, 3, "law.go:76", #[⟨24, .data⟩, ⟨23, .chain⟩, ⟨23, .guard⟩], some (23, true)⟩
abbrev aw26 : Oper := ⟨some 117, .binOp .eql 3 (.tmp 116) (.const (.int .i64 2)) 3, 4, "law.go:76", #[⟨25, .data⟩, ⟨23, .guard⟩], some (23, true)⟩
abbrev aw27 : Oper := ⟨some 118, .pick (.tmp 114) (.tmp 117) (.const (.bool false)), 4, "law.go:76", #[⟨23, .data⟩, ⟨26, .data⟩], none⟩
abbrev aw28 : Oper := ⟨some 119, .move (.tmp 118), 4, "law.go:76", #[⟨27, .data⟩, ⟨25, .chain⟩], none⟩
abbrev aw29 : Oper := ⟨some 120, .move (.tmp 14), 32, "law.go:76", #[⟨28, .guard⟩], some (28, true)⟩
abbrev aw30 : Oper := ⟨some 121, .call { callee := .value (.func 26), args := #[.tmp 120], argTypes := #[32] }, 36, "law.go:76", #[⟨29, .data⟩, ⟨28, .chain⟩, ⟨28, .guard⟩], some (28, true)⟩
abbrev aw31 : Oper := ⟨some 122, .load 61 (.tmp 9), 61, "law.go:76", #[⟨28, .guard⟩], some (28, true)⟩
abbrev aw32 : Oper := ⟨some 123, .load 61 (.tmp 10), 61, "law.go:76", #[⟨28, .guard⟩], some (28, true)⟩
abbrev aw33 : Oper := ⟨some 124, .buildSlice 36 2 #[(0, .tmp 122), (1, .tmp 123)], 36, "law.go:76", #[⟨31, .data⟩, ⟨32, .data⟩, ⟨28, .guard⟩], some (28, true)⟩
abbrev aw34 : Oper := ⟨some 125, .call { callee := .value (.func 28), args := #[.tmp 121, .tmp 124], argTypes := #[36, 36] }, 4, "law.go:76", #[⟨30, .data⟩, ⟨33, .data⟩, ⟨30, .chain⟩, ⟨28, .guard⟩], some (28, true)⟩
abbrev aw35 : Oper := ⟨some 126, .pick (.tmp 119) (.tmp 125) (.const (.bool false)), 4, "law.go:76", #[⟨28, .data⟩, ⟨34, .data⟩], none⟩
abbrev aw36 : Oper := ⟨some 127, .move (.tmp 126), 4, "law.go:76", #[⟨35, .data⟩, ⟨34, .chain⟩], none⟩
abbrev aw37 : Oper := ⟨some 128, .move (.tmp 14), 32, "law.go:76", #[⟨36, .guard⟩], some (36, true)⟩
abbrev aw38 : Oper := ⟨some 129, .call { callee := .value (.func 30), args := #[.tmp 128], argTypes := #[32] }, 3, "law.go:76", #[⟨37, .data⟩, ⟨36, .chain⟩, ⟨36, .guard⟩], some (36, true)⟩
abbrev aw39 : Oper := ⟨some 130, .binOp .eql 3 (.tmp 129) (.const (.int .i64 1)) 3, 4, "law.go:76", #[⟨38, .data⟩, ⟨36, .guard⟩], some (36, true)⟩
abbrev aw40 : Oper := ⟨some 131, .pick (.tmp 127) (.tmp 130) (.const (.bool false)), 4, "law.go:76", #[⟨36, .data⟩, ⟨39, .data⟩], none⟩
abbrev aw41 : Oper := ⟨some 132, .move (.tmp 131), 4, "law.go:76", #[⟨40, .data⟩, ⟨38, .chain⟩], none⟩
abbrev aw42 : Oper := ⟨some 133, .move (.tmp 16), 40, "law.go:76", #[⟨41, .guard⟩], some (41, true)⟩
abbrev aw43 : Oper := ⟨some 134, .call { callee := .value (.func 16), args := #[.tmp 133], argTypes := #[40] }, 3, "law.go:76", #[⟨42, .data⟩, ⟨41, .chain⟩, ⟨41, .guard⟩], some (41, true)⟩
abbrev aw44 : Oper := ⟨some 135, .binOp .eql 3 (.tmp 134) (.const (.int .i64 1101)) 3, 4, "law.go:76", #[⟨43, .data⟩, ⟨41, .guard⟩], some (41, true)⟩
abbrev aw45 : Oper := ⟨some 136, .pick (.tmp 132) (.tmp 135) (.const (.bool false)), 4, "law.go:76", #[⟨41, .data⟩, ⟨44, .data⟩], none⟩
abbrev aw46 : Oper := ⟨some 137, .move (.tmp 136), 4, "law.go:76", #[⟨45, .data⟩, ⟨43, .chain⟩], none⟩
abbrev aw47 : Oper := ⟨some 138, .move (.tmp 17), 40, "law.go:76", #[⟨46, .guard⟩], some (46, true)⟩
abbrev aw48 : Oper := ⟨some 139, .call { callee := .value (.func 16), args := #[.tmp 138], argTypes := #[40] }, 3, "law.go:76", #[⟨47, .data⟩, ⟨46, .chain⟩, ⟨46, .guard⟩], some (46, true)⟩
abbrev aw49 : Oper := ⟨some 140, .binOp .eql 3 (.tmp 139) (.const (.int .i64 1100)) 3, 4, "law.go:76", #[⟨48, .data⟩, ⟨46, .guard⟩], some (46, true)⟩
abbrev aw50 : Oper := ⟨some 141, .pick (.tmp 137) (.tmp 140) (.const (.bool false)), 4, "law.go:76", #[⟨46, .data⟩, ⟨49, .data⟩], none⟩
abbrev aw51 : Oper := ⟨some 0, .assign (.tmp 141), 4, "law.go:76", #[⟨50, .data⟩, ⟨48, .chain⟩, ⟨0, .phase⟩, ⟨1, .phase⟩, ⟨2, .phase⟩, ⟨3, .phase⟩, ⟨4, .phase⟩, ⟨5, .phase⟩, ⟨6, .phase⟩, ⟨7, .phase⟩, ⟨8, .phase⟩, ⟨9, .phase⟩, ⟨10, .phase⟩, ⟨11, .phase⟩, ⟨12, .phase⟩, ⟨13, .phase⟩, ⟨14, .phase⟩, ⟨15, .phase⟩, ⟨16, .phase⟩, ⟨17, .phase⟩, ⟨18, .phase⟩, ⟨19, .phase⟩, ⟨20, .phase⟩, ⟨21, .phase⟩, ⟨22, .phase⟩, ⟨23, .phase⟩, ⟨24, .phase⟩, ⟨25, .phase⟩, ⟨26, .phase⟩, ⟨27, .phase⟩, ⟨28, .phase⟩, ⟨29, .phase⟩, ⟨30, .phase⟩, ⟨31, .phase⟩, ⟨32, .phase⟩, ⟨33, .phase⟩, ⟨34, .phase⟩, ⟨35, .phase⟩, ⟨36, .phase⟩, ⟨37, .phase⟩, ⟨38, .phase⟩, ⟨39, .phase⟩, ⟨40, .phase⟩, ⟨41, .phase⟩, ⟨42, .phase⟩, ⟨43, .phase⟩, ⟨44, .phase⟩, ⟨45, .phase⟩, ⟨46, .phase⟩, ⟨47, .phase⟩, ⟨48, .phase⟩, ⟨49, .phase⟩, ⟨50, .phase⟩], none⟩
set_option maxRecDepth 100000 in
set_option maxHeartbeats 16000000 in
theorem awake11_of (T1 T2 T3 T7 : List ByteArray) (D1 D2 D3 D5 D6 D7 : Dk) (J1 J2 J3 J7 : Jn)
    (hO1 : ∀ (C : Ass) (w0 w : World) (pb pd : Nat), C.Good → Gd w0 → At w0 ((BD pb pd 99 [] (Dk.new 5)).star C) w → Calls Tryz.prog 34 #[.pointer (some ⟨pb, 0, none⟩), .pointer (some ⟨pd, 0, none⟩)] w fun e w' => ∃ p : Nat, e = .returned (.tuple #[.pointer (some ⟨p, 0, none⟩), .int .i64 0]) ∧ At w0 ((BD pb pd 99 T1 D1).star ((JO p pb pd 3 J1).star C)) w')
    (hA1 : ∀ (C : Ass) (w0 w : World) (pb pd p b : Nat), b = w.heap.size → C.Good → At w0 ((BD pb pd 99 T1 D1).star ((JO p pb pd 3 J1).star C)) w → Calls Tryz.prog 15 #[.pointer (some ⟨p, 0, none⟩), .slice (some ⟨b, 0, none⟩) 1 1] (w.alloc (.cells #[.int .i64 0, .int .i64 0, .int .i64 0, .int .i64 0, .int .i64 0, .int .i64 0, .int .i64 0, .int .i64 5] 61)) fun e w' => e = .returned (.int .i64 0) ∧ At w0 ((BD pb pd 99 T2 D2).star ((JO p pb pd 3 J2).star C)) w')
    (hW2 : ∀ (C : Ass) (w0 w : World) (pb pd p b : Nat), b = w.heap.size → C.Good → At w0 ((BD pb pd 99 T2 D2).star ((JO p pb pd 3 J2).star C)) w → Calls Tryz.prog 18 #[.pointer (some ⟨p, 0, none⟩), .slice (some ⟨b, 0, none⟩) 2 2] (w.alloc (.cells #[.int .i64 8, .int .i64 0, .int .i64 0, .int .i64 0, .int .i64 0, .int .i64 0, .int .i64 0, .int .i64 0, .int .i64 8, .int .i64 0, .int .i64 0, .int .i64 0, .int .i64 0, .int .i64 0, .int .i64 0, .int .i64 0] 61)) fun e w' => e = .returned (.int .i64 0) ∧ At w0 ((BD pb pd 99 T3 D3).star ((JO p pb pd 3 J3).star C)) w')
    (hA4 : ∀ (C : Ass) (w0 w : World) (pb pd p b : Nat), b = w.heap.size → C.Good → At w0 ((BD pb pd 99 T3 D3).star ((JO p pb pd 3 J3).star C)) w → Calls Tryz.prog 15 #[.pointer (some ⟨p, 0, none⟩), .slice (some ⟨b, 0, none⟩) 1 1] (w.alloc (.cells #[.int .i64 0, .int .i64 0, .int .i64 0, .int .i64 0, .int .i64 0, .int .i64 0, .int .i64 0, .int .i64 5] 61)) fun e w' => e = .returned (.int .i64 1102) ∧ At w0 ((BD pb pd 99 T3 D3).star ((JO p pb pd 3 J3).star C)) w')
    (hK3 : ∀ (C : Ass) (w0 w : World) (pb pd : Nat), C.Good → At w0 ((BD pb pd 99 T3 D3).star C) w → Calls Tryz.prog 24 #[.pointer (some ⟨pd, 0, none⟩), .int .i64 1, .int .i64 5] w fun e w' => e = .returned (.int .i64 0) ∧ At w0 ((BD pb pd 99 T3 D5).star C) w')
    (hR5 : ∀ (C : Ass) (w0 w : World) (pb pd : Nat), C.Good → At w0 ((BD pb pd 99 T3 D5).star C) w → Calls Tryz.prog 22 #[.pointer (some ⟨pd, 0, none⟩)] w fun e w' => e = .returned (.int .i64 0) ∧ At w0 ((BD pb pd 99 T3 D6).star C) w')
    (hO7 : ∀ (C : Ass) (w0 w : World) (pb pd : Nat), C.Good → Gd w0 → At w0 ((BD pb pd 99 T3 D6).star C) w → Calls Tryz.prog 34 #[.pointer (some ⟨pb, 0, none⟩), .pointer (some ⟨pd, 0, none⟩)] w fun e w' => ∃ p : Nat, e = .returned (.tuple #[.pointer (some ⟨p, 0, none⟩), .int .i64 0]) ∧ At w0 ((BD pb pd 99 T7 D7).star ((JO p pb pd 3 J7).star C)) w')
    (hA8 : ∀ (C : Ass) (w0 w : World) (pb pd p b : Nat), b = w.heap.size → C.Good → At w0 ((BD pb pd 99 T7 D7).star ((JO p pb pd 3 J7).star C)) w → Calls Tryz.prog 15 #[.pointer (some ⟨p, 0, none⟩), .slice (some ⟨b, 0, none⟩) 2 2] (w.alloc (.cells #[.int .i64 8, .int .i64 0, .int .i64 0, .int .i64 0, .int .i64 0, .int .i64 0, .int .i64 0, .int .i64 0, .int .i64 8, .int .i64 0, .int .i64 0, .int .i64 0, .int .i64 0, .int .i64 0, .int .i64 0, .int .i64 0] 61)) fun e w' => e = .returned (.int .i64 1101) ∧ At w0 ((BD pb pd 99 T7 D7).star ((JO p pb pd 3 J7).star C)) w')
    (hA9 : ∀ (C : Ass) (w0 w : World) (pb pd p b : Nat), b = w.heap.size → C.Good → At w0 ((BD pb pd 99 T7 D7).star ((JO p pb pd 3 J7).star C)) w → Calls Tryz.prog 15 #[.pointer (some ⟨p, 0, none⟩), .slice (some ⟨b, 0, none⟩) 1 1] (w.alloc (.cells #[.int .i64 99, .int .i64 0, .int .i64 0, .int .i64 0, .int .i64 0, .int .i64 0, .int .i64 0, .int .i64 0] 61)) fun e w' => e = .returned (.int .i64 1100) ∧ At w0 ((BD pb pd 99 T7 D7).star ((JO p pb pd 3 J7).star C)) w')
    (hB3 : J3.boot = 1)
    (hB7 : J7.boot = 2)
    (hV7 : J7.all = [⟨0, 0, 0, 0, 0, 0, 0, 5⟩, ⟨8, 0, 0, 0, 0, 0, 0, 0⟩])
    (hK7 : JOk T7 D7 3 J7)
    (w : World) (hg : Gd w) : Calls Tryz.prog 12 #[] w fun e w' => e = .returned (.bool true) ∧ Below w.heap.size w w' := by
  have HO1 := Lib.hid hO1
  have HA1 := Lib.hid hA1
  have HW2 := Lib.hid hW2
  have HA4 := Lib.hid hA4
  have HK3 := Lib.hid hK3
  have HR5 := Lib.hid hR5
  have HO7 := Lib.hid hO7
  have HA8 := Lib.hid hA8
  have HA9 := Lib.hid hA9
  have HB3 := Lib.hid hB3
  have HB7 := Lib.hid hB7
  have HV7 := Lib.hid hV7
  have HK7 := Lib.hid hK7
  have HG := Lib.hid hg
  clear hO1 hA1 hW2 hA4 hK3 hR5 hO7 hA8 hA9 hB3 hB7 hV7 hK7 hg
  go_enter Tryz.func12, Tryz.ntmps12
  go_wp2_with (first
    | (go_at_call 10; (with_reducible refine (twin_none11 99 _ (by omega) (by omega)).mono ?_); rintro e w1 ⟨p, q, rfl, hb⟩)
    | (go_at_call 11; (with_reducible refine (pair_at11 5 5 rfl _ (by omega) (by omega)).mono ?_); rintro e w2 ⟨pd, qd, rfl, hp⟩; have hS := (lawstart hb hp); replace hS := lawdrop (hS.imp (Ass.imp.comm _ _)).drop; clear hb hp)
    | (go_at_call 34; first
        | ((with_reducible refine (jopen_nil1 _ _).mono ?_); rintro e w9 ⟨rfl, rfl⟩)
        | ((with_reducible refine (HO1.out _ _ _ _ _ emp_good HG.out hS).mono ?_); rintro e w3 ⟨p1, rfl, hS1⟩; replace hS := lawtwo (#[.int .i64 0, .int .i64 0, .int .i64 0, .int .i64 0, .int .i64 0, .int .i64 0, .int .i64 0, .int .i64 5]) (#[.int .i64 8, .int .i64 0, .int .i64 0, .int .i64 0, .int .i64 0, .int .i64 0, .int .i64 0, .int .i64 0]) hS1; clear hS1)
        | ((with_reducible refine (HO7.out _ _ _ _ _ ((JO_good _ _ _ _ _).star ((ownA_good _ _ _).star ((ownA_good _ _ _).star emp_good))) HG.out hS).mono ?_); rintro e w7 ⟨p2, rfl, hS1⟩; replace hS := hS1; clear hS1; have f := hS.drop.drop.drop.own.1; have f2 := hS.drop.drop.drop.drop.own.1; have y0 := f 0; have x0 := f2 0; have y1 := f 1; have x1 := f2 1; have y2 := f 2; have x2 := f2 2; have y3 := f 3; have x3 := f2 3; have y4 := f 4; have x4 := f2 4; have y5 := f 5; have x5 := f2 5; have y6 := f 6; have x6 := f2 6; have y7 := f 7; have x7 := f2 7; clear f f2))
    | (go_at_call 15; first
        | ((with_reducible refine (HA1.out _ _ _ _ _ _ _ ?hb ((ownA_good _ _ _).star ((ownA_good _ _ _).star emp_good)) hS).mono ?_); (case hb => simp); rintro e w4 ⟨rfl, hS1⟩; replace hS := hS1; clear hS1; have f := hS.drop.drop.own.1; have f2 := hS.drop.drop.drop.own.1; have y0 := f 0; have x0 := f2 0; have y1 := f 1; have x1 := f2 1; have y2 := f 2; have x2 := f2 2; have y3 := f 3; have x3 := f2 3; have y4 := f 4; have x4 := f2 4; have y5 := f 5; have x5 := f2 5; have y6 := f 6; have x6 := f2 6; have y7 := f 7; have x7 := f2 7; clear f f2)
        | ((with_reducible refine (HA4.out _ _ _ _ _ _ _ ?hb ((ownA_good _ _ _).star ((ownA_good _ _ _).star emp_good)) hS).mono ?_); (case hb => simp); rintro e w4 ⟨rfl, hS1⟩; replace hS := hS1; clear hS1; have f := hS.drop.drop.own.1; have f2 := hS.drop.drop.drop.own.1; have y0 := f 0; have x0 := f2 0; have y1 := f 1; have x1 := f2 1; have y2 := f 2; have x2 := f2 2; have y3 := f 3; have x3 := f2 3; have y4 := f 4; have x4 := f2 4; have y5 := f 5; have x5 := f2 5; have y6 := f 6; have x6 := f2 6; have y7 := f 7; have x7 := f2 7; clear f f2)
        | ((with_reducible refine (HA8.out _ _ _ _ _ _ _ ?hb ((JO_good _ _ _ _ _).star ((ownA_good _ _ _).star ((ownA_good _ _ _).star emp_good))) hS).mono ?_); (case hb => simp); rintro e w4 ⟨rfl, hS1⟩; replace hS := hS1; clear hS1; have f := hS.drop.drop.drop.own.1; have f2 := hS.drop.drop.drop.drop.own.1; have y0 := f 0; have x0 := f2 0; have y1 := f 1; have x1 := f2 1; have y2 := f 2; have x2 := f2 2; have y3 := f 3; have x3 := f2 3; have y4 := f 4; have x4 := f2 4; have y5 := f 5; have x5 := f2 5; have y6 := f 6; have x6 := f2 6; have y7 := f 7; have x7 := f2 7; clear f f2)
        | ((with_reducible refine (HA9.out _ _ _ _ _ _ _ ?hb ((JO_good _ _ _ _ _).star ((ownA_good _ _ _).star ((ownA_good _ _ _).star emp_good))) hS).mono ?_); (case hb => simp); rintro e w4 ⟨rfl, hS1⟩; replace hS := hS1; clear hS1; have f := hS.drop.drop.drop.own.1; have f2 := hS.drop.drop.drop.drop.own.1; have y0 := f 0; have x0 := f2 0; have y1 := f 1; have x1 := f2 1; have y2 := f 2; have x2 := f2 2; have y3 := f 3; have x3 := f2 3; have y4 := f 4; have x4 := f2 4; have y5 := f 5; have x5 := f2 5; have y6 := f 6; have x6 := f2 6; have y7 := f 7; have x7 := f2 7; clear f f2))
    | (go_at_call 18; ((with_reducible refine (HW2.out _ _ _ _ _ _ _ ?hb ((ownA_good _ _ _).star ((ownA_good _ _ _).star emp_good)) hS).mono ?_); (case hb => simp); rintro e w4 ⟨rfl, hS1⟩; replace hS := hS1; clear hS1; have f := hS.drop.drop.own.1; have f2 := hS.drop.drop.drop.own.1; have y0 := f 0; have x0 := f2 0; have y1 := f 1; have x1 := f2 1; have y2 := f 2; have x2 := f2 2; have y3 := f 3; have x3 := f2 3; have y4 := f 4; have x4 := f2 4; have y5 := f 5; have x5 := f2 5; have y6 := f 6; have x6 := f2 6; have y7 := f 7; have x7 := f2 7; clear f f2))
    | (go_at_call 24; (with_reducible refine (HK3.out _ _ _ _ _ ((JO_good _ _ _ _ _).star ((ownA_good _ _ _).star ((ownA_good _ _ _).star emp_good))) hS).mono ?_); rintro e w4 ⟨rfl, hS1⟩; replace hS := hS1; clear hS1; have f := hS.drop.drop.own.1; have f2 := hS.drop.drop.drop.own.1; have y0 := f 0; have x0 := f2 0; have y1 := f 1; have x1 := f2 1; have y2 := f 2; have x2 := f2 2; have y3 := f 3; have x3 := f2 3; have y4 := f 4; have x4 := f2 4; have y5 := f 5; have x5 := f2 5; have y6 := f 6; have x6 := f2 6; have y7 := f 7; have x7 := f2 7; clear f f2)
    | (go_at_call 22; (with_reducible refine (HR5.out _ _ _ _ _ ((JO_good _ _ _ _ _).star ((ownA_good _ _ _).star ((ownA_good _ _ _).star emp_good))) hS).mono ?_); rintro e w4 ⟨rfl, hS1⟩; replace hS := hS1; clear hS1; have f := hS.drop.drop.own.1; have f2 := hS.drop.drop.drop.own.1; have y0 := f 0; have x0 := f2 0; have y1 := f 1; have x1 := f2 1; have y2 := f 2; have x2 := f2 2; have y3 := f 3; have x3 := f2 3; have y4 := f 4; have x4 := f2 4; have y5 := f 5; have x5 := f2 5; have y6 := f 6; have x6 := f2 6; have y7 := f 7; have x7 := f2 7; clear f f2)
    | (go_at_call 16; (with_reducible refine (lnum _ _).mono ?_); rintro e w9 ⟨rfl, rfl⟩))
  refine region_held (S := fun Z8 => (∀ i, Z8.cell? ⟨w3.heap.size, i, none⟩ = (#[.int .i64 0, .int .i64 0, .int .i64 0, .int .i64 0, .int .i64 0, .int .i64 0, .int .i64 0, .int .i64 5] : Array Value)[i]?) ∧ ∀ i, Z8.cell? ⟨(w3.heap.size + 1), i, none⟩ = (#[.int .i64 8, .int .i64 0, .int .i64 0, .int .i64 0, .int .i64 0, .int .i64 0, .int .i64 0, .int .i64 0] : Array Value)[i]?) 52 [false, false, false, false, false, false, false, false, false, false, false, false, false, false, false, false, false, false, false, false, false, false, false, false, false, false, false, false, false, false, false, false, false, false, false, false, false, false, false, false, false, false, false, false, false, false, false, false, false, false, false, false] rfl rfl (by kernel_rfl) fun V0 hW => ?_
  have hX := hS.lay ((BD_good _ _ _ _ _).star ((JO_good _ _ _ _ _).star ((JO_good _ _ _ _ _).star ((ownA_good _ _ _).star ((ownA_good _ _ _).star emp_good))))) (bdrew _)
  rw [← hW] at hX
  have hC := And.intro hX.drop.drop.drop.drop.own.1 hX.drop.drop.drop.own.1
  clear hW hS
  refine held_take 0 aw0 (some 91) ?_ rfl rfl (by kernel_rfl) (by kernel_rfl) (by kernel_rfl) (fun _ _ _ h => h) (Or.inl ⟨by rfl, ?_⟩) hC ?_
  rotate_left
  · intro w0 hy0; obtain ⟨g9, g10⟩ := hy0; have y0 := g10 0; have x0 := g9 0; have y1 := g10 1; have x1 := g9 1; have y2 := g10 2; have x2 := g9 2; have y3 := g10 3; have x3 := g9 3; have y4 := g10 4; have x4 := g9 4; have y5 := g10 5; have x5 := g9 5; have y6 := g10 6; have x6 := g9 6; have y7 := g10 7; have x7 := g9 7; clear g9 g10; (go_simp <;> with_reducible rfl)
  simp only [Act.put, List.setIfInBounds_toArray, List.set_cons_zero, List.set_cons_succ]
  refine held_call 1 aw1 (some 92) (.int .i64 1) (fun Z9 => V0 = Z9) 16 #[.int .i64 1] (by kernel_rfl) rfl rfl (by rfl) (jx_Num (.tmp 91) rfl rfl) ((lnum _ _).mono fun e w' ⟨e1, e2⟩ => ⟨e1, e2⟩) (fun _ e => e ▸ hC) ?_
  rintro _ rfl
  simp only [Act.put, List.setIfInBounds_toArray, List.set_cons_zero, List.set_cons_succ]
  refine run_go [(2, aw2, (some 93)), (3, aw3, (some 94)), (4, aw4, (some 95))] (by kernel_rfl) ?_
  iterate 3 (refine run_take ?_ rfl rfl (fun _ _ _ h => h) (Or.inl ⟨by rfl, ?_⟩) hC ?_; rotate_left; (· (intro w0 hy0; obtain ⟨g9, g10⟩ := hy0; have y0 := g10 0; have x0 := g9 0; have y1 := g10 1; have x1 := g9 1; have y2 := g10 2; have x2 := g9 2; have y3 := g10 3; have x3 := g9 3; have y4 := g10 4; have x4 := g9 4; have y5 := g10 5; have x5 := g9 5; have y6 := g10 6; have x6 := g9 6; have y7 := g10 7; have x7 := g9 7; clear g9 g10; (go_simp <;> with_reducible rfl))); simp only [Act.put, List.setIfInBounds_toArray, List.set_cons_zero, List.set_cons_succ])
  refine run_end ?_
  refine held_call 5 aw5 (some 96) (.int .i64 1) (fun Z9 => V0 = Z9) 29 #[.pointer (some ⟨p1, 0, none⟩)] (by kernel_rfl) rfl rfl (by rfl) (jx_Boot (.tmp 95) rfl rfl) ((jlboot hX.drop.drop).mono fun e w' ⟨e1, e2⟩ => ⟨by rw [e1, HB3.out], e2⟩) (fun _ e => e ▸ hC) ?_
  rintro _ rfl
  simp only [Act.put, List.setIfInBounds_toArray, List.set_cons_zero, List.set_cons_succ]
  refine run_go [(6, aw6, (some 97)), (7, aw7, (some 98)), (8, aw8, (some 99)), (9, aw9, (some 100))] (by kernel_rfl) ?_
  iterate 4 (refine run_take ?_ rfl rfl (fun _ _ _ h => h) (Or.inl ⟨by rfl, ?_⟩) hC ?_; rotate_left; (· (intro w0 hy0; obtain ⟨g9, g10⟩ := hy0; have y0 := g10 0; have x0 := g9 0; have y1 := g10 1; have x1 := g9 1; have y2 := g10 2; have x2 := g9 2; have y3 := g10 3; have x3 := g9 3; have y4 := g10 4; have x4 := g9 4; have y5 := g10 5; have x5 := g9 5; have y6 := g10 6; have x6 := g9 6; have y7 := g10 7; have x7 := g9 7; clear g9 g10; (go_simp <;> with_reducible rfl))); simp only [Act.put, List.setIfInBounds_toArray, List.set_cons_zero, List.set_cons_succ])
  refine run_end ?_
  refine held_call 10 aw10 (some 101) (.int .i64 0) (fun Z9 => V0 = Z9) 16 #[.int .i64 0] (by kernel_rfl) rfl rfl (by rfl) (jx_Num (.tmp 100) rfl rfl) ((lnum _ _).mono fun e w' ⟨e1, e2⟩ => ⟨e1, e2⟩) (fun _ e => e ▸ hC) ?_
  rintro _ rfl
  simp only [Act.put, List.setIfInBounds_toArray, List.set_cons_zero, List.set_cons_succ]
  refine run_go [(11, aw11, (some 102)), (12, aw12, (some 103)), (13, aw13, (some 104)), (14, aw14, (some 105))] (by kernel_rfl) ?_
  iterate 4 (refine run_take ?_ rfl rfl (fun _ _ _ h => h) (Or.inl ⟨by rfl, ?_⟩) hC ?_; rotate_left; (· (intro w0 hy0; obtain ⟨g9, g10⟩ := hy0; have y0 := g10 0; have x0 := g9 0; have y1 := g10 1; have x1 := g9 1; have y2 := g10 2; have x2 := g9 2; have y3 := g10 3; have x3 := g9 3; have y4 := g10 4; have x4 := g9 4; have y5 := g10 5; have x5 := g9 5; have y6 := g10 6; have x6 := g9 6; have y7 := g10 7; have x7 := g9 7; clear g9 g10; (go_simp <;> with_reducible rfl))); simp only [Act.put, List.setIfInBounds_toArray, List.set_cons_zero, List.set_cons_succ])
  refine run_end ?_
  refine held_call 15 aw15 (some 106) (.int .i64 0) (fun Z9 => V0 = Z9) 16 #[.int .i64 0] (by kernel_rfl) rfl rfl (by rfl) (jx_Num (.tmp 105) rfl rfl) ((lnum _ _).mono fun e w' ⟨e1, e2⟩ => ⟨e1, e2⟩) (fun _ e => e ▸ hC) ?_
  rintro _ rfl
  simp only [Act.put, List.setIfInBounds_toArray, List.set_cons_zero, List.set_cons_succ]
  refine run_go [(16, aw16, (some 107)), (17, aw17, (some 108)), (18, aw18, (some 109)), (19, aw19, (some 110))] (by kernel_rfl) ?_
  iterate 4 (refine run_take ?_ rfl rfl (fun _ _ _ h => h) (Or.inl ⟨by rfl, ?_⟩) hC ?_; rotate_left; (· (intro w0 hy0; obtain ⟨g9, g10⟩ := hy0; have y0 := g10 0; have x0 := g9 0; have y1 := g10 1; have x1 := g9 1; have y2 := g10 2; have x2 := g9 2; have y3 := g10 3; have x3 := g9 3; have y4 := g10 4; have x4 := g9 4; have y5 := g10 5; have x5 := g9 5; have y6 := g10 6; have x6 := g9 6; have y7 := g10 7; have x7 := g9 7; clear g9 g10; (go_simp <;> with_reducible rfl))); simp only [Act.put, List.setIfInBounds_toArray, List.set_cons_zero, List.set_cons_succ])
  refine run_end ?_
  refine held_call 20 aw20 (some 111) (.int .i64 1102) (fun Z9 => V0 = Z9) 16 #[.int .i64 1102] (by kernel_rfl) rfl rfl (by rfl) (jx_Num (.tmp 110) rfl rfl) ((lnum _ _).mono fun e w' ⟨e1, e2⟩ => ⟨e1, e2⟩) (fun _ e => e ▸ hC) ?_
  rintro _ rfl
  simp only [Act.put, List.setIfInBounds_toArray, List.set_cons_zero, List.set_cons_succ]
  refine run_go [(21, aw21, (some 112)), (22, aw22, (some 113)), (23, aw23, (some 114)), (24, aw24, (some 115))] (by kernel_rfl) ?_
  iterate 4 (refine run_take ?_ rfl rfl (fun _ _ _ h => h) (Or.inl ⟨by rfl, ?_⟩) hC ?_; rotate_left; (· (intro w0 hy0; obtain ⟨g9, g10⟩ := hy0; have y0 := g10 0; have x0 := g9 0; have y1 := g10 1; have x1 := g9 1; have y2 := g10 2; have x2 := g9 2; have y3 := g10 3; have x3 := g9 3; have y4 := g10 4; have x4 := g9 4; have y5 := g10 5; have x5 := g9 5; have y6 := g10 6; have x6 := g9 6; have y7 := g10 7; have x7 := g9 7; clear g9 g10; (go_simp <;> with_reducible rfl))); simp only [Act.put, List.setIfInBounds_toArray, List.set_cons_zero, List.set_cons_succ])
  refine run_end ?_
  refine held_call 25 aw25 (some 116) (.int .i64 2) (fun Z9 => V0 = Z9) 29 #[.pointer (some ⟨p2, 0, none⟩)] (by kernel_rfl) rfl rfl (by rfl) (jx_Boot (.tmp 115) rfl rfl) ((jlboot hX.drop).mono fun e w' ⟨e1, e2⟩ => ⟨by rw [e1, HB7.out], e2⟩) (fun _ e => e ▸ hC) ?_
  rintro _ rfl
  simp only [Act.put, List.setIfInBounds_toArray, List.set_cons_zero, List.set_cons_succ]
  refine run_go [(26, aw26, (some 117)), (27, aw27, (some 118)), (28, aw28, (some 119)), (29, aw29, (some 120)), (31, aw31, (some 122)), (32, aw32, (some 123))] (by kernel_rfl) ?_
  iterate 6 (refine run_take ?_ rfl rfl (fun _ _ _ h => h) (Or.inl ⟨by rfl, ?_⟩) hC ?_; rotate_left; (· (intro w0 hy0; obtain ⟨g9, g10⟩ := hy0; have y0 := g10 0; have x0 := g9 0; have y1 := g10 1; have x1 := g9 1; have y2 := g10 2; have x2 := g9 2; have y3 := g10 3; have x3 := g9 3; have y4 := g10 4; have x4 := g9 4; have y5 := g10 5; have x5 := g9 5; have y6 := g10 6; have x6 := g9 6; have y7 := g10 7; have x7 := g9 7; clear g9 g10; (go_simp <;> with_reducible rfl))); simp only [Act.put, List.setIfInBounds_toArray, List.set_cons_zero, List.set_cons_succ])
  refine run_end ?_
  refine jtwo 30 33 (by kernel_rfl) ?_ ?_
  · have hEv7 := jlevents ((JO_good _ _ _ _ _).star ((ownA_good _ _ _).star ((ownA_good _ _ _).star emp_good))) hX (by rw [HV7.out]; decide)
    rw [HV7.out] at hEv7
    refine jop_callx 30 aw30 (some 121) 26 #[.pointer (some ⟨p2, 0, none⟩)] ?_ rfl (by rfl) (jx_Events (.tmp 120) rfl rfl) hEv7 ?_
    · rfl
    rintro e V7 ⟨ao7, ca7, rfl, hX7⟩
    have hC7 : (∀ i, World.cell? _ ⟨w3.heap.size, i, none⟩ = (#[.int .i64 0, .int .i64 0, .int .i64 0, .int .i64 0, .int .i64 0, .int .i64 0, .int .i64 0, .int .i64 5] : Array Value)[i]?) ∧ ∀ i, World.cell? _ ⟨(w3.heap.size + 1), i, none⟩ = (#[.int .i64 8, .int .i64 0, .int .i64 0, .int .i64 0, .int .i64 0, .int .i64 0, .int .i64 0, .int .i64 0] : Array Value)[i]? := ⟨hX7.drop.drop.drop.drop.drop.own.1, hX7.drop.drop.drop.drop.own.1⟩
    refine ⟨_, rfl, hC7, ?_⟩
    simp only [Act.put, List.setIfInBounds_toArray, List.set_cons_zero, List.set_cons_succ]
    have hX8 := hX7.lay1 ((rowE_good _ _ _ _ _).star ((BD_good _ _ _ _ _).star ((JO_good _ _ _ _ _).star ((JO_good _ _ _ _ _).star ((ownA_good _ _ _).star ((ownA_good _ _ _).star emp_good)))))) (.cells #[.int .i64 0, .int .i64 0, .int .i64 0, .int .i64 0, .int .i64 0, .int .i64 0, .int .i64 0, .int .i64 5, .int .i64 8, .int .i64 0, .int .i64 0, .int .i64 0, .int .i64 0, .int .i64 0, .int .i64 0, .int .i64 0] 61)
    have hC8 : (∀ i, World.cell? _ ⟨w3.heap.size, i, none⟩ = (#[.int .i64 0, .int .i64 0, .int .i64 0, .int .i64 0, .int .i64 0, .int .i64 0, .int .i64 0, .int .i64 5] : Array Value)[i]?) ∧ ∀ i, World.cell? _ ⟨(w3.heap.size + 1), i, none⟩ = (#[.int .i64 8, .int .i64 0, .int .i64 0, .int .i64 0, .int .i64 0, .int .i64 0, .int .i64 0, .int .i64 0] : Array Value)[i]? := ⟨hX8.drop.drop.drop.drop.drop.own.1, hX8.drop.drop.drop.drop.own.1⟩
    refine held_one 33 aw33 (some 124) (.slice (some ⟨V7.heap.size, 0, none⟩) 2 2) (V7.alloc (.cells #[.int .i64 0, .int .i64 0, .int .i64 0, .int .i64 0, .int .i64 0, .int .i64 0, .int .i64 0, .int .i64 5, .int .i64 8, .int .i64 0, .int .i64 0, .int .i64 0, .int .i64 0, .int .i64 0, .int .i64 0, .int .i64 0] 61)) (by kernel_rfl) rfl rfl (by rfl) (jexec_slice2 (.tmp 122) (.tmp 123) rfl ⟨0, 0, 0, 0, 0, 0, 0, 5⟩ ⟨8, 0, 0, 0, 0, 0, 0, 0⟩ rfl rfl) hC8 ?_
    simp only [Act.put, List.setIfInBounds_toArray, List.set_cons_zero, List.set_cons_succ]
    refine held_call 34 aw34 (some 125) (.bool true) (fun Z9 => Below (World.heap (V7.alloc (.cells #[.int .i64 0, .int .i64 0, .int .i64 0, .int .i64 0, .int .i64 0, .int .i64 0, .int .i64 0, .int .i64 5, .int .i64 8, .int .i64 0, .int .i64 0, .int .i64 0, .int .i64 0, .int .i64 0, .int .i64 0, .int .i64 0] 61))).size (V7.alloc (.cells #[.int .i64 0, .int .i64 0, .int .i64 0, .int .i64 0, .int .i64 0, .int .i64 0, .int .i64 0, .int .i64 5, .int .i64 8, .int .i64 0, .int .i64 0, .int .i64 0, .int .i64 0, .int .i64 0, .int .i64 0, .int .i64 0] 61)) Z9) 28 #[.slice ao7 2 ca7, .slice (some ⟨V7.heap.size, 0, none⟩) 2 2] (by kernel_rfl) rfl rfl (by rfl) (jx_SameEvents (.tmp 121) (.tmp 124) rfl rfl rfl) ((lsame_ev (esin_at (es := [⟨0, 0, 0, 0, 0, 0, 0, 5⟩, ⟨8, 0, 0, 0, 0, 0, 0, 0⟩]) hX8 (by decide)) (esin_lit (w0 := w) (F := []) [⟨0, 0, 0, 0, 0, 0, 0, 5⟩, ⟨8, 0, 0, 0, 0, 0, 0, 0⟩] (fun k hk => by cases hk) rfl (by decide))).mono fun e w' ⟨e1, e2⟩ => ⟨e1, e2⟩) (fun Z9 hb9 => (fun q => ⟨q.drop.drop.drop.drop.drop.own.1, q.drop.drop.drop.drop.own.1⟩) (hX8.lay ((rowE_good _ _ _ _ _).star ((BD_good _ _ _ _ _).star ((JO_good _ _ _ _ _).star ((JO_good _ _ _ _ _).star ((ownA_good _ _ _).star ((ownA_good _ _ _).star emp_good)))))) hb9)) ?_
    intro V9 hb9
    have hX9 := hX8.lay ((rowE_good _ _ _ _ _).star ((BD_good _ _ _ _ _).star ((JO_good _ _ _ _ _).star ((JO_good _ _ _ _ _).star ((ownA_good _ _ _).star ((ownA_good _ _ _).star emp_good)))))) hb9
    have hC9 : (∀ i, World.cell? _ ⟨w3.heap.size, i, none⟩ = (#[.int .i64 0, .int .i64 0, .int .i64 0, .int .i64 0, .int .i64 0, .int .i64 0, .int .i64 0, .int .i64 5] : Array Value)[i]?) ∧ ∀ i, World.cell? _ ⟨(w3.heap.size + 1), i, none⟩ = (#[.int .i64 8, .int .i64 0, .int .i64 0, .int .i64 0, .int .i64 0, .int .i64 0, .int .i64 0, .int .i64 0] : Array Value)[i]? := ⟨hX9.drop.drop.drop.drop.drop.own.1, hX9.drop.drop.drop.drop.own.1⟩
    simp only [Act.put, List.setIfInBounds_toArray, List.set_cons_zero, List.set_cons_succ]
    refine run_go [(35, aw35, (some 126)), (36, aw36, (some 127)), (37, aw37, (some 128))] (by kernel_rfl) ?_
    iterate 3 (refine run_take ?_ rfl rfl (fun _ _ _ h => h) (Or.inl ⟨by rfl, ?_⟩) hC9 ?_; rotate_left; (· (intro w0 hy0; obtain ⟨g9, g10⟩ := hy0; have y0 := g10 0; have x0 := g9 0; have y1 := g10 1; have x1 := g9 1; have y2 := g10 2; have x2 := g9 2; have y3 := g10 3; have x3 := g9 3; have y4 := g10 4; have x4 := g9 4; have y5 := g10 5; have x5 := g9 5; have y6 := g10 6; have x6 := g9 6; have y7 := g10 7; have x7 := g9 7; clear g9 g10; (go_simp <;> with_reducible rfl))); simp only [Act.put, List.setIfInBounds_toArray, List.set_cons_zero, List.set_cons_succ])
    refine run_end ?_
    have hRm10 := jlroom ((JO_good _ _ _ _ _).star ((ownA_good _ _ _).star ((ownA_good _ _ _).star emp_good))) hX9.drop HK7.out
    rw [HV7.out] at hRm10
    refine held_call 38 aw38 (some 129) (.int .i64 1) (fun Z9 => At w ((BD p pd 99 T7 D7).star ((JO p2 p pd 3 J7).star ((JO p1 p pd 3 J3).star ((ownA (w3.heap.size + 1) #[.int .i64 8, .int .i64 0, .int .i64 0, .int .i64 0, .int .i64 0, .int .i64 0, .int .i64 0, .int .i64 0] 61).star ((ownA w3.heap.size #[.int .i64 0, .int .i64 0, .int .i64 0, .int .i64 0, .int .i64 0, .int .i64 0, .int .i64 0, .int .i64 5] 61).star emp))))) Z9) 30 #[.pointer (some ⟨p2, 0, none⟩)] (by kernel_rfl) rfl rfl (by rfl) (jx_Room (.tmp 128) rfl rfl) hRm10 (fun Z9 q => ⟨q.drop.drop.drop.drop.own.1, q.drop.drop.drop.own.1⟩) ?_
    intro V10 hX10
    have hC10 : (∀ i, World.cell? _ ⟨w3.heap.size, i, none⟩ = (#[.int .i64 0, .int .i64 0, .int .i64 0, .int .i64 0, .int .i64 0, .int .i64 0, .int .i64 0, .int .i64 5] : Array Value)[i]?) ∧ ∀ i, World.cell? _ ⟨(w3.heap.size + 1), i, none⟩ = (#[.int .i64 8, .int .i64 0, .int .i64 0, .int .i64 0, .int .i64 0, .int .i64 0, .int .i64 0, .int .i64 0] : Array Value)[i]? := ⟨hX10.drop.drop.drop.drop.own.1, hX10.drop.drop.drop.own.1⟩
    simp only [Act.put, List.setIfInBounds_toArray, List.set_cons_zero, List.set_cons_succ]
    refine run_go [(39, aw39, (some 130)), (40, aw40, (some 131)), (41, aw41, (some 132)), (42, aw42, (some 133))] (by kernel_rfl) ?_
    iterate 4 (refine run_take ?_ rfl rfl (fun _ _ _ h => h) (Or.inl ⟨by rfl, ?_⟩) hC10 ?_; rotate_left; (· (intro w0 hy0; obtain ⟨g9, g10⟩ := hy0; have y0 := g10 0; have x0 := g9 0; have y1 := g10 1; have x1 := g9 1; have y2 := g10 2; have x2 := g9 2; have y3 := g10 3; have x3 := g9 3; have y4 := g10 4; have x4 := g9 4; have y5 := g10 5; have x5 := g9 5; have y6 := g10 6; have x6 := g9 6; have y7 := g10 7; have x7 := g9 7; clear g9 g10; (go_simp <;> with_reducible rfl))); simp only [Act.put, List.setIfInBounds_toArray, List.set_cons_zero, List.set_cons_succ])
    refine run_end ?_
    refine held_call 43 aw43 (some 134) (.int .i64 1101) (fun Z9 => V10 = Z9) 16 #[.int .i64 1101] (by kernel_rfl) rfl rfl (by rfl) (jx_Num (.tmp 133) rfl rfl) ((lnum _ _).mono fun e w' ⟨e1, e2⟩ => ⟨e1, e2⟩) (fun _ e => e ▸ hC10) ?_
    rintro _ rfl
    simp only [Act.put, List.setIfInBounds_toArray, List.set_cons_zero, List.set_cons_succ]
    refine run_go [(44, aw44, (some 135)), (45, aw45, (some 136)), (46, aw46, (some 137)), (47, aw47, (some 138))] (by kernel_rfl) ?_
    iterate 4 (refine run_take ?_ rfl rfl (fun _ _ _ h => h) (Or.inl ⟨by rfl, ?_⟩) hC10 ?_; rotate_left; (· (intro w0 hy0; obtain ⟨g9, g10⟩ := hy0; have y0 := g10 0; have x0 := g9 0; have y1 := g10 1; have x1 := g9 1; have y2 := g10 2; have x2 := g9 2; have y3 := g10 3; have x3 := g9 3; have y4 := g10 4; have x4 := g9 4; have y5 := g10 5; have x5 := g9 5; have y6 := g10 6; have x6 := g9 6; have y7 := g10 7; have x7 := g9 7; clear g9 g10; (go_simp <;> with_reducible rfl))); simp only [Act.put, List.setIfInBounds_toArray, List.set_cons_zero, List.set_cons_succ])
    refine run_end ?_
    refine held_call 48 aw48 (some 139) (.int .i64 1100) (fun Z9 => V10 = Z9) 16 #[.int .i64 1100] (by kernel_rfl) rfl rfl (by rfl) (jx_Num (.tmp 138) rfl rfl) ((lnum _ _).mono fun e w' ⟨e1, e2⟩ => ⟨e1, e2⟩) (fun _ e => e ▸ hC10) ?_
    rintro _ rfl
    simp only [Act.put, List.setIfInBounds_toArray, List.set_cons_zero, List.set_cons_succ]
    refine run_go [(49, aw49, (some 140)), (50, aw50, (some 141)), (51, aw51, (some 0))] (by kernel_rfl) ?_
    iterate 3 (refine run_take ?_ rfl rfl (fun _ _ _ h => h) (Or.inl ⟨by rfl, ?_⟩) hC10 ?_; rotate_left; (· (intro w0 hy0; obtain ⟨g9, g10⟩ := hy0; have y0 := g10 0; have x0 := g9 0; have y1 := g10 1; have x1 := g9 1; have y2 := g10 2; have x2 := g9 2; have y3 := g10 3; have x3 := g9 3; have y4 := g10 4; have x4 := g9 4; have y5 := g10 5; have x5 := g9 5; have y6 := g10 6; have x6 := g9 6; have y7 := g10 7; have x7 := g9 7; clear g9 g10; (go_simp <;> with_reducible rfl))); simp only [Act.put, List.setIfInBounds_toArray, List.set_cons_zero, List.set_cons_succ])
    refine run_end ?_
    refine wpAnyH_done (by kernel_rfl) ?_ _
    go_wp2
    go_ret
    exact ⟨rfl, hX10.bel⟩
  · have hX7 := (hX.hold ((BD_good _ _ _ _ _).star ((JO_good _ _ _ _ _).star ((JO_good _ _ _ _ _).star ((ownA_good _ _ _).star ((ownA_good _ _ _).star emp_good))))) #[.int .i64 0, .int .i64 0, .int .i64 0, .int .i64 0, .int .i64 0, .int .i64 0, .int .i64 0, .int .i64 5, .int .i64 8, .int .i64 0, .int .i64 0, .int .i64 0, .int .i64 0, .int .i64 0, .int .i64 0, .int .i64 0] 61).imp ((Ass.imp.swap _ _ _).trans ((Ass.imp.swap _ _ _).under _))
    have hC7 : (∀ i, World.cell? _ ⟨w3.heap.size, i, none⟩ = (#[.int .i64 0, .int .i64 0, .int .i64 0, .int .i64 0, .int .i64 0, .int .i64 0, .int .i64 0, .int .i64 5] : Array Value)[i]?) ∧ ∀ i, World.cell? _ ⟨(w3.heap.size + 1), i, none⟩ = (#[.int .i64 8, .int .i64 0, .int .i64 0, .int .i64 0, .int .i64 0, .int .i64 0, .int .i64 0, .int .i64 0] : Array Value)[i]? := ⟨hX7.drop.drop.drop.drop.drop.own.1, hX7.drop.drop.drop.drop.own.1⟩
    refine jop_one 33 aw33 (some 124) (.slice (some ⟨V0.heap.size, 0, none⟩) 2 2) (V0.alloc (.cells #[.int .i64 0, .int .i64 0, .int .i64 0, .int .i64 0, .int .i64 0, .int .i64 0, .int .i64 0, .int .i64 5, .int .i64 8, .int .i64 0, .int .i64 0, .int .i64 0, .int .i64 0, .int .i64 0, .int .i64 0, .int .i64 0] 61)) ?_ rfl (by rfl) (jexec_slice2 (.tmp 122) (.tmp 123) rfl ⟨0, 0, 0, 0, 0, 0, 0, 5⟩ ⟨8, 0, 0, 0, 0, 0, 0, 0⟩ rfl rfl) hC7 ?_
    · rfl
    simp only [Act.put, List.setIfInBounds_toArray, List.set_cons_zero, List.set_cons_succ]
    have hEv8 := jlevents ((ownA_good _ _ _).star ((JO_good _ _ _ _ _).star ((ownA_good _ _ _).star ((ownA_good _ _ _).star emp_good)))) hX7 (by rw [HV7.out]; decide)
    rw [HV7.out] at hEv8
    refine wpAnyH_one 30 (by kernel_rfl) ?_
    refine jop_callx 30 aw30 (some 121) 26 #[.pointer (some ⟨p2, 0, none⟩)] ?_ rfl (by rfl) (jx_Events (.tmp 120) rfl rfl) hEv8 ?_
    · rfl
    rintro e V8 ⟨ao8, ca8, rfl, hX8⟩
    have hC8 : (∀ i, World.cell? _ ⟨w3.heap.size, i, none⟩ = (#[.int .i64 0, .int .i64 0, .int .i64 0, .int .i64 0, .int .i64 0, .int .i64 0, .int .i64 0, .int .i64 5] : Array Value)[i]?) ∧ ∀ i, World.cell? _ ⟨(w3.heap.size + 1), i, none⟩ = (#[.int .i64 8, .int .i64 0, .int .i64 0, .int .i64 0, .int .i64 0, .int .i64 0, .int .i64 0, .int .i64 0] : Array Value)[i]? := ⟨hX8.drop.drop.drop.drop.drop.drop.own.1, hX8.drop.drop.drop.drop.drop.own.1⟩
    refine ⟨_, rfl, hC8, ?_⟩
    simp only [Act.put, List.setIfInBounds_toArray, List.set_cons_zero, List.set_cons_succ]
    refine held_call 34 aw34 (some 125) (.bool true) (fun Z9 => Below (World.heap V8).size V8 Z9) 28 #[.slice ao8 2 ca8, .slice (some ⟨V0.heap.size, 0, none⟩) 2 2] (by kernel_rfl) rfl rfl (by rfl) (jx_SameEvents (.tmp 121) (.tmp 124) rfl rfl rfl) ((lsame_ev (esin_at (es := [⟨0, 0, 0, 0, 0, 0, 0, 5⟩, ⟨8, 0, 0, 0, 0, 0, 0, 0⟩]) hX8 (by decide)) (esin_own (es := [⟨0, 0, 0, 0, 0, 0, 0, 5⟩, ⟨8, 0, 0, 0, 0, 0, 0, 0⟩]) hX8.drop.drop.drop)).mono fun e w' ⟨e1, e2⟩ => ⟨e1, e2⟩) (fun Z9 hb9 => (fun q => ⟨q.drop.drop.drop.drop.drop.drop.own.1, q.drop.drop.drop.drop.drop.own.1⟩) (hX8.lay ((rowE_good _ _ _ _ _).star ((BD_good _ _ _ _ _).star ((JO_good _ _ _ _ _).star ((ownA_good _ _ _).star ((JO_good _ _ _ _ _).star ((ownA_good _ _ _).star ((ownA_good _ _ _).star emp_good))))))) hb9)) ?_
    intro V9 hb9
    have hX9 := hX8.lay ((rowE_good _ _ _ _ _).star ((BD_good _ _ _ _ _).star ((JO_good _ _ _ _ _).star ((ownA_good _ _ _).star ((JO_good _ _ _ _ _).star ((ownA_good _ _ _).star ((ownA_good _ _ _).star emp_good))))))) hb9
    have hC9 : (∀ i, World.cell? _ ⟨w3.heap.size, i, none⟩ = (#[.int .i64 0, .int .i64 0, .int .i64 0, .int .i64 0, .int .i64 0, .int .i64 0, .int .i64 0, .int .i64 5] : Array Value)[i]?) ∧ ∀ i, World.cell? _ ⟨(w3.heap.size + 1), i, none⟩ = (#[.int .i64 8, .int .i64 0, .int .i64 0, .int .i64 0, .int .i64 0, .int .i64 0, .int .i64 0, .int .i64 0] : Array Value)[i]? := ⟨hX9.drop.drop.drop.drop.drop.drop.own.1, hX9.drop.drop.drop.drop.drop.own.1⟩
    simp only [Act.put, List.setIfInBounds_toArray, List.set_cons_zero, List.set_cons_succ]
    refine run_go [(35, aw35, (some 126)), (36, aw36, (some 127)), (37, aw37, (some 128))] (by kernel_rfl) ?_
    iterate 3 (refine run_take ?_ rfl rfl (fun _ _ _ h => h) (Or.inl ⟨by rfl, ?_⟩) hC9 ?_; rotate_left; (· (intro w0 hy0; obtain ⟨g9, g10⟩ := hy0; have y0 := g10 0; have x0 := g9 0; have y1 := g10 1; have x1 := g9 1; have y2 := g10 2; have x2 := g9 2; have y3 := g10 3; have x3 := g9 3; have y4 := g10 4; have x4 := g9 4; have y5 := g10 5; have x5 := g9 5; have y6 := g10 6; have x6 := g9 6; have y7 := g10 7; have x7 := g9 7; clear g9 g10; (go_simp <;> with_reducible rfl))); simp only [Act.put, List.setIfInBounds_toArray, List.set_cons_zero, List.set_cons_succ])
    refine run_end ?_
    have hRm10 := jlroom ((ownA_good _ _ _).star ((JO_good _ _ _ _ _).star ((ownA_good _ _ _).star ((ownA_good _ _ _).star emp_good)))) hX9.drop HK7.out
    rw [HV7.out] at hRm10
    refine held_call 38 aw38 (some 129) (.int .i64 1) (fun Z9 => At w ((BD p pd 99 T7 D7).star ((JO p2 p pd 3 J7).star ((ownA V0.heap.size #[.int .i64 0, .int .i64 0, .int .i64 0, .int .i64 0, .int .i64 0, .int .i64 0, .int .i64 0, .int .i64 5, .int .i64 8, .int .i64 0, .int .i64 0, .int .i64 0, .int .i64 0, .int .i64 0, .int .i64 0, .int .i64 0] 61).star ((JO p1 p pd 3 J3).star ((ownA (w3.heap.size + 1) #[.int .i64 8, .int .i64 0, .int .i64 0, .int .i64 0, .int .i64 0, .int .i64 0, .int .i64 0, .int .i64 0] 61).star ((ownA w3.heap.size #[.int .i64 0, .int .i64 0, .int .i64 0, .int .i64 0, .int .i64 0, .int .i64 0, .int .i64 0, .int .i64 5] 61).star emp)))))) Z9) 30 #[.pointer (some ⟨p2, 0, none⟩)] (by kernel_rfl) rfl rfl (by rfl) (jx_Room (.tmp 128) rfl rfl) hRm10 (fun Z9 q => ⟨q.drop.drop.drop.drop.drop.own.1, q.drop.drop.drop.drop.own.1⟩) ?_
    intro V10 hX10
    have hC10 : (∀ i, World.cell? _ ⟨w3.heap.size, i, none⟩ = (#[.int .i64 0, .int .i64 0, .int .i64 0, .int .i64 0, .int .i64 0, .int .i64 0, .int .i64 0, .int .i64 5] : Array Value)[i]?) ∧ ∀ i, World.cell? _ ⟨(w3.heap.size + 1), i, none⟩ = (#[.int .i64 8, .int .i64 0, .int .i64 0, .int .i64 0, .int .i64 0, .int .i64 0, .int .i64 0, .int .i64 0] : Array Value)[i]? := ⟨hX10.drop.drop.drop.drop.drop.own.1, hX10.drop.drop.drop.drop.own.1⟩
    simp only [Act.put, List.setIfInBounds_toArray, List.set_cons_zero, List.set_cons_succ]
    refine run_go [(39, aw39, (some 130)), (40, aw40, (some 131)), (41, aw41, (some 132)), (42, aw42, (some 133))] (by kernel_rfl) ?_
    iterate 4 (refine run_take ?_ rfl rfl (fun _ _ _ h => h) (Or.inl ⟨by rfl, ?_⟩) hC10 ?_; rotate_left; (· (intro w0 hy0; obtain ⟨g9, g10⟩ := hy0; have y0 := g10 0; have x0 := g9 0; have y1 := g10 1; have x1 := g9 1; have y2 := g10 2; have x2 := g9 2; have y3 := g10 3; have x3 := g9 3; have y4 := g10 4; have x4 := g9 4; have y5 := g10 5; have x5 := g9 5; have y6 := g10 6; have x6 := g9 6; have y7 := g10 7; have x7 := g9 7; clear g9 g10; (go_simp <;> with_reducible rfl))); simp only [Act.put, List.setIfInBounds_toArray, List.set_cons_zero, List.set_cons_succ])
    refine run_end ?_
    refine held_call 43 aw43 (some 134) (.int .i64 1101) (fun Z9 => V10 = Z9) 16 #[.int .i64 1101] (by kernel_rfl) rfl rfl (by rfl) (jx_Num (.tmp 133) rfl rfl) ((lnum _ _).mono fun e w' ⟨e1, e2⟩ => ⟨e1, e2⟩) (fun _ e => e ▸ hC10) ?_
    rintro _ rfl
    simp only [Act.put, List.setIfInBounds_toArray, List.set_cons_zero, List.set_cons_succ]
    refine run_go [(44, aw44, (some 135)), (45, aw45, (some 136)), (46, aw46, (some 137)), (47, aw47, (some 138))] (by kernel_rfl) ?_
    iterate 4 (refine run_take ?_ rfl rfl (fun _ _ _ h => h) (Or.inl ⟨by rfl, ?_⟩) hC10 ?_; rotate_left; (· (intro w0 hy0; obtain ⟨g9, g10⟩ := hy0; have y0 := g10 0; have x0 := g9 0; have y1 := g10 1; have x1 := g9 1; have y2 := g10 2; have x2 := g9 2; have y3 := g10 3; have x3 := g9 3; have y4 := g10 4; have x4 := g9 4; have y5 := g10 5; have x5 := g9 5; have y6 := g10 6; have x6 := g9 6; have y7 := g10 7; have x7 := g9 7; clear g9 g10; (go_simp <;> with_reducible rfl))); simp only [Act.put, List.setIfInBounds_toArray, List.set_cons_zero, List.set_cons_succ])
    refine run_end ?_
    refine held_call 48 aw48 (some 139) (.int .i64 1100) (fun Z9 => V10 = Z9) 16 #[.int .i64 1100] (by kernel_rfl) rfl rfl (by rfl) (jx_Num (.tmp 138) rfl rfl) ((lnum _ _).mono fun e w' ⟨e1, e2⟩ => ⟨e1, e2⟩) (fun _ e => e ▸ hC10) ?_
    rintro _ rfl
    simp only [Act.put, List.setIfInBounds_toArray, List.set_cons_zero, List.set_cons_succ]
    refine run_go [(49, aw49, (some 140)), (50, aw50, (some 141)), (51, aw51, (some 0))] (by kernel_rfl) ?_
    iterate 3 (refine run_take ?_ rfl rfl (fun _ _ _ h => h) (Or.inl ⟨by rfl, ?_⟩) hC10 ?_; rotate_left; (· (intro w0 hy0; obtain ⟨g9, g10⟩ := hy0; have y0 := g10 0; have x0 := g9 0; have y1 := g10 1; have x1 := g9 1; have y2 := g10 2; have x2 := g9 2; have y3 := g10 3; have x3 := g9 3; have y4 := g10 4; have x4 := g9 4; have y5 := g10 5; have x5 := g9 5; have y6 := g10 6; have x6 := g9 6; have y7 := g10 7; have x7 := g9 7; clear g9 g10; (go_simp <;> with_reducible rfl))); simp only [Act.put, List.setIfInBounds_toArray, List.set_cons_zero, List.set_cons_succ])
    refine run_end ?_
    refine wpAnyH_done (by kernel_rfl) ?_ _
    go_wp2
    go_ret
    exact ⟨rfl, hX10.bel⟩
open Go Go.RowKit
theorem apD_no {most : Int} {ts : List ByteArray} {J : Jn} {d : Dk} {es : List Ev} (h : jpE most ts J d es ≠ 0) : apD most ts J d es = d := by unfold apD; rw [if_neg h]
theorem apJ_no {most : Int} {ts : List ByteArray} {J : Jn} {d : Dk} {es : List Ev} (h : jpE most ts J d es ≠ 0) : apJ most ts J d es = J := by unfold apJ; rw [if_neg h]
theorem jlapp_no {w0 w : World} {C : Ass} {p pb pd : Nat} {most : Int} {ts : List ByteArray} {d : Dk} {m : Int} {J : Jn} (hC : C.Good) (h : At w0 ((BD pb pd most ts d).star ((JO p pb pd m J).star C)) w) (hb : JOk ts d m J) (es : List Ev) (hn : es.length ≤ 1000) {w1 : World} (hw : w1 = w.alloc (.cells (ecells es).toArray TE)) {N : Int} (hN : jpE most ts J d es = N) (hN0 : N ≠ 0) (hT : jpT most ts J d es = ts) :
    Calls Tryz.prog 15 #[.pointer (some ⟨p, 0, none⟩), .slice (some ⟨w.heap.size, 0, none⟩) es.length es.length] w1 fun e w' => e = .returned (.int .i64 N) ∧ At w0 ((BD pb pd most ts d).star ((JO p pb pd m J).star C)) w' := by
  subst hN
  have := jlapp hC h hb es hn hw
  rw [hT, apD_no hN0, apJ_no hN0] at this
  exact this
theorem awake11 (w : World) (hg : Gd w) : Calls Tryz.prog 12 #[] w fun e w' => e = .returned (.bool true) ∧ Below w.heap.size w w' := by
  refine awake11_of awT1 awT2 awT3 awT7 awD1 awD2 awD3 awD5 awD6 awD7 awJ1 awJ2 awJ3 awJ7 ?_ ?_ ?_ ?_ ?_ ?_ ?_ ?_ ?_ aw_b aw_b7 aw_a7 (jok_of aw_o7) w hg
  · intro C w0 w pb pd hC hg h
    exact jlopen (d := awD0) hC hg h (jok_of aw_o0).ok (by decide) (by decide) aw_e1
  · intro C w0 w pb pd p b hb hC h
    subst hb
    exact (jlapp hC h (jok_of aw_o1) [awE1] (by decide) rfl).mono fun e w' ⟨a, b⟩ => ⟨a.trans (by rw [aw_e2]), b⟩
  · intro C w0 w pb pd p b hb hC h
    subst hb
    exact (jlwrt hC h (jok_of aw_o2) [awE2, awE2] (by decide) rfl).mono fun e w' ⟨a, b⟩ => ⟨a.trans (by rw [aw_e3]), b⟩
  · intro C w0 w pb pd p b hb hC h
    subst hb
    exact jlapp_no hC h (jok_of aw_o3) [awE1] (by decide) rfl aw_e4 (by decide) aw_t4
  · intro C w0 w pb pd hC h
    exact (jldisk hC (kpcrash pd awD3 1 5 (by decide) (by decide)) h).mono fun e w' ⟨a, b⟩ => ⟨a.trans (by rw [aw_k3]), b⟩
  · intro C w0 w pb pd hC h
    exact (jldisk hC (kprestart pd awD5) h).mono fun e w' ⟨a, b⟩ => ⟨a.trans (by rw [aw_k5]), b⟩
  · intro C w0 w pb pd hC hg h
    have := jlopen hC hg h (jok_of aw_o6).ok (Nat.le_trans (Nat.le_add_right _ 1000) (jok_of aw_o6).tl) (Nat.le_trans (Nat.le_add_right _ 1000) (jok_of aw_o6).wl) aw_e7
    rw [aw_l6] at this
    exact this
  · intro C w0 w pb pd p b hb hC h
    subst hb
    exact jlapp_no hC h (jok_of aw_o7) [awE2, awE2] (by decide) rfl aw_e8 (by decide) aw_t8
  · intro C w0 w pb pd p b hb hC h
    subst hb
    exact jlapp_no hC h (jok_of aw_o7) [awE3] (by decide) rfl aw_e9 (by decide) aw_t9
end Go.Proofs.YtbfpfmidjdonjaaGreatDoor
