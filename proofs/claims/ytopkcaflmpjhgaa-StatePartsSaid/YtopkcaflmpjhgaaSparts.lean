/- StateParts: the state of events is that of their beginning, and the rest behind. Conditions: the rows' sizes. -/
import Derived.Test.YtopkcaflmpjhgaaBtw
import Derived.Test.YtopkcaflmpjhgaaBsn
namespace Go.Proofs.Ytopkcaflmpjhgaa
open Go Go.RowKit

abbrev spa0 : Oper := { dst := some 32, op := Op.load 23 (Operand.tmp 3), type := 23, pos := "law.go:65", after := #[], guard := none }
abbrev spa1 : Oper := { dst := some 33, op := Op.move (Operand.tmp 1), type := 24, pos := "law.go:65", after := #[], guard := none }
abbrev spa2 : Oper := { dst := some 34, op := Op.move (Operand.tmp 7), type := 3, pos := "law.go:65", after := #[], guard := none }
abbrev spa3 : Oper := { dst := some 35, op := Op.slice 24 (Operand.tmp 33) none (some (Operand.tmp 34)) none, type := 24, pos := "law.go:65", after := #[{ on := 1, ground := Ground.data }, { on := 2, ground := Ground.data }], guard := none }
abbrev spa4 : Oper := { dst := some 36, op := Op.call { callee := Callee.value (Operand.func 10), args := #[Operand.tmp 32, Operand.tmp 35], argTypes := #[23, 24] }, type := 34, pos := "law.go:65", after := #[{ on := 0, ground := Ground.data }, { on := 3, ground := Ground.data }], guard := none }
abbrev spa5 : Oper := { dst := some 31, op := Op.move (Operand.tmp 36), type := 34, pos := "law.go:65", after := #[{ on := 4, ground := Ground.data }], guard := none }
abbrev spa6 : Oper := { dst := some 37, op := Op.extract (Operand.tmp 31) 0, type := 32, pos := "law.go:65", after := #[{ on := 5, ground := Ground.data }], guard := none }
abbrev spa7 : Oper := { dst := some 38, op := Op.extract (Operand.tmp 31) 1, type := 33, pos := "law.go:65", after := #[{ on := 5, ground := Ground.data }, { on := 9, ground := Ground.gcOnly Departure.lateStores }], guard := none }
abbrev spa8 : Oper := { dst := some 10, op := Op.alloc 32, type := 0, pos := "law.go:65", after := #[], guard := none }
abbrev spa9 : Oper := { dst := none, op := Op.store 32 (Operand.tmp 10) (Operand.tmp 37), type := 0, pos := "law.go:65", after := #[{ on := 8, ground := Ground.data }, { on := 6, ground := Ground.data }, { on := 4, ground := Ground.chain }, { on := 0, ground := Ground.phase }, { on := 1, ground := Ground.phase }, { on := 2, ground := Ground.phase }, { on := 3, ground := Ground.phase }, { on := 4, ground := Ground.phase }, { on := 5, ground := Ground.phase }, { on := 6, ground := Ground.phase }, { on := 7, ground := Ground.textOnly Departure.lateStores }, { on := 8, ground := Ground.phase }], guard := none }
abbrev spa10 : Oper := { dst := some 11, op := Op.assign (Operand.tmp 38), type := 33, pos := "law.go:65", after := #[{ on := 7, ground := Ground.data }, { on := 9, ground := Ground.chain }, { on := 0, ground := Ground.phase }, { on := 1, ground := Ground.phase }, { on := 2, ground := Ground.phase }, { on := 3, ground := Ground.phase }, { on := 4, ground := Ground.phase }, { on := 5, ground := Ground.phase }, { on := 6, ground := Ground.phase }, { on := 7, ground := Ground.phase }, { on := 8, ground := Ground.phase }, { on := 9, ground := Ground.phase }], guard := none }
abbrev spb0 : Oper := { dst := some 60, op := Op.load 23 (Operand.tmp 3), type := 23, pos := "law.go:70", after := #[], guard := none }
abbrev spb1 : Oper := { dst := some 61, op := Op.load 32 (Operand.tmp 10), type := 32, pos := "law.go:70", after := #[], guard := none }
abbrev spb2 : Oper := { dst := some 62, op := Op.move (Operand.tmp 1), type := 24, pos := "law.go:70", after := #[], guard := none }
abbrev spb3 : Oper := { dst := some 63, op := Op.move (Operand.tmp 12), type := 3, pos := "law.go:70", after := #[], guard := none }
abbrev spb4 : Oper := { dst := some 64, op := Op.indexAddr 24 (Operand.tmp 62) (Operand.tmp 63), type := 0, pos := "law.go:70", after := #[{ on := 2, ground := Ground.data }, { on := 3, ground := Ground.data }], guard := none }
abbrev spb5 : Oper := { dst := some 65, op := Op.load 40 (Operand.tmp 64), type := 40, pos := "law.go:70", after := #[{ on := 4, ground := Ground.data }], guard := none }
abbrev spb6 : Oper := { dst := some 66, op := Op.call { callee := Callee.value (Operand.func 13), args := #[Operand.tmp 60, Operand.tmp 61, Operand.tmp 65], argTypes := #[23, 32, 40] }, type := 34, pos := "law.go:70", after := #[{ on := 0, ground := Ground.data }, { on := 1, ground := Ground.data }, { on := 5, ground := Ground.data }], guard := none }
abbrev spb7 : Oper := { dst := some 59, op := Op.move (Operand.tmp 66), type := 34, pos := "law.go:70", after := #[{ on := 6, ground := Ground.data }], guard := none }
abbrev spb8 : Oper := { dst := some 67, op := Op.extract (Operand.tmp 59) 0, type := 32, pos := "law.go:70", after := #[{ on := 7, ground := Ground.data }], guard := none }
abbrev spb9 : Oper := { dst := some 68, op := Op.extract (Operand.tmp 59) 1, type := 33, pos := "law.go:70", after := #[{ on := 7, ground := Ground.data }, { on := 11, ground := Ground.gcOnly Departure.lateStores }], guard := none }
abbrev spb10 : Oper := { dst := some 13, op := Op.alloc 32, type := 0, pos := "law.go:70", after := #[], guard := none }
abbrev spb11 : Oper := { dst := none, op := Op.store 32 (Operand.tmp 13) (Operand.tmp 67), type := 0, pos := "law.go:70", after := #[{ on := 10, ground := Ground.data }, { on := 8, ground := Ground.data }, { on := 6, ground := Ground.chain }, { on := 0, ground := Ground.phase }, { on := 1, ground := Ground.phase }, { on := 2, ground := Ground.phase }, { on := 3, ground := Ground.phase }, { on := 4, ground := Ground.phase }, { on := 5, ground := Ground.phase }, { on := 6, ground := Ground.phase }, { on := 7, ground := Ground.phase }, { on := 8, ground := Ground.phase }, { on := 9, ground := Ground.textOnly Departure.lateStores }, { on := 10, ground := Ground.phase }], guard := none }
abbrev spb12 : Oper := { dst := some 14, op := Op.assign (Operand.tmp 68), type := 33, pos := "law.go:70", after := #[{ on := 9, ground := Ground.data }, { on := 11, ground := Ground.chain }, { on := 0, ground := Ground.phase }, { on := 1, ground := Ground.phase }, { on := 2, ground := Ground.phase }, { on := 3, ground := Ground.phase }, { on := 4, ground := Ground.phase }, { on := 5, ground := Ground.phase }, { on := 6, ground := Ground.phase }, { on := 7, ground := Ground.phase }, { on := 8, ground := Ground.phase }, { on := 9, ground := Ground.phase }, { on := 10, ground := Ground.phase }, { on := 11, ground := Ground.phase }], guard := none }
theorem cut_nat (cut : Int) (n : Nat) : ∃ k : Nat, (IntKind.u64.wrap cut).tmod ((n : Int) + 1) = (k : Int) ∧ k ≤ n := by
  have h0 : 0 ≤ IntKind.u64.wrap cut := by rw [IntKind.wrap_u64]; omega
  have h1 := Int.tmod_nonneg ((n : Int) + 1) h0
  have h2 := Int.tmod_lt_of_pos (IntKind.u64.wrap cut) (show (0 : Int) < (n : Int) + 1 by omega)
  exact ⟨((IntKind.u64.wrap cut).tmod ((n : Int) + 1)).toNat, by omega, by omega⟩
/-- A row's beginning. -/
theorem ev_pre {w : World} {ao : Option Addr} {n k : Nat} {es : List Ev} (h : EvIn [] w ao n es) (hk : k ≤ n) : EvIn [] w ao k (es.take k) := by
  obtain ⟨h1, h2, h3⟩ := h
  refine ⟨by rw [List.length_take]; omega, ?_, by omega⟩
  rcases h2 with c | ⟨b, off, e1, e2, e3, e4⟩
  · exact .inl (by omega)
  · exact .inr ⟨b, off, e1, evAt_take e2 k, e3, e4⟩
theorem st_merge {Φ : Nat → Sv → World → Prop} {G : Prop} {K : Nat → Sv → World → Prop} (h1 : (∀ p h V, Φ p h V → K p h V) → G) (h2 : ∀ p h V, Φ p h V → K p h V) : G := h1 h2
theorem stp_next {w W : World} {c : Cf} {hs ht hu : Sv} {S T U : St} {b1 b2 p : Nat} (q : At w (OB [(w.heap.size, cfC c, TCf), (b1, stC hs S, TSt), (b2, stC ht T, TSt), (p, stC hu U, TSt)] (STS [(hu, U), (ht, T), (hs, S)] emp)) W) :
    At w (OB [(w.heap.size, cfC c, TCf), (b1, stC hs S, TSt), (b2, stC hu U, TSt)] (STS [(hu, U), (hs, S)] emp)) (((((((W.setCell ⟨b2, 0, none⟩ (.int .i64 U.b)).setCell ⟨b2, 1, none⟩ (.int .i64 U.e)).setCell ⟨b2, 2, none⟩ (.int .i64 U.n)).setCell ⟨b2, 3, none⟩ (.slice hu.u U.us.length hu.uc)).setCell ⟨b2, 4, none⟩ (.slice hu.s U.ss.length hu.sc)).setCell ⟨b2, 5, none⟩ (.slice hu.p U.ad.length hu.pc)).setCell ⟨b2, 6, none⟩ (.slice hu.i U.sp.length hu.ic)) := by
  have h1 := OB.put7 (STS.good emp_good) q (i := 2) rfl (.int .i64 U.b) (.int .i64 U.e) (.int .i64 U.n) (.slice hu.u U.us.length hu.uc) (.slice hu.s U.ss.length hu.sc) (.slice hu.p U.ad.length hu.pc) (.slice hu.i U.sp.length hu.ic)
  exact STS.drop 1 rfl (OB.drop 3 rfl h1)
set_option maxRecDepth 100000 in
set_option maxHeartbeats 16000000 in
theorem stparts (P : StatesOk) {w : World} {ao : Option Addr} {n cap : Nat} {es : List Ev} (c : Cf) (hes : EvIn [] w ao n es) (hn : n ≤ 2199023255552) (hcap : n ≤ cap) (cut : Int) :
    Calls Try.prog 3 #[.agg (cfC c), .slice ao n cap, .int .i64 cut] w fun e w' => e = .returned (.bool true) ∧ Below w.heap.size w w' := by
  obtain ⟨k, hk, hkn⟩ := cut_nat cut n
  have hw1 : IntKind.u64.wrap ((n : Int) + 1) = (n : Int) + 1 := by rw [IntKind.wrap_u64]; omega
  have hw2 : IntKind.i64.wrap ((n : Int) + 1) = (n : Int) + 1 := by rw [IntKind.wrap_i64]; omega
  have hw3 : IntKind.i64.wrap (k : Int) = (k : Int) := by rw [IntKind.wrap_i64]; omega
  have hkc : k ≤ cap := by omega
  have q0 : At w (OB [(w.heap.size, cfC c, TCf)] (STS [] emp)) (w.alloc (.cells (cfC c) TCf)) := OB.hold emp_good (OB.start (Below.refl w.heap.size w)) (cfC c) TCf rfl
  have HES := Lib.hid hes
  have HEL := Lib.hid (fun k (hk : k < n) => hes.elem8 (k := k) hk)
  obtain ⟨S, hS⟩ : ∃ S, saS c es = S := ⟨_, rfl⟩
  obtain ⟨e, he⟩ : ∃ e, saE c es = e := ⟨_, rfl⟩
  obtain ⟨f, hf⟩ : ∃ f, saE c (es.take k) = f := ⟨_, rfl⟩
  have HS := Lib.hid (And.intro hS he)
  have HF := Lib.hid hf
  have HSM := Lib.hid (show S.sm 1 by rw [← hS]; exact saS_sm (by rw [← hes.len]; omega))
  have HT0 := Lib.hid (show (saS c (es.take k)).sm 1 from saS_sm (by rw [List.length_take]; omega))
  clear hS he hes hf
  go_enter Try.func3, Try.ntmps3
  go_wp2_with (first
    | (go_at_call 9; (with_reducible refine (awake20 P _).mono ?_); rintro r w1 ⟨rfl, hb⟩; have q1 := OB.lay (STS.good emp_good) q0 hb; have hes1 := ev_on HES.out q1.bel; have c1 := (OB.at q1 (i := 0) rfl).cell; clear hb)
    | (go_at_call 10; (with_reducible refine (P.oall (n := n) (ao := ao) emp_good q1 hes1 hn HS.out.1 HS.out.2).mono ?_); rintro r w2 ⟨hs, rfl, qa⟩; have q2 : At w (OB [(w.heap.size, cfC c, TCf), (w2.heap.size, stC hs S, TSt)] (STS [(hs, S)] emp)) (w2.alloc (.cells (stC hs S) TSt)) := OB.hold (STS.good emp_good) qa (stC hs S) TSt rfl; clear qa))
  clear hes1 c1 q1 q0 hk hw1 hw2
  generalize w2.alloc (.cells (stC hs S) TSt) = w2' at *
  generalize w2.heap.size = b1 at *
  refine st_merge (Φ := fun (b2 : Nat) (ht0 : Sv) Z => At w (OB [(w.heap.size, cfC c, TCf), (b1, stC hs S, TSt), (b2, stC ht0 (saS c (es.take k)), TSt)] (STS [(ht0, (saS c (es.take k))), (hs, S)] emp)) Z) (K := ?K3) ?h1 ?h2
  case h1 =>
    intro hK
    refine region_held (S := fun Z => Blk Z w.heap.size (cfC c)) 11 [false, false, false, false, false, false, false, false, false, false, false] rfl rfl (by kernel_rfl) fun Y hW => ?_
    have q3 := OB.lay (STS.good emp_good) q2 (us_drew w2')
    rw [← hW] at q3
    have hSq3 := OB.at q3 (i := 0) rfl
    clear hW
    refine run_go [(0, spa0, (some 32)), (1, spa1, (some 33)), (2, spa2, (some 34)), (3, spa3, (some 35))] (by kernel_rfl) ?_
    iterate 4 (refine run_take ?_ rfl rfl (fun _ _ _ h => h) (Or.inl ⟨by rfl, ?_⟩) hSq3 ?_; rotate_left; (· (intro w0' hy0; have k0 := hy0.cell; (go_simp <;> with_reducible rfl))); simp only [Act.put, List.setIfInBounds_toArray, List.set_cons_zero, List.set_cons_succ])
    refine run_end ?_
    refine jtwo 4 8 (by kernel_rfl) ?_ ?_
    · refine jop_callv 4 spa4 (some 36) (fun v Z => ∃ ht0 : Sv, v = .tuple #[.agg (stC ht0 (saS c (es.take k))), .int .i64 f] ∧ At w (OB [(w.heap.size, cfC c, TCf), (b1, stC hs S, TSt)] (STS [(ht0, (saS c (es.take k))), (hs, S)] emp)) Z) 10 #[.agg (cfC c), .slice ao k cap] rfl rfl (by rfl) (by go_simp <;> with_reducible rfl) ((P.oall (n := k) (es := es.take k) emp_good q3 (ev_on (ev_pre HES.out hkn) q3.bel) (by omega) rfl HF.out).mono fun _ _ ⟨ht0, e1, z⟩ => ⟨_, e1, ht0, rfl, z⟩) (fun v Z ⟨ht0, _, z⟩ => OB.at z (i := 0) rfl) ?_
      rintro v V4 ⟨ht0, rfl, q4⟩
      simp only [Act.put, List.setIfInBounds_toArray, List.set_cons_zero, List.set_cons_succ]
      have hSq4 := OB.at q4 (i := 0) rfl
      refine run_go [(5, spa5, (some 31)), (6, spa6, (some 37)), (7, spa7, (some 38))] (by kernel_rfl) ?_
      iterate 3 (refine run_take ?_ rfl rfl (fun _ _ _ h => h) (Or.inl ⟨by rfl, ?_⟩) hSq4 ?_; rotate_left; (· (intro w0' hy0; have k0 := hy0.cell; (go_simp <;> with_reducible rfl))); simp only [Act.put, List.setIfInBounds_toArray, List.set_cons_zero, List.set_cons_succ])
      refine run_end ?_
      have q5 := OB.hold (STS.good emp_good) q4 stZ TSt rfl
      refine held_one 8 spa8 (some 10) (.pointer (some ⟨V4.heap.size, 0, none⟩)) (V4.alloc (.cells stZ TSt)) (by kernel_rfl) rfl rfl (by rfl) (by go_simp <;> with_reducible rfl) (OB.at q5 (i := 0) rfl) ?_
      simp only [Act.put, List.setIfInBounds_toArray, List.set_cons_zero, List.set_cons_succ]
      generalize V4.alloc (.cells stZ TSt) = V5 at *
      generalize V4.heap.size = b2 at *
      have kp := OB.at q5 (i := 2) rfl
      have ep := kp.cell
      have gp := kp.froz
      obtain ⟨V6, hZ, q6⟩ : ∃ Z, (((((((V5.setCell ⟨b2, 0, none⟩ (.int .i64 (saS c (es.take k)).b)).setCell ⟨b2, 1, none⟩ (.int .i64 (saS c (es.take k)).e)).setCell ⟨b2, 2, none⟩ (.int .i64 (saS c (es.take k)).n)).setCell ⟨b2, 3, none⟩ (.slice ht0.u (saS c (es.take k)).us.length ht0.uc)).setCell ⟨b2, 4, none⟩ (.slice ht0.s (saS c (es.take k)).ss.length ht0.sc)).setCell ⟨b2, 5, none⟩ (.slice ht0.p (saS c (es.take k)).ad.length ht0.pc)).setCell ⟨b2, 6, none⟩ (.slice ht0.i (saS c (es.take k)).sp.length ht0.ic)) = Z ∧ At w (OB [(w.heap.size, cfC c, TCf), (b1, stC hs S, TSt), (b2, stC ht0 (saS c (es.take k)), TSt)] (STS [(ht0, (saS c (es.take k))), (hs, S)] emp)) Z := ⟨_, rfl, OB.put7 (STS.good emp_good) q5 (i := 2) rfl (.int .i64 (saS c (es.take k)).b) (.int .i64 (saS c (es.take k)).e) (.int .i64 (saS c (es.take k)).n) (.slice ht0.u (saS c (es.take k)).us.length ht0.uc) (.slice ht0.s (saS c (es.take k)).ss.length ht0.sc) (.slice ht0.p (saS c (es.take k)).ad.length ht0.pc) (.slice ht0.i (saS c (es.take k)).sp.length ht0.ic)⟩
      refine held_void 9 spa9 V6 (by kernel_rfl) rfl (by rfl) (by go_simp <;> with_reducible rfl) (OB.at q6 (i := 0) rfl) ?_
      simp only [Act.put, List.setIfInBounds_toArray, List.set_cons_zero, List.set_cons_succ]
      clear ep gp kp hZ
      refine run_go [(10, spa10, (some 11))] (by kernel_rfl) ?_
      iterate 1 (refine run_take ?_ rfl rfl (fun _ _ _ h => h) (Or.inl ⟨by rfl, ?_⟩) (OB.at q6 (i := 0) rfl) ?_; rotate_left; (· (intro w0' hy0; have k0 := hy0.cell; (go_simp <;> with_reducible rfl))); simp only [Act.put, List.setIfInBounds_toArray, List.set_cons_zero, List.set_cons_succ])
      refine run_end ?_
      refine wpAnyH_done (by kernel_rfl) ?_ _
      exact hK b2 ht0 V6 q6
    · have q4 := OB.hold (STS.good emp_good) q3 stZ TSt rfl
      refine jop_one 8 spa8 (some 10) (.pointer (some ⟨Y.heap.size, 0, none⟩)) (Y.alloc (.cells stZ TSt)) rfl rfl (by rfl) (by go_simp <;> with_reducible rfl) (OB.at q4 (i := 0) rfl) ?_
      simp only [Act.put, List.setIfInBounds_toArray, List.set_cons_zero, List.set_cons_succ]
      generalize Y.alloc (.cells stZ TSt) = V4 at *
      generalize Y.heap.size = b2 at *
      refine held_callv 4 spa4 (some 36) (fun v Z => ∃ ht0 : Sv, v = .tuple #[.agg (stC ht0 (saS c (es.take k))), .int .i64 f] ∧ At w (OB [(w.heap.size, cfC c, TCf), (b1, stC hs S, TSt), (b2, stZ, TSt)] (STS [(ht0, (saS c (es.take k))), (hs, S)] emp)) Z) 10 #[.agg (cfC c), .slice ao k cap] (by kernel_rfl) rfl rfl (by rfl) (by go_simp <;> with_reducible rfl) ((P.oall (n := k) (es := es.take k) emp_good q4 (ev_on (ev_pre HES.out hkn) q4.bel) (by omega) rfl HF.out).mono fun _ _ ⟨ht0, e1, z⟩ => ⟨_, e1, ht0, rfl, z⟩) (fun v Z ⟨ht0, _, z⟩ => OB.at z (i := 0) rfl) ?_
      rintro v V5 ⟨ht0, rfl, q5⟩
      simp only [Act.put, List.setIfInBounds_toArray, List.set_cons_zero, List.set_cons_succ]
      have hSq5 := OB.at q5 (i := 0) rfl
      refine run_go [(5, spa5, (some 31)), (6, spa6, (some 37)), (7, spa7, (some 38))] (by kernel_rfl) ?_
      iterate 3 (refine run_take ?_ rfl rfl (fun _ _ _ h => h) (Or.inl ⟨by rfl, ?_⟩) hSq5 ?_; rotate_left; (· (intro w0' hy0; have k0 := hy0.cell; (go_simp <;> with_reducible rfl))); simp only [Act.put, List.setIfInBounds_toArray, List.set_cons_zero, List.set_cons_succ])
      refine run_end ?_
      have kp := OB.at q5 (i := 2) rfl
      have ep := kp.cell
      have gp := kp.froz
      obtain ⟨V6, hZ, q6⟩ : ∃ Z, (((((((V5.setCell ⟨b2, 0, none⟩ (.int .i64 (saS c (es.take k)).b)).setCell ⟨b2, 1, none⟩ (.int .i64 (saS c (es.take k)).e)).setCell ⟨b2, 2, none⟩ (.int .i64 (saS c (es.take k)).n)).setCell ⟨b2, 3, none⟩ (.slice ht0.u (saS c (es.take k)).us.length ht0.uc)).setCell ⟨b2, 4, none⟩ (.slice ht0.s (saS c (es.take k)).ss.length ht0.sc)).setCell ⟨b2, 5, none⟩ (.slice ht0.p (saS c (es.take k)).ad.length ht0.pc)).setCell ⟨b2, 6, none⟩ (.slice ht0.i (saS c (es.take k)).sp.length ht0.ic)) = Z ∧ At w (OB [(w.heap.size, cfC c, TCf), (b1, stC hs S, TSt), (b2, stC ht0 (saS c (es.take k)), TSt)] (STS [(ht0, (saS c (es.take k))), (hs, S)] emp)) Z := ⟨_, rfl, OB.put7 (STS.good emp_good) q5 (i := 2) rfl (.int .i64 (saS c (es.take k)).b) (.int .i64 (saS c (es.take k)).e) (.int .i64 (saS c (es.take k)).n) (.slice ht0.u (saS c (es.take k)).us.length ht0.uc) (.slice ht0.s (saS c (es.take k)).ss.length ht0.sc) (.slice ht0.p (saS c (es.take k)).ad.length ht0.pc) (.slice ht0.i (saS c (es.take k)).sp.length ht0.ic)⟩
      refine held_void 9 spa9 V6 (by kernel_rfl) rfl (by rfl) (by go_simp <;> with_reducible rfl) (OB.at q6 (i := 0) rfl) ?_
      simp only [Act.put, List.setIfInBounds_toArray, List.set_cons_zero, List.set_cons_succ]
      clear ep gp kp hZ
      refine run_go [(10, spa10, (some 11))] (by kernel_rfl) ?_
      iterate 1 (refine run_take ?_ rfl rfl (fun _ _ _ h => h) (Or.inl ⟨by rfl, ?_⟩) (OB.at q6 (i := 0) rfl) ?_; rotate_left; (· (intro w0' hy0; have k0 := hy0.cell; (go_simp <;> with_reducible rfl))); simp only [Act.put, List.setIfInBounds_toArray, List.set_cons_zero, List.set_cons_succ])
      refine run_end ?_
      refine wpAnyH_done (by kernel_rfl) ?_ _
      exact hK b2 ht0 V6 q6
  case h2 =>
    intro b2 ht0 Z q
    clear q2
    have ks := OB.at q (i := 1) rfl
    have es1 := ks.cell
    have kt := OB.at q (i := 2) rfl
    have et1 := kt.cell
    clear ks kt
    by_cases hf0 : f = 0
    · subst hf0
      have HQ := Lib.hid q
      have HZ := Lib.hid HF.out
      clear q es1 et1
      go_wp2_with (go_at_call 11; (with_reducible refine (lnum _ _).mono ?_); rintro r wn ⟨rfl, rfl⟩)
      go_loopw [12, 13, 14] (fun i _ _ wr => ∃ (i' : Nat) (T : St) (ht : Sv), k ≤ i' ∧ i' ≤ n ∧ i = .int .i64 (i' : Int) ∧ (saE c (es.take i') = 0 ∧ saS c (es.take i') = T) ∧ Aside (At w (OB [(w.heap.size, cfC c, TCf), (b1, stC hs S, TSt), (b2, stC ht T, TSt)] (STS [(ht, T), (hs, S)] emp)) wr)) (fun i _ _ _ => n - (intOf i).toNat)
      case atStart => exact ⟨k, _, ht0, Nat.le_refl _, hkn, rfl, ⟨HZ.out, rfl⟩, (show Aside _ from HQ.out)⟩
      case round =>
        clear HQ HZ
        obtain ⟨i, T, ht, hki, hin, rfl, ⟨hz, hT⟩, hall⟩ := hrel
        have q := hall.out
        clear hall
        have HTM := Lib.hid (show T.sm 1 by rw [← hT]; exact saS_sm (by rw [List.length_take]; omega))
        by_cases hlt : i < n
        · have hltI : (i : Int) < (n : Int) := by omega
          obtain ⟨b, off, e1, rfl, he, hcell⟩ := HEL.out i hlt
          obtain ⟨hn1, hn2⟩ := sa_next (by rw [← HES.out.len]; exact hlt) he hz
          rw [hT] at hn1 hn2
          obtain ⟨f0, f1, f2, f3, f4, f5, f6, f7⟩ := e1
          dsimp only at hcell
          have HEl := Lib.hid hcell
          obtain ⟨U, hU⟩ : ∃ U, stAS c T ⟨f0, f1, f2, f3, f4, f5, f6, f7⟩ = U := ⟨_, rfl⟩
          obtain ⟨g, hg⟩ : ∃ g, stAE c T ⟨f0, f1, f2, f3, f4, f5, f6, f7⟩ = g := ⟨_, rfl⟩
          rw [hg] at hn1
          rw [hU] at hn2
          have HA := Lib.hid (And.intro hU hg)
          clear hcell he hU
          by_cases hg0 : g = 0
          · subst hg0
            have HN := Lib.hid (And.intro hn1 hn2)
            clear hn1 hn2 hz hT hg
            go_wp2
            refine st_merge (Φ := fun (p : Nat) (hu : Sv) Z => At w (OB [(w.heap.size, cfC c, TCf), (b1, stC hs S, TSt), (b2, stC ht T, TSt), (p, stC hu U, TSt)] (STS [(hu, U), (ht, T), (hs, S)] emp)) Z) (K := ?K1) ?h1 ?h2
            case h1 =>
              intro hK
              refine region_held (S := fun Z => Blk Z w.heap.size (cfC c) ∧ Blk Z b2 (stC ht T) ∧ AlR w Z) 13 [false, false, false, false, false, false, false, false, false, false, false, false, false] rfl rfl (by kernel_rfl) fun Y hW => ?_
              have q3 := OB.lay (STS.good emp_good) q (us_drew wr)
              rw [← hW] at q3
              have hSq3 := And.intro (OB.at q3 (i := 0) rfl) (And.intro (OB.at q3 (i := 2) rfl) (AlR.of q3))
              clear hW
              refine run_go [(0, spb0, (some 60)), (1, spb1, (some 61)), (2, spb2, (some 62)), (3, spb3, (some 63)), (4, spb4, (some 64)), (5, spb5, (some 65))] (by kernel_rfl) ?_
              iterate 6 (refine run_take ?_ rfl rfl (fun _ _ _ h => h) (Or.inl ⟨by rfl, ?_⟩) hSq3 ?_; rotate_left; (· (intro w0' hy0; obtain ⟨k0, k1, kb⟩ := hy0; have e0 := k0.cell; have e1 := k1.cell; obtain ⟨x0, x1, x2, x3, x4, x5, x6, x7⟩ := HEl.out _ kb; clear k0 k1 kb; (go_simp <;> with_reducible rfl))); simp only [Act.put, List.setIfInBounds_toArray, List.set_cons_zero, List.set_cons_succ])
              refine run_end ?_
              refine jtwo 6 10 (by kernel_rfl) ?_ ?_
              · refine jop_callv 6 spb6 (some 66) (fun v Z => ∃ hu : Sv, v = .tuple #[.agg (stC hu U), .int .i64 0] ∧ At w (OB [(w.heap.size, cfC c, TCf), (b1, stC hs S, TSt), (b2, stC ht T, TSt)] (STS [(hu, U), (ht, T), (hs, S)] emp)) Z) 13 #[.agg (cfC c), .agg (stC ht T), .agg (evA ⟨f0, f1, f2, f3, f4, f5, f6, f7⟩)] rfl rfl (by rfl) (by go_simp <;> with_reducible rfl) ((P.oapply emp_good q3 (i := 0) rfl HTM.out HA.out.1 HA.out.2).mono fun _ _ ⟨hu, e1, z⟩ => ⟨_, e1, hu, rfl, z⟩) (fun v Z ⟨hu, _, z⟩ => And.intro (OB.at z (i := 0) rfl) (And.intro (OB.at z (i := 2) rfl) (AlR.of z))) ?_
                rintro v V4 ⟨hu, rfl, q4⟩
                simp only [Act.put, List.setIfInBounds_toArray, List.set_cons_zero, List.set_cons_succ]
                have hSq4 := And.intro (OB.at q4 (i := 0) rfl) (And.intro (OB.at q4 (i := 2) rfl) (AlR.of q4))
                refine run_go [(7, spb7, (some 59)), (8, spb8, (some 67)), (9, spb9, (some 68))] (by kernel_rfl) ?_
                iterate 3 (refine run_take ?_ rfl rfl (fun _ _ _ h => h) (Or.inl ⟨by rfl, ?_⟩) hSq4 ?_; rotate_left; (· (intro w0' hy0; obtain ⟨k0, k1, kb⟩ := hy0; have e0 := k0.cell; have e1 := k1.cell; obtain ⟨x0, x1, x2, x3, x4, x5, x6, x7⟩ := HEl.out _ kb; clear k0 k1 kb; (go_simp <;> with_reducible rfl))); simp only [Act.put, List.setIfInBounds_toArray, List.set_cons_zero, List.set_cons_succ])
                refine run_end ?_
                have q5 := OB.hold (STS.good emp_good) q4 stZ TSt rfl
                refine held_one 10 spb10 (some 13) (.pointer (some ⟨V4.heap.size, 0, none⟩)) (V4.alloc (.cells stZ TSt)) (by kernel_rfl) rfl rfl (by rfl) (by go_simp <;> with_reducible rfl) (And.intro (OB.at q5 (i := 0) rfl) (And.intro (OB.at q5 (i := 2) rfl) (AlR.of q5))) ?_
                simp only [Act.put, List.setIfInBounds_toArray, List.set_cons_zero, List.set_cons_succ]
                generalize V4.alloc (.cells stZ TSt) = V5 at *
                generalize V4.heap.size = p at *
                have kp := OB.at q5 (i := 3) rfl
                have ep := kp.cell
                have gp := kp.froz
                obtain ⟨V6, hZ, q6⟩ : ∃ Z, (((((((V5.setCell ⟨p, 0, none⟩ (.int .i64 U.b)).setCell ⟨p, 1, none⟩ (.int .i64 U.e)).setCell ⟨p, 2, none⟩ (.int .i64 U.n)).setCell ⟨p, 3, none⟩ (.slice hu.u U.us.length hu.uc)).setCell ⟨p, 4, none⟩ (.slice hu.s U.ss.length hu.sc)).setCell ⟨p, 5, none⟩ (.slice hu.p U.ad.length hu.pc)).setCell ⟨p, 6, none⟩ (.slice hu.i U.sp.length hu.ic)) = Z ∧ At w (OB [(w.heap.size, cfC c, TCf), (b1, stC hs S, TSt), (b2, stC ht T, TSt), (p, stC hu U, TSt)] (STS [(hu, U), (ht, T), (hs, S)] emp)) Z := ⟨_, rfl, OB.put7 (STS.good emp_good) q5 (i := 3) rfl (.int .i64 U.b) (.int .i64 U.e) (.int .i64 U.n) (.slice hu.u U.us.length hu.uc) (.slice hu.s U.ss.length hu.sc) (.slice hu.p U.ad.length hu.pc) (.slice hu.i U.sp.length hu.ic)⟩
                refine held_void 11 spb11 V6 (by kernel_rfl) rfl (by rfl) (by go_simp <;> with_reducible rfl) (And.intro (OB.at q6 (i := 0) rfl) (And.intro (OB.at q6 (i := 2) rfl) (AlR.of q6))) ?_
                simp only [Act.put, List.setIfInBounds_toArray, List.set_cons_zero, List.set_cons_succ]
                clear ep gp kp hZ
                refine run_go [(12, spb12, (some 14))] (by kernel_rfl) ?_
                iterate 1 (refine run_take ?_ rfl rfl (fun _ _ _ h => h) (Or.inl ⟨by rfl, ?_⟩) (And.intro (OB.at q6 (i := 0) rfl) (And.intro (OB.at q6 (i := 2) rfl) (AlR.of q6))) ?_; rotate_left; (· (intro w0' hy0; obtain ⟨k0, k1, kb⟩ := hy0; have e0 := k0.cell; have e1 := k1.cell; obtain ⟨x0, x1, x2, x3, x4, x5, x6, x7⟩ := HEl.out _ kb; clear k0 k1 kb; (go_simp <;> with_reducible rfl))); simp only [Act.put, List.setIfInBounds_toArray, List.set_cons_zero, List.set_cons_succ])
                refine run_end ?_
                refine wpAnyH_done (by kernel_rfl) ?_ _
                exact hK p hu V6 q6
              · have q4 := OB.hold (STS.good emp_good) q3 stZ TSt rfl
                refine jop_one 10 spb10 (some 13) (.pointer (some ⟨Y.heap.size, 0, none⟩)) (Y.alloc (.cells stZ TSt)) rfl rfl (by rfl) (by go_simp <;> with_reducible rfl) (And.intro (OB.at q4 (i := 0) rfl) (And.intro (OB.at q4 (i := 2) rfl) (AlR.of q4))) ?_
                simp only [Act.put, List.setIfInBounds_toArray, List.set_cons_zero, List.set_cons_succ]
                generalize Y.alloc (.cells stZ TSt) = V4 at *
                generalize Y.heap.size = p at *
                refine held_callv 6 spb6 (some 66) (fun v Z => ∃ hu : Sv, v = .tuple #[.agg (stC hu U), .int .i64 0] ∧ At w (OB [(w.heap.size, cfC c, TCf), (b1, stC hs S, TSt), (b2, stC ht T, TSt), (p, stZ, TSt)] (STS [(hu, U), (ht, T), (hs, S)] emp)) Z) 13 #[.agg (cfC c), .agg (stC ht T), .agg (evA ⟨f0, f1, f2, f3, f4, f5, f6, f7⟩)] (by kernel_rfl) rfl rfl (by rfl) (by go_simp <;> with_reducible rfl) ((P.oapply emp_good q4 (i := 0) rfl HTM.out HA.out.1 HA.out.2).mono fun _ _ ⟨hu, e1, z⟩ => ⟨_, e1, hu, rfl, z⟩) (fun v Z ⟨hu, _, z⟩ => And.intro (OB.at z (i := 0) rfl) (And.intro (OB.at z (i := 2) rfl) (AlR.of z))) ?_
                rintro v V5 ⟨hu, rfl, q5⟩
                simp only [Act.put, List.setIfInBounds_toArray, List.set_cons_zero, List.set_cons_succ]
                have hSq5 := And.intro (OB.at q5 (i := 0) rfl) (And.intro (OB.at q5 (i := 2) rfl) (AlR.of q5))
                refine run_go [(7, spb7, (some 59)), (8, spb8, (some 67)), (9, spb9, (some 68))] (by kernel_rfl) ?_
                iterate 3 (refine run_take ?_ rfl rfl (fun _ _ _ h => h) (Or.inl ⟨by rfl, ?_⟩) hSq5 ?_; rotate_left; (· (intro w0' hy0; obtain ⟨k0, k1, kb⟩ := hy0; have e0 := k0.cell; have e1 := k1.cell; obtain ⟨x0, x1, x2, x3, x4, x5, x6, x7⟩ := HEl.out _ kb; clear k0 k1 kb; (go_simp <;> with_reducible rfl))); simp only [Act.put, List.setIfInBounds_toArray, List.set_cons_zero, List.set_cons_succ])
                refine run_end ?_
                have kp := OB.at q5 (i := 3) rfl
                have ep := kp.cell
                have gp := kp.froz
                obtain ⟨V6, hZ, q6⟩ : ∃ Z, (((((((V5.setCell ⟨p, 0, none⟩ (.int .i64 U.b)).setCell ⟨p, 1, none⟩ (.int .i64 U.e)).setCell ⟨p, 2, none⟩ (.int .i64 U.n)).setCell ⟨p, 3, none⟩ (.slice hu.u U.us.length hu.uc)).setCell ⟨p, 4, none⟩ (.slice hu.s U.ss.length hu.sc)).setCell ⟨p, 5, none⟩ (.slice hu.p U.ad.length hu.pc)).setCell ⟨p, 6, none⟩ (.slice hu.i U.sp.length hu.ic)) = Z ∧ At w (OB [(w.heap.size, cfC c, TCf), (b1, stC hs S, TSt), (b2, stC ht T, TSt), (p, stC hu U, TSt)] (STS [(hu, U), (ht, T), (hs, S)] emp)) Z := ⟨_, rfl, OB.put7 (STS.good emp_good) q5 (i := 3) rfl (.int .i64 U.b) (.int .i64 U.e) (.int .i64 U.n) (.slice hu.u U.us.length hu.uc) (.slice hu.s U.ss.length hu.sc) (.slice hu.p U.ad.length hu.pc) (.slice hu.i U.sp.length hu.ic)⟩
                refine held_void 11 spb11 V6 (by kernel_rfl) rfl (by rfl) (by go_simp <;> with_reducible rfl) (And.intro (OB.at q6 (i := 0) rfl) (And.intro (OB.at q6 (i := 2) rfl) (AlR.of q6))) ?_
                simp only [Act.put, List.setIfInBounds_toArray, List.set_cons_zero, List.set_cons_succ]
                clear ep gp kp hZ
                refine run_go [(12, spb12, (some 14))] (by kernel_rfl) ?_
                iterate 1 (refine run_take ?_ rfl rfl (fun _ _ _ h => h) (Or.inl ⟨by rfl, ?_⟩) (And.intro (OB.at q6 (i := 0) rfl) (And.intro (OB.at q6 (i := 2) rfl) (AlR.of q6))) ?_; rotate_left; (· (intro w0' hy0; obtain ⟨k0, k1, kb⟩ := hy0; have e0 := k0.cell; have e1 := k1.cell; obtain ⟨x0, x1, x2, x3, x4, x5, x6, x7⟩ := HEl.out _ kb; clear k0 k1 kb; (go_simp <;> with_reducible rfl))); simp only [Act.put, List.setIfInBounds_toArray, List.set_cons_zero, List.set_cons_succ])
                refine run_end ?_
                refine wpAnyH_done (by kernel_rfl) ?_ _
                exact hK p hu V6 q6
            case h2 =>
              intro p hu Z qn
              clear q
              have kp := OB.at qn (i := 3) rfl
              have ep := kp.cell
              have kt := OB.at qn (i := 2) rfl
              have et := kt.cell
              have gt := kt.froz
              have HF := Lib.hid qn
              clear kp kt qn
              go_wp2_with (go_at_call 11; (with_reducible refine (lnum _ _).mono ?_); rintro r wn ⟨rfl, rfl⟩)
              go_roundw
              case rel => exact ⟨i + 1, _, hu, by omega, by omega, by go_num, HN.out, (show Aside _ from stp_next HF.out)⟩
              case measure => simp [intOf]; omega
          · have hgn : (g != 0) = true := by simpa using hg0
            obtain ⟨y1, y2, -⟩ := sa_bad (c := c) (es := es) (k := i + 1) (by rw [hn1]; exact hg0)
            obtain ⟨heg, hdc⟩ : e = g ∧ decide (S = St.none) = true := ⟨by rw [← HS.out.2, y1, hn1], decide_eq_true (by rw [← HS.out.1, y2])⟩
            have HBAD := Lib.hid hdc
            clear hn1 hn2 hz hT hg hg0 y1 y2 hdc
            subst heg
            go_wp2
            refine st_merge (Φ := fun (p : Nat) (hu : Sv) Z => At w (OB [(w.heap.size, cfC c, TCf), (b1, stC hs S, TSt), (b2, stC ht T, TSt), (p, stC hu U, TSt)] (STS [(hu, U), (ht, T), (hs, S)] emp)) Z) (K := ?K2) ?h1 ?h2
            case h1 =>
              intro hK
              refine region_held (S := fun Z => Blk Z w.heap.size (cfC c) ∧ Blk Z b2 (stC ht T) ∧ AlR w Z) 13 [false, false, false, false, false, false, false, false, false, false, false, false, false] rfl rfl (by kernel_rfl) fun Y hW => ?_
              have q3 := OB.lay (STS.good emp_good) q (us_drew wr)
              rw [← hW] at q3
              have hSq3 := And.intro (OB.at q3 (i := 0) rfl) (And.intro (OB.at q3 (i := 2) rfl) (AlR.of q3))
              clear hW
              refine run_go [(0, spb0, (some 60)), (1, spb1, (some 61)), (2, spb2, (some 62)), (3, spb3, (some 63)), (4, spb4, (some 64)), (5, spb5, (some 65))] (by kernel_rfl) ?_
              iterate 6 (refine run_take ?_ rfl rfl (fun _ _ _ h => h) (Or.inl ⟨by rfl, ?_⟩) hSq3 ?_; rotate_left; (· (intro w0' hy0; obtain ⟨k0, k1, kb⟩ := hy0; have e0 := k0.cell; have e1 := k1.cell; obtain ⟨x0, x1, x2, x3, x4, x5, x6, x7⟩ := HEl.out _ kb; clear k0 k1 kb; (go_simp <;> with_reducible rfl))); simp only [Act.put, List.setIfInBounds_toArray, List.set_cons_zero, List.set_cons_succ])
              refine run_end ?_
              refine jtwo 6 10 (by kernel_rfl) ?_ ?_
              · refine jop_callv 6 spb6 (some 66) (fun v Z => ∃ hu : Sv, v = .tuple #[.agg (stC hu U), .int .i64 e] ∧ At w (OB [(w.heap.size, cfC c, TCf), (b1, stC hs S, TSt), (b2, stC ht T, TSt)] (STS [(hu, U), (ht, T), (hs, S)] emp)) Z) 13 #[.agg (cfC c), .agg (stC ht T), .agg (evA ⟨f0, f1, f2, f3, f4, f5, f6, f7⟩)] rfl rfl (by rfl) (by go_simp <;> with_reducible rfl) ((P.oapply emp_good q3 (i := 0) rfl HTM.out HA.out.1 HA.out.2).mono fun _ _ ⟨hu, e1, z⟩ => ⟨_, e1, hu, rfl, z⟩) (fun v Z ⟨hu, _, z⟩ => And.intro (OB.at z (i := 0) rfl) (And.intro (OB.at z (i := 2) rfl) (AlR.of z))) ?_
                rintro v V4 ⟨hu, rfl, q4⟩
                simp only [Act.put, List.setIfInBounds_toArray, List.set_cons_zero, List.set_cons_succ]
                have hSq4 := And.intro (OB.at q4 (i := 0) rfl) (And.intro (OB.at q4 (i := 2) rfl) (AlR.of q4))
                refine run_go [(7, spb7, (some 59)), (8, spb8, (some 67)), (9, spb9, (some 68))] (by kernel_rfl) ?_
                iterate 3 (refine run_take ?_ rfl rfl (fun _ _ _ h => h) (Or.inl ⟨by rfl, ?_⟩) hSq4 ?_; rotate_left; (· (intro w0' hy0; obtain ⟨k0, k1, kb⟩ := hy0; have e0 := k0.cell; have e1 := k1.cell; obtain ⟨x0, x1, x2, x3, x4, x5, x6, x7⟩ := HEl.out _ kb; clear k0 k1 kb; (go_simp <;> with_reducible rfl))); simp only [Act.put, List.setIfInBounds_toArray, List.set_cons_zero, List.set_cons_succ])
                refine run_end ?_
                have q5 := OB.hold (STS.good emp_good) q4 stZ TSt rfl
                refine held_one 10 spb10 (some 13) (.pointer (some ⟨V4.heap.size, 0, none⟩)) (V4.alloc (.cells stZ TSt)) (by kernel_rfl) rfl rfl (by rfl) (by go_simp <;> with_reducible rfl) (And.intro (OB.at q5 (i := 0) rfl) (And.intro (OB.at q5 (i := 2) rfl) (AlR.of q5))) ?_
                simp only [Act.put, List.setIfInBounds_toArray, List.set_cons_zero, List.set_cons_succ]
                generalize V4.alloc (.cells stZ TSt) = V5 at *
                generalize V4.heap.size = p at *
                have kp := OB.at q5 (i := 3) rfl
                have ep := kp.cell
                have gp := kp.froz
                obtain ⟨V6, hZ, q6⟩ : ∃ Z, (((((((V5.setCell ⟨p, 0, none⟩ (.int .i64 U.b)).setCell ⟨p, 1, none⟩ (.int .i64 U.e)).setCell ⟨p, 2, none⟩ (.int .i64 U.n)).setCell ⟨p, 3, none⟩ (.slice hu.u U.us.length hu.uc)).setCell ⟨p, 4, none⟩ (.slice hu.s U.ss.length hu.sc)).setCell ⟨p, 5, none⟩ (.slice hu.p U.ad.length hu.pc)).setCell ⟨p, 6, none⟩ (.slice hu.i U.sp.length hu.ic)) = Z ∧ At w (OB [(w.heap.size, cfC c, TCf), (b1, stC hs S, TSt), (b2, stC ht T, TSt), (p, stC hu U, TSt)] (STS [(hu, U), (ht, T), (hs, S)] emp)) Z := ⟨_, rfl, OB.put7 (STS.good emp_good) q5 (i := 3) rfl (.int .i64 U.b) (.int .i64 U.e) (.int .i64 U.n) (.slice hu.u U.us.length hu.uc) (.slice hu.s U.ss.length hu.sc) (.slice hu.p U.ad.length hu.pc) (.slice hu.i U.sp.length hu.ic)⟩
                refine held_void 11 spb11 V6 (by kernel_rfl) rfl (by rfl) (by go_simp <;> with_reducible rfl) (And.intro (OB.at q6 (i := 0) rfl) (And.intro (OB.at q6 (i := 2) rfl) (AlR.of q6))) ?_
                simp only [Act.put, List.setIfInBounds_toArray, List.set_cons_zero, List.set_cons_succ]
                clear ep gp kp hZ
                refine run_go [(12, spb12, (some 14))] (by kernel_rfl) ?_
                iterate 1 (refine run_take ?_ rfl rfl (fun _ _ _ h => h) (Or.inl ⟨by rfl, ?_⟩) (And.intro (OB.at q6 (i := 0) rfl) (And.intro (OB.at q6 (i := 2) rfl) (AlR.of q6))) ?_; rotate_left; (· (intro w0' hy0; obtain ⟨k0, k1, kb⟩ := hy0; have e0 := k0.cell; have e1 := k1.cell; obtain ⟨x0, x1, x2, x3, x4, x5, x6, x7⟩ := HEl.out _ kb; clear k0 k1 kb; (go_simp <;> with_reducible rfl))); simp only [Act.put, List.setIfInBounds_toArray, List.set_cons_zero, List.set_cons_succ])
                refine run_end ?_
                refine wpAnyH_done (by kernel_rfl) ?_ _
                exact hK p hu V6 q6
              · have q4 := OB.hold (STS.good emp_good) q3 stZ TSt rfl
                refine jop_one 10 spb10 (some 13) (.pointer (some ⟨Y.heap.size, 0, none⟩)) (Y.alloc (.cells stZ TSt)) rfl rfl (by rfl) (by go_simp <;> with_reducible rfl) (And.intro (OB.at q4 (i := 0) rfl) (And.intro (OB.at q4 (i := 2) rfl) (AlR.of q4))) ?_
                simp only [Act.put, List.setIfInBounds_toArray, List.set_cons_zero, List.set_cons_succ]
                generalize Y.alloc (.cells stZ TSt) = V4 at *
                generalize Y.heap.size = p at *
                refine held_callv 6 spb6 (some 66) (fun v Z => ∃ hu : Sv, v = .tuple #[.agg (stC hu U), .int .i64 e] ∧ At w (OB [(w.heap.size, cfC c, TCf), (b1, stC hs S, TSt), (b2, stC ht T, TSt), (p, stZ, TSt)] (STS [(hu, U), (ht, T), (hs, S)] emp)) Z) 13 #[.agg (cfC c), .agg (stC ht T), .agg (evA ⟨f0, f1, f2, f3, f4, f5, f6, f7⟩)] (by kernel_rfl) rfl rfl (by rfl) (by go_simp <;> with_reducible rfl) ((P.oapply emp_good q4 (i := 0) rfl HTM.out HA.out.1 HA.out.2).mono fun _ _ ⟨hu, e1, z⟩ => ⟨_, e1, hu, rfl, z⟩) (fun v Z ⟨hu, _, z⟩ => And.intro (OB.at z (i := 0) rfl) (And.intro (OB.at z (i := 2) rfl) (AlR.of z))) ?_
                rintro v V5 ⟨hu, rfl, q5⟩
                simp only [Act.put, List.setIfInBounds_toArray, List.set_cons_zero, List.set_cons_succ]
                have hSq5 := And.intro (OB.at q5 (i := 0) rfl) (And.intro (OB.at q5 (i := 2) rfl) (AlR.of q5))
                refine run_go [(7, spb7, (some 59)), (8, spb8, (some 67)), (9, spb9, (some 68))] (by kernel_rfl) ?_
                iterate 3 (refine run_take ?_ rfl rfl (fun _ _ _ h => h) (Or.inl ⟨by rfl, ?_⟩) hSq5 ?_; rotate_left; (· (intro w0' hy0; obtain ⟨k0, k1, kb⟩ := hy0; have e0 := k0.cell; have e1 := k1.cell; obtain ⟨x0, x1, x2, x3, x4, x5, x6, x7⟩ := HEl.out _ kb; clear k0 k1 kb; (go_simp <;> with_reducible rfl))); simp only [Act.put, List.setIfInBounds_toArray, List.set_cons_zero, List.set_cons_succ])
                refine run_end ?_
                have kp := OB.at q5 (i := 3) rfl
                have ep := kp.cell
                have gp := kp.froz
                obtain ⟨V6, hZ, q6⟩ : ∃ Z, (((((((V5.setCell ⟨p, 0, none⟩ (.int .i64 U.b)).setCell ⟨p, 1, none⟩ (.int .i64 U.e)).setCell ⟨p, 2, none⟩ (.int .i64 U.n)).setCell ⟨p, 3, none⟩ (.slice hu.u U.us.length hu.uc)).setCell ⟨p, 4, none⟩ (.slice hu.s U.ss.length hu.sc)).setCell ⟨p, 5, none⟩ (.slice hu.p U.ad.length hu.pc)).setCell ⟨p, 6, none⟩ (.slice hu.i U.sp.length hu.ic)) = Z ∧ At w (OB [(w.heap.size, cfC c, TCf), (b1, stC hs S, TSt), (b2, stC ht T, TSt), (p, stC hu U, TSt)] (STS [(hu, U), (ht, T), (hs, S)] emp)) Z := ⟨_, rfl, OB.put7 (STS.good emp_good) q5 (i := 3) rfl (.int .i64 U.b) (.int .i64 U.e) (.int .i64 U.n) (.slice hu.u U.us.length hu.uc) (.slice hu.s U.ss.length hu.sc) (.slice hu.p U.ad.length hu.pc) (.slice hu.i U.sp.length hu.ic)⟩
                refine held_void 11 spb11 V6 (by kernel_rfl) rfl (by rfl) (by go_simp <;> with_reducible rfl) (And.intro (OB.at q6 (i := 0) rfl) (And.intro (OB.at q6 (i := 2) rfl) (AlR.of q6))) ?_
                simp only [Act.put, List.setIfInBounds_toArray, List.set_cons_zero, List.set_cons_succ]
                clear ep gp kp hZ
                refine run_go [(12, spb12, (some 14))] (by kernel_rfl) ?_
                iterate 1 (refine run_take ?_ rfl rfl (fun _ _ _ h => h) (Or.inl ⟨by rfl, ?_⟩) (And.intro (OB.at q6 (i := 0) rfl) (And.intro (OB.at q6 (i := 2) rfl) (AlR.of q6))) ?_; rotate_left; (· (intro w0' hy0; obtain ⟨k0, k1, kb⟩ := hy0; have e0 := k0.cell; have e1 := k1.cell; obtain ⟨x0, x1, x2, x3, x4, x5, x6, x7⟩ := HEl.out _ kb; clear k0 k1 kb; (go_simp <;> with_reducible rfl))); simp only [Act.put, List.setIfInBounds_toArray, List.set_cons_zero, List.set_cons_succ])
                refine run_end ?_
                refine wpAnyH_done (by kernel_rfl) ?_ _
                exact hK p hu V6 q6
            case h2 =>
              intro p hu Z qn
              clear q
              have kp := OB.at qn (i := 1) rfl
              have ep := kp.cell
              have HF := Lib.hid qn
              clear kp
              go_wp2_with (first
              | (go_at_call 11; (with_reducible refine (lnum _ _).mono ?_); rintro r wn ⟨rfl, rfl⟩)
              | (go_at_call 12; (with_reducible refine (olnone emp_good qn (STS.at qn (i := 2) rfl HSM.out) HBAD.out).mono ?_); rintro r wq ⟨rfl, qq, -⟩))
              go_ret
              exact ⟨rfl, qq.bel⟩
        · obtain rfl : i = n := by omega
          have hltI : ¬ (i : Int) < (i : Int) := by omega
          have hfull : es.take i = es := by rw [HES.out.len, List.take_length]
          rw [hfull] at hz hT
          have HEND := Lib.hid (show e = 0 ∧ decide (S = T) = true from ⟨by rw [← HS.out.2, hz], decide_eq_true (by rw [← HS.out.1, hT])⟩)
          have ks := OB.at q (i := 1) rfl
          have es1 := ks.cell
          have kt := OB.at q (i := 2) rfl
          have et1 := kt.cell
          have he0 : e = 0 := HEND.out.1
          subst he0
          clear ks kt hz hT hfull
          go_wp2_with (first
            | (go_at_call 11; (with_reducible refine (lnum _ _).mono ?_); rintro r wn ⟨rfl, rfl⟩)
            | (go_at_call 12; (with_reducible refine (olsame emp_good q (STS.at q (i := 1) rfl HSM.out) (STS.at q (i := 0) rfl HTM.out) HEND.out.2).mono ?_); rintro r wq ⟨rfl, qq, -⟩))
          go_ret
          exact ⟨rfl, qq.bel⟩
    · have hfn : (f != 0) = true := by simpa using hf0
      obtain ⟨y1, y2, y3⟩ := sa_bad (c := c) (es := es) (k := k) (by rw [HF.out]; exact hf0)
      obtain ⟨hef, hdc⟩ : e = f ∧ decide (S = saS c (es.take k)) = true := ⟨by rw [← HS.out.2, y1, HF.out], decide_eq_true (by rw [← HS.out.1, y2, y3])⟩
      have HBAD := Lib.hid hdc
      subst hef
      clear y1 y2 y3 hf0 hdc
      go_wp2_with (first
      | (go_at_call 11; (with_reducible refine (lnum _ _).mono ?_); rintro r wn ⟨rfl, rfl⟩)
      | (go_at_call 12; (with_reducible refine (olsame emp_good q (STS.at q (i := 1) rfl HSM.out) (STS.at q (i := 0) rfl HT0.out) HBAD.out).mono ?_); rintro r wq ⟨rfl, qq, -⟩))
      go_ret
      exact ⟨rfl, qq.bel⟩
end Go.Proofs.Ytopkcaflmpjhgaa
