/- States: over any config, state and events every call answers as the document, and what is handed in stays. Conditions: the rows' sizes. -/
import Derived.Test.YtopkcaflmpjhgaaGreatSparts
namespace Go.Proofs.YtopkcaflmpjhgaaGreat
open Go Go.RowKit

abbrev sta0 : Oper := { dst := some 78, op := Op.load 29 (Operand.tmp 5), type := 29, pos := "law.go:38", after := #[], guard := none }
abbrev sta1 : Oper := { dst := some 79, op := Op.call { callee := Callee.value (Operand.func 12), args := #[Operand.tmp 78], argTypes := #[29] }, type := 29, pos := "law.go:38", after := #[{ on := 0, ground := Ground.data }], guard := none }
abbrev sta2 : Oper := { dst := some 80, op := Op.load 29 (Operand.tmp 5), type := 29, pos := "law.go:38", after := #[], guard := none }
abbrev sta3 : Oper := { dst := some 81, op := Op.call { callee := Callee.value (Operand.func 12), args := #[Operand.tmp 80], argTypes := #[29] }, type := 29, pos := "law.go:38", after := #[{ on := 2, ground := Ground.data }, { on := 1, ground := Ground.chain }], guard := none }
abbrev sta4 : Oper := { dst := some 18, op := Op.alloc 29, type := 0, pos := "law.go:38", after := #[], guard := none }
abbrev sta5 : Oper := { dst := some 19, op := Op.alloc 29, type := 0, pos := "law.go:38", after := #[], guard := none }
abbrev sta6 : Oper := { dst := none, op := Op.store 29 (Operand.tmp 18) (Operand.tmp 79), type := 0, pos := "law.go:38", after := #[{ on := 4, ground := Ground.data }, { on := 1, ground := Ground.data }, { on := 3, ground := Ground.chain }, { on := 0, ground := Ground.phase }, { on := 1, ground := Ground.phase }, { on := 2, ground := Ground.textOnly Departure.lateStores }, { on := 3, ground := Ground.textOnly Departure.lateStoresUnsure }, { on := 4, ground := Ground.phase }, { on := 5, ground := Ground.phase }], guard := none }
abbrev sta7 : Oper := { dst := none, op := Op.store 29 (Operand.tmp 19) (Operand.tmp 81), type := 0, pos := "law.go:38", after := #[{ on := 5, ground := Ground.data }, { on := 3, ground := Ground.data }, { on := 6, ground := Ground.chain }, { on := 0, ground := Ground.phase }, { on := 1, ground := Ground.phase }, { on := 2, ground := Ground.phase }, { on := 3, ground := Ground.phase }, { on := 4, ground := Ground.phase }, { on := 5, ground := Ground.phase }, { on := 6, ground := Ground.phase }], guard := none }
abbrev stb0 : Oper := { dst := some 93, op := Op.load 23 (Operand.tmp 4), type := 23, pos := "law.go:40", after := #[], guard := none }
abbrev stb1 : Oper := { dst := some 94, op := Op.load 29 (Operand.tmp 18), type := 29, pos := "law.go:40", after := #[], guard := none }
abbrev stb2 : Oper := { dst := some 95, op := Op.move (Operand.tmp 2), type := 30, pos := "law.go:40", after := #[], guard := none }
abbrev stb3 : Oper := { dst := some 96, op := Op.move (Operand.tmp 20), type := 3, pos := "law.go:40", after := #[], guard := none }
abbrev stb4 : Oper := { dst := some 97, op := Op.indexAddr 30 (Operand.tmp 95) (Operand.tmp 96), type := 0, pos := "law.go:40", after := #[{ on := 2, ground := Ground.data }, { on := 3, ground := Ground.data }], guard := none }
abbrev stb5 : Oper := { dst := some 98, op := Op.load 45 (Operand.tmp 97), type := 45, pos := "law.go:40", after := #[{ on := 4, ground := Ground.data }], guard := none }
abbrev stb6 : Oper := { dst := some 99, op := Op.call { callee := Callee.value (Operand.func 13), args := #[Operand.tmp 93, Operand.tmp 94, Operand.tmp 98], argTypes := #[23, 29, 45] }, type := 32, pos := "law.go:40", after := #[{ on := 0, ground := Ground.data }, { on := 1, ground := Ground.data }, { on := 5, ground := Ground.data }], guard := none }
abbrev stb7 : Oper := { dst := some 92, op := Op.move (Operand.tmp 99), type := 32, pos := "law.go:40", after := #[{ on := 6, ground := Ground.data }], guard := none }
abbrev stb8 : Oper := { dst := some 100, op := Op.extract (Operand.tmp 92) 0, type := 29, pos := "law.go:40", after := #[{ on := 7, ground := Ground.data }], guard := none }
abbrev stb9 : Oper := { dst := some 101, op := Op.extract (Operand.tmp 92) 1, type := 31, pos := "law.go:40", after := #[{ on := 7, ground := Ground.data }, { on := 11, ground := Ground.gcOnly Departure.lateStores }], guard := none }
abbrev stb10 : Oper := { dst := some 21, op := Op.alloc 29, type := 0, pos := "law.go:40", after := #[], guard := none }
abbrev stb11 : Oper := { dst := none, op := Op.store 29 (Operand.tmp 21) (Operand.tmp 100), type := 0, pos := "law.go:40", after := #[{ on := 10, ground := Ground.data }, { on := 8, ground := Ground.data }, { on := 6, ground := Ground.chain }, { on := 0, ground := Ground.phase }, { on := 1, ground := Ground.phase }, { on := 2, ground := Ground.phase }, { on := 3, ground := Ground.phase }, { on := 4, ground := Ground.phase }, { on := 5, ground := Ground.phase }, { on := 6, ground := Ground.phase }, { on := 7, ground := Ground.phase }, { on := 8, ground := Ground.phase }, { on := 9, ground := Ground.textOnly Departure.lateStores }, { on := 10, ground := Ground.phase }], guard := none }
abbrev stb12 : Oper := { dst := some 22, op := Op.assign (Operand.tmp 101), type := 31, pos := "law.go:40", after := #[{ on := 9, ground := Ground.data }, { on := 11, ground := Ground.chain }, { on := 0, ground := Ground.phase }, { on := 1, ground := Ground.phase }, { on := 2, ground := Ground.phase }, { on := 3, ground := Ground.phase }, { on := 4, ground := Ground.phase }, { on := 5, ground := Ground.phase }, { on := 6, ground := Ground.phase }, { on := 7, ground := Ground.phase }, { on := 8, ground := Ground.phase }, { on := 9, ground := Ground.phase }, { on := 10, ground := Ground.phase }, { on := 11, ground := Ground.phase }], guard := none }
abbrev stc0 : Oper := { dst := some 103, op := Op.load 23 (Operand.tmp 4), type := 23, pos := "law.go:41", after := #[], guard := none }
abbrev stc1 : Oper := { dst := some 104, op := Op.load 29 (Operand.tmp 19), type := 29, pos := "law.go:41", after := #[], guard := none }
abbrev stc2 : Oper := { dst := some 105, op := Op.move (Operand.tmp 2), type := 30, pos := "law.go:41", after := #[], guard := none }
abbrev stc3 : Oper := { dst := some 106, op := Op.move (Operand.tmp 20), type := 3, pos := "law.go:41", after := #[], guard := none }
abbrev stc4 : Oper := { dst := some 107, op := Op.indexAddr 30 (Operand.tmp 105) (Operand.tmp 106), type := 0, pos := "law.go:41", after := #[{ on := 2, ground := Ground.data }, { on := 3, ground := Ground.data }], guard := none }
abbrev stc5 : Oper := { dst := some 108, op := Op.load 45 (Operand.tmp 107), type := 45, pos := "law.go:41", after := #[{ on := 4, ground := Ground.data }], guard := none }
abbrev stc6 : Oper := { dst := some 109, op := Op.call { callee := Callee.value (Operand.func 14), args := #[Operand.tmp 103, Operand.tmp 104, Operand.tmp 108], argTypes := #[23, 29, 45] }, type := 34, pos := "law.go:41", after := #[{ on := 0, ground := Ground.data }, { on := 1, ground := Ground.data }, { on := 5, ground := Ground.data }], guard := none }
abbrev stc7 : Oper := { dst := some 102, op := Op.move (Operand.tmp 109), type := 34, pos := "law.go:41", after := #[{ on := 6, ground := Ground.data }], guard := none }
abbrev stc8 : Oper := { dst := some 110, op := Op.extract (Operand.tmp 102) 0, type := 29, pos := "law.go:41", after := #[{ on := 7, ground := Ground.data }], guard := none }
abbrev stc9 : Oper := { dst := some 111, op := Op.extract (Operand.tmp 102) 1, type := 3, pos := "law.go:41", after := #[{ on := 7, ground := Ground.data }, { on := 11, ground := Ground.gcOnly Departure.lateStores }], guard := none }
abbrev stc10 : Oper := { dst := some 23, op := Op.alloc 29, type := 0, pos := "law.go:41", after := #[], guard := none }
abbrev stc11 : Oper := { dst := none, op := Op.store 29 (Operand.tmp 23) (Operand.tmp 110), type := 0, pos := "law.go:41", after := #[{ on := 10, ground := Ground.data }, { on := 8, ground := Ground.data }, { on := 6, ground := Ground.chain }, { on := 0, ground := Ground.phase }, { on := 1, ground := Ground.phase }, { on := 2, ground := Ground.phase }, { on := 3, ground := Ground.phase }, { on := 4, ground := Ground.phase }, { on := 5, ground := Ground.phase }, { on := 6, ground := Ground.phase }, { on := 7, ground := Ground.phase }, { on := 8, ground := Ground.phase }, { on := 9, ground := Ground.textOnly Departure.lateStores }, { on := 10, ground := Ground.phase }], guard := none }
abbrev stc12 : Oper := { dst := some 24, op := Op.assign (Operand.tmp 111), type := 3, pos := "law.go:41", after := #[{ on := 9, ground := Ground.data }, { on := 11, ground := Ground.chain }, { on := 0, ground := Ground.phase }, { on := 1, ground := Ground.phase }, { on := 2, ground := Ground.phase }, { on := 3, ground := Ground.phase }, { on := 4, ground := Ground.phase }, { on := 5, ground := Ground.phase }, { on := 6, ground := Ground.phase }, { on := 7, ground := Ground.phase }, { on := 8, ground := Ground.phase }, { on := 9, ground := Ground.phase }, { on := 10, ground := Ground.phase }, { on := 11, ground := Ground.phase }], guard := none }
theorem st_merge2 {Φ : Nat → Nat → Sv → Sv → World → Prop} {G : Prop} {K : Nat → Nat → Sv → Sv → World → Prop} (h1 : (∀ p q h k V, Φ p q h k V → K p q h k V) → G) (h2 : ∀ p q h k V, Φ p q h k V → K p q h k V) : G := h1 h2
theorem MksRow {w W : World} {l : List Ob} {z : List (Sv × St)} {g c2 : Nat} {es : List Ev} (q : At w (OB l (STS z ((rowE TEv 8 (.slice (some ⟨g, 0, none⟩) (es ++ evMks).length c2) (es ++ evMks).length (evCells (es ++ evMks))).star emp))) W) : At w ((rowE TEv 8 (.slice (some ⟨g, 0, none⟩) (es ++ evMks).length c2) (es ++ evMks).length (evCells (es ++ evMks))).star (OB l (STS z emp))) W := (q.imp (OB.under (STS.up _ _ _))).imp (OB.up _ _ _)
theorem MksIn {w W : World} {l : List Ob} {z : List (Sv × St)} {g c2 n : Nat} {es : List Ev} (q : At w (OB l (STS z ((rowE TEv 8 (.slice (some ⟨g, 0, none⟩) (es ++ evMks).length c2) (es ++ evMks).length (evCells (es ++ evMks))).star emp))) W) (hn : n = es.length) (hf : n ≤ 2199023255547) : EvIn [] W (some ⟨g, 0, none⟩) n es := by
  subst hn
  obtain ⟨hat, hg⟩ := evAt_row (MksRow q)
  exact ⟨rfl, .inr ⟨g, 0, rfl, fun i u hu => hat i u (by
    rw [evCells_app, List.getElem?_append_left (by rcases Nat.lt_or_ge i (evCells es).length with c | c; exact c; rw [List.getElem?_eq_none c] at hu; cases hu)]
    exact hu), by simp, hg⟩, by omega⟩
theorem kept_ev {w0 w : World} {C : Ass} {g c2 cap n : Nat} {ao : Option Addr} {es : List Ev} (hS : At w0 ((rowE TEv 8 (.slice (some ⟨g, 0, none⟩) (es ++ evMks).length c2) (es ++ evMks).length (evCells (es ++ evMks))).star C) w) (hes : EvIn [] w ao n es) (hl : n = es.length) (hn : n ≤ 2199023255547) (hc2 : n + 2 ≤ c2) :
    Calls Tryz.prog 11 #[.slice (some ⟨g, 0, none⟩) n c2, .slice ao n cap] w fun e w' => e = .returned (.bool true) ∧ Below w.heap.size w w' := by
  subst hl
  exact ev_kept hS hes hn hc2
set_option maxRecDepth 100000 in
set_option maxHeartbeats 16000000 in
theorem ststates (P : StatesOk) {w : World} {h : Sv} {ao : Option Addr} {n cap : Nat} {es : List Ev} (c : Cf) (s : St) (hi : StIn w h s) (hsm : s.sm 61) (hes : EvIn [] w ao n es) (hc : ao = none → cap = 0) (hn : n ≤ 2199023255547) (m : Int) :
    Calls Tryz.prog 3 #[.agg (cfC c), .agg (stC h s), .slice ao n cap, .int .i64 m] w fun e w' => e = .returned (.bool true) ∧ Below w.heap.size w w' := by
  have q0 : At w (OB [(w.heap.size, cfC c, TCf), (w.heap.size + 1, stC h s, TSt)] (STS [] emp)) ((w.alloc (.cells (cfC c) TCf)).alloc (.cells (stC h s) TSt)) := OB.hold emp_good (OB.hold emp_good (OB.start (Below.refl w.heap.size w)) (cfC c) TCf rfl) (stC h s) TSt (by simp)
  have HI := Lib.hid hi
  have HSM0 := Lib.hid hsm
  have HES := Lib.hid hes
  have HEL := Lib.hid (fun k (hk : k < n) => hes.elem8 (k := k) hk)
  have HL := Lib.hid hes.len
  obtain ⟨A, hA⟩ : ∃ A, snS m = A := ⟨_, rfl⟩
  obtain ⟨a, ha⟩ : ∃ a, snE m = a := ⟨_, rfl⟩
  obtain ⟨B, hB⟩ : ∃ B, saS c es = B := ⟨_, rfl⟩
  obtain ⟨b, hb⟩ : ∃ b, saE c es = b := ⟨_, rfl⟩
  have HA := Lib.hid (And.intro hA ha)
  have HB := Lib.hid (And.intro hB hb)
  have HAM := Lib.hid (show A.sm 0 by rw [← hA]; exact snS_sm (by decide))
  have HBM := Lib.hid (show B.sm 0 by rw [← hB]; exact saS_sm (by rw [← hes.len]; omega))
  have HC := Lib.hid hc
  clear hi hsm hes hA ha hB hb hc
  go_enter Tryz.func3, Tryz.ntmps3
  go_wp2_with (first
    | (go_at_call 4; (with_reducible refine (P.onew emp_good q0 HA.out.1 HA.out.2).mono ?_); rintro r w1 ⟨h1, rfl, qa⟩; have q1 : At w (OB [(w.heap.size, cfC c, TCf), (w.heap.size + 1, stC h s, TSt), (w1.heap.size, stC h1 A, TSt)] (STS [(h1, A)] emp)) (w1.alloc (.cells (stC h1 A) TSt)) := OB.hold (STS.good emp_good) qa (stC h1 A) TSt rfl; clear qa)
    | (go_at_call 5; (with_reducible refine (oranew emp_good q1 HA.out.1 HA.out.2).mono ?_); rintro r w2 ⟨h2, rfl, qa⟩; have q2 : At w (OB [(w.heap.size, cfC c, TCf), (w.heap.size + 1, stC h s, TSt), (w1.heap.size, stC h1 A, TSt), (w2.heap.size, stC h2 A, TSt)] (STS [(h2, A), (h1, A)] emp)) (w2.alloc (.cells (stC h2 A) TSt)) := OB.hold (STS.good emp_good) qa (stC h2 A) TSt rfl; clear qa)
    | (go_at_call 6; (with_reducible refine (ev_lend (cap := cap) (ev_on HES.out q2.bel) HC.out hn).mono ?_); rintro r w3 ⟨g, c2, rfl, hg2, hbec⟩; have q3 : At w (OB [(w.heap.size, cfC c, TCf), (w.heap.size + 1, stC h s, TSt), (w1.heap.size, stC h1 A, TSt), (w2.heap.size, stC h2 A, TSt)] (STS [(h2, A), (h1, A)] ((rowE TEv 8 (.slice (some ⟨g, 0, none⟩) (es ++ evMks).length c2) (es ++ evMks).length (evCells (es ++ evMks))).star emp))) w3 := ((At.add (OB.good (STS.good emp_good)) q2 hbec).imp ((star_assoc _ _ _).trans (((emp_left _).under _).trans (OB.dn _ _ _)))).imp (OB.under (STS.dn _ _ _)); clear hbec; have f3 := (OB.at q3 (i := 0) rfl).cell)
    | (go_at_call 7; (with_reducible refine (P.oall (n := n) (es := es) ((rowE_good _ _ _ _ _).star emp_good) q3 (MksIn q3 HL.out hn) (by omega) HB.out.1 HB.out.2).mono ?_); rintro r w4 ⟨h4, rfl, qa⟩; have q4 : At w (OB [(w.heap.size, cfC c, TCf), (w.heap.size + 1, stC h s, TSt), (w1.heap.size, stC h1 A, TSt), (w2.heap.size, stC h2 A, TSt), (w4.heap.size, stC h4 B, TSt)] (STS [(h4, B), (h2, A), (h1, A)] ((rowE TEv 8 (.slice (some ⟨g, 0, none⟩) (es ++ evMks).length c2) (es ++ evMks).length (evCells (es ++ evMks))).star emp))) (w4.alloc (.cells (stC h4 B) TSt)) := OB.hold (STS.good ((rowE_good _ _ _ _ _).star emp_good)) qa (stC h4 B) TSt rfl; clear qa; have f4 := (OB.at q4 (i := 0) rfl).cell)
    | (go_at_call 8; (with_reducible refine (oraall (n := n) (es := es) ((rowE_good _ _ _ _ _).star emp_good) q4 (ev_on HES.out q4.bel) (by omega) HB.out.1 HB.out.2).mono ?_); rintro r w5 ⟨h5, rfl, qa⟩; have q5 : At w (OB [(w.heap.size, cfC c, TCf), (w.heap.size + 1, stC h s, TSt), (w1.heap.size, stC h1 A, TSt), (w2.heap.size, stC h2 A, TSt), (w4.heap.size, stC h4 B, TSt), (w5.heap.size, stC h5 B, TSt)] (STS [(h5, B), (h4, B), (h2, A), (h1, A)] ((rowE TEv 8 (.slice (some ⟨g, 0, none⟩) (es ++ evMks).length c2) (es ++ evMks).length (evCells (es ++ evMks))).star emp))) (w5.alloc (.cells (stC h5 B) TSt)) := OB.hold (STS.good ((rowE_good _ _ _ _ _).star emp_good)) qa (stC h5 B) TSt rfl; clear qa; have f5 := (OB.at q5 (i := 2) rfl).cell; have g5 := (OB.at q5 (i := 3) rfl).cell)
    | (go_at_call 9; first
      | ((with_reducible refine (olsame ((rowE_good _ _ _ _ _).star emp_good) q5 (STS.at q5 (i := 3) rfl HAM.out) (STS.at q5 (i := 2) rfl HAM.out) (decide_eq_true rfl)).mono ?_); rintro r w6 ⟨rfl, q6, -⟩; have f6 := (OB.at q6 (i := 4) rfl).cell; have g6 := (OB.at q6 (i := 5) rfl).cell)
      | ((with_reducible refine (olsame ((rowE_good _ _ _ _ _).star emp_good) q6 (STS.at q6 (i := 1) rfl HBM.out) (STS.at q6 (i := 0) rfl HBM.out) (decide_eq_true rfl)).mono ?_); rintro r w7 ⟨rfl, q7, -⟩))
    | (go_at_call 11; (with_reducible refine (kept_ev (cap := cap) (MksRow q7) (ev_on HES.out q7.bel) HL.out hn hg2).mono ?_); rintro r w8 ⟨rfl, hb8⟩; have q8 : At w (OB [(w.heap.size, cfC c, TCf), (w.heap.size + 1, stC h s, TSt)] (STS [] emp)) w8 := ((OB.drop 2 rfl (OB.drop 3 rfl (OB.drop 4 rfl (OB.drop 5 rfl (STS.none (OB.lay (STS.good ((rowE_good _ _ _ _ _).star emp_good)) q7 hb8))))))).imp ((OB.up _ _ _)) |>.drop; clear hb8)
    | (go_at_call 10; (with_reducible refine (lnum _ _).mono ?_); rintro r wn ⟨rfl, rfl⟩))
  clear f3 f4 f5 g5 f6 g6 q0 q1 q2 q3 q4 q5 q6 q7
  refine st_merge2 (Φ := fun (px py : Nat) (hx hy : Sv) Z => At w (OB [(w.heap.size, cfC c, TCf), (w.heap.size + 1, stC h s, TSt), (px, stC hx s, TSt), (py, stC hy s, TSt)] (STS [(hx, s), (hy, s)] emp)) Z) (K := ?K8) ?h1 ?h2
  case h1 =>
    intro hK
    refine region_held (S := fun Z => Blk Z (w.heap.size + 1) (stC h s)) 8 [false, false, false, false, false, false, false, false] rfl rfl (by kernel_rfl) fun Y hW => ?_
    have q3 := OB.lay (STS.good emp_good) q8 (us_drew w8)
    rw [← hW] at q3
    have hS3 := (OB.at q3 (i := 1) rfl)
    clear hW
    refine run_go [(0, sta0, (some 78)), (2, sta2, (some 80))] (by kernel_rfl) ?_
    iterate 2 (refine run_take ?_ rfl rfl (fun _ _ _ h => h) (Or.inl ⟨by rfl, ?_⟩) hS3 ?_; rotate_left; (· (intro w0' hy0; have e0 := hy0.cell; (go_simp <;> with_reducible rfl))); simp only [Act.put, List.setIfInBounds_toArray, List.set_cons_zero, List.set_cons_succ])
    refine run_end ?_
    refine jthree 1 4 5 (by kernel_rfl) ?_ ?_ ?_
    · refine jop_callv 1 sta1 (some 79) (fun v Z => ∃ hx : Sv, v = .agg (stC hx s) ∧ At w (OB [(w.heap.size, cfC c, TCf), (w.heap.size + 1, stC h s, TSt)] (STS [(hx, s)] emp)) Z) 12 #[.agg (stC h s)] rfl rfl (by rfl) (by go_simp <;> with_reducible rfl) ((olcopy emp_good q3 (HI.out.on q3.bel)).mono fun _ _ ⟨hx, e1, z⟩ => ⟨_, e1, hx, rfl, z⟩) (fun v Z ⟨hx, _, z⟩ => (OB.at z (i := 1) rfl)) ?_
      rintro v V4 ⟨hx, rfl, q4⟩
      simp only [Act.put, List.setIfInBounds_toArray, List.set_cons_zero, List.set_cons_succ]
      have hSq4 := (OB.at q4 (i := 1) rfl)
      refine jthree 3 4 5 (by kernel_rfl) ?_ ?_ ?_
      · refine jop_callv 3 sta3 (some 81) (fun v Z => ∃ hy : Sv, v = .agg (stC hy s) ∧ At w (OB [(w.heap.size, cfC c, TCf), (w.heap.size + 1, stC h s, TSt)] (STS [(hy, s), (hx, s)] emp)) Z) 12 #[.agg (stC h s)] rfl rfl (by rfl) (by go_simp <;> with_reducible rfl) ((olcopy emp_good q4 (HI.out.on q4.bel)).mono fun _ _ ⟨hy, e1, z⟩ => ⟨_, e1, hy, rfl, z⟩) (fun v Z ⟨hy, _, z⟩ => (OB.at z (i := 1) rfl)) ?_
        rintro v V5 ⟨hy, rfl, q5⟩
        simp only [Act.put, List.setIfInBounds_toArray, List.set_cons_zero, List.set_cons_succ]
        have hSq5 := (OB.at q5 (i := 1) rfl)
        refine jtwo 4 5 (by kernel_rfl) ?_ ?_
        · have q6 := OB.hold (STS.good emp_good) q5 stZ TSt rfl
          refine jop_one 4 sta4 (some 18) (.pointer (some ⟨V5.heap.size, 0, none⟩)) (V5.alloc (.cells stZ TSt)) rfl rfl (by rfl) (by go_simp <;> with_reducible rfl) ((OB.at q6 (i := 1) rfl)) ?_
          simp only [Act.put, List.setIfInBounds_toArray, List.set_cons_zero, List.set_cons_succ]
          generalize V5.alloc (.cells stZ TSt) = V6 at *
          generalize V5.heap.size = px at *
          have q7 := OB.hold (STS.good emp_good) q6 stZ TSt rfl
          refine held_one 5 sta5 (some 19) (.pointer (some ⟨V6.heap.size, 0, none⟩)) (V6.alloc (.cells stZ TSt)) (by kernel_rfl) rfl rfl (by rfl) (by go_simp <;> with_reducible rfl) ((OB.at q7 (i := 1) rfl)) ?_
          simp only [Act.put, List.setIfInBounds_toArray, List.set_cons_zero, List.set_cons_succ]
          generalize V6.alloc (.cells stZ TSt) = V7 at *
          generalize V6.heap.size = py at *
          have kp := OB.at q7 (i := 2) rfl
          have ep := kp.cell
          have gp := kp.froz
          obtain ⟨V8, hZ, q8⟩ : ∃ Z, (((((((V7.setCell ⟨px, 0, none⟩ (.int .i64 s.b)).setCell ⟨px, 1, none⟩ (.int .i64 s.e)).setCell ⟨px, 2, none⟩ (.int .i64 s.n)).setCell ⟨px, 3, none⟩ (.slice hx.u s.us.length hx.uc)).setCell ⟨px, 4, none⟩ (.slice hx.s s.ss.length hx.sc)).setCell ⟨px, 5, none⟩ (.slice hx.p s.ad.length hx.pc)).setCell ⟨px, 6, none⟩ (.slice hx.i s.sp.length hx.ic)) = Z ∧ At w (OB [(w.heap.size, cfC c, TCf), (w.heap.size + 1, stC h s, TSt), (px, stC hx s, TSt), (py, stZ, TSt)] (STS [(hy, s), (hx, s)] emp)) Z := ⟨_, rfl, OB.put7 (STS.good emp_good) q7 (i := 2) rfl (.int .i64 s.b) (.int .i64 s.e) (.int .i64 s.n) (.slice hx.u s.us.length hx.uc) (.slice hx.s s.ss.length hx.sc) (.slice hx.p s.ad.length hx.pc) (.slice hx.i s.sp.length hx.ic)⟩
          refine held_void 6 sta6 V8 (by kernel_rfl) rfl (by rfl) (by go_simp <;> with_reducible rfl) (OB.at q8 (i := 1) rfl) ?_
          simp only [Act.put, List.setIfInBounds_toArray, List.set_cons_zero, List.set_cons_succ]
          clear ep gp kp hZ
          have kp := OB.at q8 (i := 3) rfl
          have ep := kp.cell
          have gp := kp.froz
          obtain ⟨V9, hZ, q9⟩ : ∃ Z, (((((((V8.setCell ⟨py, 0, none⟩ (.int .i64 s.b)).setCell ⟨py, 1, none⟩ (.int .i64 s.e)).setCell ⟨py, 2, none⟩ (.int .i64 s.n)).setCell ⟨py, 3, none⟩ (.slice hy.u s.us.length hy.uc)).setCell ⟨py, 4, none⟩ (.slice hy.s s.ss.length hy.sc)).setCell ⟨py, 5, none⟩ (.slice hy.p s.ad.length hy.pc)).setCell ⟨py, 6, none⟩ (.slice hy.i s.sp.length hy.ic)) = Z ∧ At w (OB [(w.heap.size, cfC c, TCf), (w.heap.size + 1, stC h s, TSt), (px, stC hx s, TSt), (py, stC hy s, TSt)] (STS [(hy, s), (hx, s)] emp)) Z := ⟨_, rfl, OB.put7 (STS.good emp_good) q8 (i := 3) rfl (.int .i64 s.b) (.int .i64 s.e) (.int .i64 s.n) (.slice hy.u s.us.length hy.uc) (.slice hy.s s.ss.length hy.sc) (.slice hy.p s.ad.length hy.pc) (.slice hy.i s.sp.length hy.ic)⟩
          refine held_void 7 sta7 V9 (by kernel_rfl) rfl (by rfl) (by go_simp <;> with_reducible rfl) (OB.at q9 (i := 1) rfl) ?_
          simp only [Act.put, List.setIfInBounds_toArray, List.set_cons_zero, List.set_cons_succ]
          clear ep gp kp hZ
          refine wpAnyH_done (by kernel_rfl) ?_ _
          exact hK px py hx hy V9 (q9.imp (OB.under (STS.pick emp (i := 1) rfl)))
        · have q6 := OB.hold (STS.good emp_good) q5 stZ TSt rfl
          refine jop_one 5 sta5 (some 19) (.pointer (some ⟨V5.heap.size, 0, none⟩)) (V5.alloc (.cells stZ TSt)) rfl rfl (by rfl) (by go_simp <;> with_reducible rfl) ((OB.at q6 (i := 1) rfl)) ?_
          simp only [Act.put, List.setIfInBounds_toArray, List.set_cons_zero, List.set_cons_succ]
          generalize V5.alloc (.cells stZ TSt) = V6 at *
          generalize V5.heap.size = py at *
          have q7 := OB.hold (STS.good emp_good) q6 stZ TSt rfl
          refine held_one 4 sta4 (some 18) (.pointer (some ⟨V6.heap.size, 0, none⟩)) (V6.alloc (.cells stZ TSt)) (by kernel_rfl) rfl rfl (by rfl) (by go_simp <;> with_reducible rfl) ((OB.at q7 (i := 1) rfl)) ?_
          simp only [Act.put, List.setIfInBounds_toArray, List.set_cons_zero, List.set_cons_succ]
          generalize V6.alloc (.cells stZ TSt) = V7 at *
          generalize V6.heap.size = px at *
          have kp := OB.at q7 (i := 3) rfl
          have ep := kp.cell
          have gp := kp.froz
          obtain ⟨V8, hZ, q8⟩ : ∃ Z, (((((((V7.setCell ⟨px, 0, none⟩ (.int .i64 s.b)).setCell ⟨px, 1, none⟩ (.int .i64 s.e)).setCell ⟨px, 2, none⟩ (.int .i64 s.n)).setCell ⟨px, 3, none⟩ (.slice hx.u s.us.length hx.uc)).setCell ⟨px, 4, none⟩ (.slice hx.s s.ss.length hx.sc)).setCell ⟨px, 5, none⟩ (.slice hx.p s.ad.length hx.pc)).setCell ⟨px, 6, none⟩ (.slice hx.i s.sp.length hx.ic)) = Z ∧ At w (OB [(w.heap.size, cfC c, TCf), (w.heap.size + 1, stC h s, TSt), (py, stZ, TSt), (px, stC hx s, TSt)] (STS [(hy, s), (hx, s)] emp)) Z := ⟨_, rfl, OB.put7 (STS.good emp_good) q7 (i := 3) rfl (.int .i64 s.b) (.int .i64 s.e) (.int .i64 s.n) (.slice hx.u s.us.length hx.uc) (.slice hx.s s.ss.length hx.sc) (.slice hx.p s.ad.length hx.pc) (.slice hx.i s.sp.length hx.ic)⟩
          refine held_void 6 sta6 V8 (by kernel_rfl) rfl (by rfl) (by go_simp <;> with_reducible rfl) (OB.at q8 (i := 1) rfl) ?_
          simp only [Act.put, List.setIfInBounds_toArray, List.set_cons_zero, List.set_cons_succ]
          clear ep gp kp hZ
          have kp := OB.at q8 (i := 2) rfl
          have ep := kp.cell
          have gp := kp.froz
          obtain ⟨V9, hZ, q9⟩ : ∃ Z, (((((((V8.setCell ⟨py, 0, none⟩ (.int .i64 s.b)).setCell ⟨py, 1, none⟩ (.int .i64 s.e)).setCell ⟨py, 2, none⟩ (.int .i64 s.n)).setCell ⟨py, 3, none⟩ (.slice hy.u s.us.length hy.uc)).setCell ⟨py, 4, none⟩ (.slice hy.s s.ss.length hy.sc)).setCell ⟨py, 5, none⟩ (.slice hy.p s.ad.length hy.pc)).setCell ⟨py, 6, none⟩ (.slice hy.i s.sp.length hy.ic)) = Z ∧ At w (OB [(w.heap.size, cfC c, TCf), (w.heap.size + 1, stC h s, TSt), (py, stC hy s, TSt), (px, stC hx s, TSt)] (STS [(hy, s), (hx, s)] emp)) Z := ⟨_, rfl, OB.put7 (STS.good emp_good) q8 (i := 2) rfl (.int .i64 s.b) (.int .i64 s.e) (.int .i64 s.n) (.slice hy.u s.us.length hy.uc) (.slice hy.s s.ss.length hy.sc) (.slice hy.p s.ad.length hy.pc) (.slice hy.i s.sp.length hy.ic)⟩
          refine held_void 7 sta7 V9 (by kernel_rfl) rfl (by rfl) (by go_simp <;> with_reducible rfl) (OB.at q9 (i := 1) rfl) ?_
          simp only [Act.put, List.setIfInBounds_toArray, List.set_cons_zero, List.set_cons_succ]
          clear ep gp kp hZ
          refine wpAnyH_done (by kernel_rfl) ?_ _
          exact hK px py hx hy V9 ((q9.imp ((OB.pick _ (i := 2) rfl).trans (OB.snoc _ _ _))).imp (OB.under (STS.pick emp (i := 1) rfl)))
      · have q5 := OB.hold (STS.good emp_good) q4 stZ TSt rfl
        refine jop_one 4 sta4 (some 18) (.pointer (some ⟨V4.heap.size, 0, none⟩)) (V4.alloc (.cells stZ TSt)) rfl rfl (by rfl) (by go_simp <;> with_reducible rfl) ((OB.at q5 (i := 1) rfl)) ?_
        simp only [Act.put, List.setIfInBounds_toArray, List.set_cons_zero, List.set_cons_succ]
        generalize V4.alloc (.cells stZ TSt) = V5 at *
        generalize V4.heap.size = px at *
        refine jtwo 3 5 (by kernel_rfl) ?_ ?_
        · refine jop_callv 3 sta3 (some 81) (fun v Z => ∃ hy : Sv, v = .agg (stC hy s) ∧ At w (OB [(w.heap.size, cfC c, TCf), (w.heap.size + 1, stC h s, TSt), (px, stZ, TSt)] (STS [(hy, s), (hx, s)] emp)) Z) 12 #[.agg (stC h s)] rfl rfl (by rfl) (by go_simp <;> with_reducible rfl) ((olcopy emp_good q5 (HI.out.on q5.bel)).mono fun _ _ ⟨hy, e1, z⟩ => ⟨_, e1, hy, rfl, z⟩) (fun v Z ⟨hy, _, z⟩ => (OB.at z (i := 1) rfl)) ?_
          rintro v V6 ⟨hy, rfl, q6⟩
          simp only [Act.put, List.setIfInBounds_toArray, List.set_cons_zero, List.set_cons_succ]
          have hSq6 := (OB.at q6 (i := 1) rfl)
          have q7 := OB.hold (STS.good emp_good) q6 stZ TSt rfl
          refine held_one 5 sta5 (some 19) (.pointer (some ⟨V6.heap.size, 0, none⟩)) (V6.alloc (.cells stZ TSt)) (by kernel_rfl) rfl rfl (by rfl) (by go_simp <;> with_reducible rfl) ((OB.at q7 (i := 1) rfl)) ?_
          simp only [Act.put, List.setIfInBounds_toArray, List.set_cons_zero, List.set_cons_succ]
          generalize V6.alloc (.cells stZ TSt) = V7 at *
          generalize V6.heap.size = py at *
          have kp := OB.at q7 (i := 2) rfl
          have ep := kp.cell
          have gp := kp.froz
          obtain ⟨V8, hZ, q8⟩ : ∃ Z, (((((((V7.setCell ⟨px, 0, none⟩ (.int .i64 s.b)).setCell ⟨px, 1, none⟩ (.int .i64 s.e)).setCell ⟨px, 2, none⟩ (.int .i64 s.n)).setCell ⟨px, 3, none⟩ (.slice hx.u s.us.length hx.uc)).setCell ⟨px, 4, none⟩ (.slice hx.s s.ss.length hx.sc)).setCell ⟨px, 5, none⟩ (.slice hx.p s.ad.length hx.pc)).setCell ⟨px, 6, none⟩ (.slice hx.i s.sp.length hx.ic)) = Z ∧ At w (OB [(w.heap.size, cfC c, TCf), (w.heap.size + 1, stC h s, TSt), (px, stC hx s, TSt), (py, stZ, TSt)] (STS [(hy, s), (hx, s)] emp)) Z := ⟨_, rfl, OB.put7 (STS.good emp_good) q7 (i := 2) rfl (.int .i64 s.b) (.int .i64 s.e) (.int .i64 s.n) (.slice hx.u s.us.length hx.uc) (.slice hx.s s.ss.length hx.sc) (.slice hx.p s.ad.length hx.pc) (.slice hx.i s.sp.length hx.ic)⟩
          refine held_void 6 sta6 V8 (by kernel_rfl) rfl (by rfl) (by go_simp <;> with_reducible rfl) (OB.at q8 (i := 1) rfl) ?_
          simp only [Act.put, List.setIfInBounds_toArray, List.set_cons_zero, List.set_cons_succ]
          clear ep gp kp hZ
          have kp := OB.at q8 (i := 3) rfl
          have ep := kp.cell
          have gp := kp.froz
          obtain ⟨V9, hZ, q9⟩ : ∃ Z, (((((((V8.setCell ⟨py, 0, none⟩ (.int .i64 s.b)).setCell ⟨py, 1, none⟩ (.int .i64 s.e)).setCell ⟨py, 2, none⟩ (.int .i64 s.n)).setCell ⟨py, 3, none⟩ (.slice hy.u s.us.length hy.uc)).setCell ⟨py, 4, none⟩ (.slice hy.s s.ss.length hy.sc)).setCell ⟨py, 5, none⟩ (.slice hy.p s.ad.length hy.pc)).setCell ⟨py, 6, none⟩ (.slice hy.i s.sp.length hy.ic)) = Z ∧ At w (OB [(w.heap.size, cfC c, TCf), (w.heap.size + 1, stC h s, TSt), (px, stC hx s, TSt), (py, stC hy s, TSt)] (STS [(hy, s), (hx, s)] emp)) Z := ⟨_, rfl, OB.put7 (STS.good emp_good) q8 (i := 3) rfl (.int .i64 s.b) (.int .i64 s.e) (.int .i64 s.n) (.slice hy.u s.us.length hy.uc) (.slice hy.s s.ss.length hy.sc) (.slice hy.p s.ad.length hy.pc) (.slice hy.i s.sp.length hy.ic)⟩
          refine held_void 7 sta7 V9 (by kernel_rfl) rfl (by rfl) (by go_simp <;> with_reducible rfl) (OB.at q9 (i := 1) rfl) ?_
          simp only [Act.put, List.setIfInBounds_toArray, List.set_cons_zero, List.set_cons_succ]
          clear ep gp kp hZ
          refine wpAnyH_done (by kernel_rfl) ?_ _
          exact hK px py hx hy V9 (q9.imp (OB.under (STS.pick emp (i := 1) rfl)))
        · have q6 := OB.hold (STS.good emp_good) q5 stZ TSt rfl
          refine jop_one 5 sta5 (some 19) (.pointer (some ⟨V5.heap.size, 0, none⟩)) (V5.alloc (.cells stZ TSt)) rfl rfl (by rfl) (by go_simp <;> with_reducible rfl) ((OB.at q6 (i := 1) rfl)) ?_
          simp only [Act.put, List.setIfInBounds_toArray, List.set_cons_zero, List.set_cons_succ]
          generalize V5.alloc (.cells stZ TSt) = V6 at *
          generalize V5.heap.size = py at *
          refine held_callv 3 sta3 (some 81) (fun v Z => ∃ hy : Sv, v = .agg (stC hy s) ∧ At w (OB [(w.heap.size, cfC c, TCf), (w.heap.size + 1, stC h s, TSt), (px, stZ, TSt), (py, stZ, TSt)] (STS [(hy, s), (hx, s)] emp)) Z) 12 #[.agg (stC h s)] (by kernel_rfl) rfl rfl (by rfl) (by go_simp <;> with_reducible rfl) ((olcopy emp_good q6 (HI.out.on q6.bel)).mono fun _ _ ⟨hy, e1, z⟩ => ⟨_, e1, hy, rfl, z⟩) (fun v Z ⟨hy, _, z⟩ => (OB.at z (i := 1) rfl)) ?_
          rintro v V7 ⟨hy, rfl, q7⟩
          simp only [Act.put, List.setIfInBounds_toArray, List.set_cons_zero, List.set_cons_succ]
          have hSq7 := (OB.at q7 (i := 1) rfl)
          have kp := OB.at q7 (i := 2) rfl
          have ep := kp.cell
          have gp := kp.froz
          obtain ⟨V8, hZ, q8⟩ : ∃ Z, (((((((V7.setCell ⟨px, 0, none⟩ (.int .i64 s.b)).setCell ⟨px, 1, none⟩ (.int .i64 s.e)).setCell ⟨px, 2, none⟩ (.int .i64 s.n)).setCell ⟨px, 3, none⟩ (.slice hx.u s.us.length hx.uc)).setCell ⟨px, 4, none⟩ (.slice hx.s s.ss.length hx.sc)).setCell ⟨px, 5, none⟩ (.slice hx.p s.ad.length hx.pc)).setCell ⟨px, 6, none⟩ (.slice hx.i s.sp.length hx.ic)) = Z ∧ At w (OB [(w.heap.size, cfC c, TCf), (w.heap.size + 1, stC h s, TSt), (px, stC hx s, TSt), (py, stZ, TSt)] (STS [(hy, s), (hx, s)] emp)) Z := ⟨_, rfl, OB.put7 (STS.good emp_good) q7 (i := 2) rfl (.int .i64 s.b) (.int .i64 s.e) (.int .i64 s.n) (.slice hx.u s.us.length hx.uc) (.slice hx.s s.ss.length hx.sc) (.slice hx.p s.ad.length hx.pc) (.slice hx.i s.sp.length hx.ic)⟩
          refine held_void 6 sta6 V8 (by kernel_rfl) rfl (by rfl) (by go_simp <;> with_reducible rfl) (OB.at q8 (i := 1) rfl) ?_
          simp only [Act.put, List.setIfInBounds_toArray, List.set_cons_zero, List.set_cons_succ]
          clear ep gp kp hZ
          have kp := OB.at q8 (i := 3) rfl
          have ep := kp.cell
          have gp := kp.froz
          obtain ⟨V9, hZ, q9⟩ : ∃ Z, (((((((V8.setCell ⟨py, 0, none⟩ (.int .i64 s.b)).setCell ⟨py, 1, none⟩ (.int .i64 s.e)).setCell ⟨py, 2, none⟩ (.int .i64 s.n)).setCell ⟨py, 3, none⟩ (.slice hy.u s.us.length hy.uc)).setCell ⟨py, 4, none⟩ (.slice hy.s s.ss.length hy.sc)).setCell ⟨py, 5, none⟩ (.slice hy.p s.ad.length hy.pc)).setCell ⟨py, 6, none⟩ (.slice hy.i s.sp.length hy.ic)) = Z ∧ At w (OB [(w.heap.size, cfC c, TCf), (w.heap.size + 1, stC h s, TSt), (px, stC hx s, TSt), (py, stC hy s, TSt)] (STS [(hy, s), (hx, s)] emp)) Z := ⟨_, rfl, OB.put7 (STS.good emp_good) q8 (i := 3) rfl (.int .i64 s.b) (.int .i64 s.e) (.int .i64 s.n) (.slice hy.u s.us.length hy.uc) (.slice hy.s s.ss.length hy.sc) (.slice hy.p s.ad.length hy.pc) (.slice hy.i s.sp.length hy.ic)⟩
          refine held_void 7 sta7 V9 (by kernel_rfl) rfl (by rfl) (by go_simp <;> with_reducible rfl) (OB.at q9 (i := 1) rfl) ?_
          simp only [Act.put, List.setIfInBounds_toArray, List.set_cons_zero, List.set_cons_succ]
          clear ep gp kp hZ
          refine wpAnyH_done (by kernel_rfl) ?_ _
          exact hK px py hx hy V9 (q9.imp (OB.under (STS.pick emp (i := 1) rfl)))
      · have q5 := OB.hold (STS.good emp_good) q4 stZ TSt rfl
        refine jop_one 5 sta5 (some 19) (.pointer (some ⟨V4.heap.size, 0, none⟩)) (V4.alloc (.cells stZ TSt)) rfl rfl (by rfl) (by go_simp <;> with_reducible rfl) ((OB.at q5 (i := 1) rfl)) ?_
        simp only [Act.put, List.setIfInBounds_toArray, List.set_cons_zero, List.set_cons_succ]
        generalize V4.alloc (.cells stZ TSt) = V5 at *
        generalize V4.heap.size = py at *
        refine jtwo 3 4 (by kernel_rfl) ?_ ?_
        · refine jop_callv 3 sta3 (some 81) (fun v Z => ∃ hy : Sv, v = .agg (stC hy s) ∧ At w (OB [(w.heap.size, cfC c, TCf), (w.heap.size + 1, stC h s, TSt), (py, stZ, TSt)] (STS [(hy, s), (hx, s)] emp)) Z) 12 #[.agg (stC h s)] rfl rfl (by rfl) (by go_simp <;> with_reducible rfl) ((olcopy emp_good q5 (HI.out.on q5.bel)).mono fun _ _ ⟨hy, e1, z⟩ => ⟨_, e1, hy, rfl, z⟩) (fun v Z ⟨hy, _, z⟩ => (OB.at z (i := 1) rfl)) ?_
          rintro v V6 ⟨hy, rfl, q6⟩
          simp only [Act.put, List.setIfInBounds_toArray, List.set_cons_zero, List.set_cons_succ]
          have hSq6 := (OB.at q6 (i := 1) rfl)
          have q7 := OB.hold (STS.good emp_good) q6 stZ TSt rfl
          refine held_one 4 sta4 (some 18) (.pointer (some ⟨V6.heap.size, 0, none⟩)) (V6.alloc (.cells stZ TSt)) (by kernel_rfl) rfl rfl (by rfl) (by go_simp <;> with_reducible rfl) ((OB.at q7 (i := 1) rfl)) ?_
          simp only [Act.put, List.setIfInBounds_toArray, List.set_cons_zero, List.set_cons_succ]
          generalize V6.alloc (.cells stZ TSt) = V7 at *
          generalize V6.heap.size = px at *
          have kp := OB.at q7 (i := 3) rfl
          have ep := kp.cell
          have gp := kp.froz
          obtain ⟨V8, hZ, q8⟩ : ∃ Z, (((((((V7.setCell ⟨px, 0, none⟩ (.int .i64 s.b)).setCell ⟨px, 1, none⟩ (.int .i64 s.e)).setCell ⟨px, 2, none⟩ (.int .i64 s.n)).setCell ⟨px, 3, none⟩ (.slice hx.u s.us.length hx.uc)).setCell ⟨px, 4, none⟩ (.slice hx.s s.ss.length hx.sc)).setCell ⟨px, 5, none⟩ (.slice hx.p s.ad.length hx.pc)).setCell ⟨px, 6, none⟩ (.slice hx.i s.sp.length hx.ic)) = Z ∧ At w (OB [(w.heap.size, cfC c, TCf), (w.heap.size + 1, stC h s, TSt), (py, stZ, TSt), (px, stC hx s, TSt)] (STS [(hy, s), (hx, s)] emp)) Z := ⟨_, rfl, OB.put7 (STS.good emp_good) q7 (i := 3) rfl (.int .i64 s.b) (.int .i64 s.e) (.int .i64 s.n) (.slice hx.u s.us.length hx.uc) (.slice hx.s s.ss.length hx.sc) (.slice hx.p s.ad.length hx.pc) (.slice hx.i s.sp.length hx.ic)⟩
          refine held_void 6 sta6 V8 (by kernel_rfl) rfl (by rfl) (by go_simp <;> with_reducible rfl) (OB.at q8 (i := 1) rfl) ?_
          simp only [Act.put, List.setIfInBounds_toArray, List.set_cons_zero, List.set_cons_succ]
          clear ep gp kp hZ
          have kp := OB.at q8 (i := 2) rfl
          have ep := kp.cell
          have gp := kp.froz
          obtain ⟨V9, hZ, q9⟩ : ∃ Z, (((((((V8.setCell ⟨py, 0, none⟩ (.int .i64 s.b)).setCell ⟨py, 1, none⟩ (.int .i64 s.e)).setCell ⟨py, 2, none⟩ (.int .i64 s.n)).setCell ⟨py, 3, none⟩ (.slice hy.u s.us.length hy.uc)).setCell ⟨py, 4, none⟩ (.slice hy.s s.ss.length hy.sc)).setCell ⟨py, 5, none⟩ (.slice hy.p s.ad.length hy.pc)).setCell ⟨py, 6, none⟩ (.slice hy.i s.sp.length hy.ic)) = Z ∧ At w (OB [(w.heap.size, cfC c, TCf), (w.heap.size + 1, stC h s, TSt), (py, stC hy s, TSt), (px, stC hx s, TSt)] (STS [(hy, s), (hx, s)] emp)) Z := ⟨_, rfl, OB.put7 (STS.good emp_good) q8 (i := 2) rfl (.int .i64 s.b) (.int .i64 s.e) (.int .i64 s.n) (.slice hy.u s.us.length hy.uc) (.slice hy.s s.ss.length hy.sc) (.slice hy.p s.ad.length hy.pc) (.slice hy.i s.sp.length hy.ic)⟩
          refine held_void 7 sta7 V9 (by kernel_rfl) rfl (by rfl) (by go_simp <;> with_reducible rfl) (OB.at q9 (i := 1) rfl) ?_
          simp only [Act.put, List.setIfInBounds_toArray, List.set_cons_zero, List.set_cons_succ]
          clear ep gp kp hZ
          refine wpAnyH_done (by kernel_rfl) ?_ _
          exact hK px py hx hy V9 ((q9.imp ((OB.pick _ (i := 2) rfl).trans (OB.snoc _ _ _))).imp (OB.under (STS.pick emp (i := 1) rfl)))
        · have q6 := OB.hold (STS.good emp_good) q5 stZ TSt rfl
          refine jop_one 4 sta4 (some 18) (.pointer (some ⟨V5.heap.size, 0, none⟩)) (V5.alloc (.cells stZ TSt)) rfl rfl (by rfl) (by go_simp <;> with_reducible rfl) ((OB.at q6 (i := 1) rfl)) ?_
          simp only [Act.put, List.setIfInBounds_toArray, List.set_cons_zero, List.set_cons_succ]
          generalize V5.alloc (.cells stZ TSt) = V6 at *
          generalize V5.heap.size = px at *
          refine held_callv 3 sta3 (some 81) (fun v Z => ∃ hy : Sv, v = .agg (stC hy s) ∧ At w (OB [(w.heap.size, cfC c, TCf), (w.heap.size + 1, stC h s, TSt), (py, stZ, TSt), (px, stZ, TSt)] (STS [(hy, s), (hx, s)] emp)) Z) 12 #[.agg (stC h s)] (by kernel_rfl) rfl rfl (by rfl) (by go_simp <;> with_reducible rfl) ((olcopy emp_good q6 (HI.out.on q6.bel)).mono fun _ _ ⟨hy, e1, z⟩ => ⟨_, e1, hy, rfl, z⟩) (fun v Z ⟨hy, _, z⟩ => (OB.at z (i := 1) rfl)) ?_
          rintro v V7 ⟨hy, rfl, q7⟩
          simp only [Act.put, List.setIfInBounds_toArray, List.set_cons_zero, List.set_cons_succ]
          have hSq7 := (OB.at q7 (i := 1) rfl)
          have kp := OB.at q7 (i := 3) rfl
          have ep := kp.cell
          have gp := kp.froz
          obtain ⟨V8, hZ, q8⟩ : ∃ Z, (((((((V7.setCell ⟨px, 0, none⟩ (.int .i64 s.b)).setCell ⟨px, 1, none⟩ (.int .i64 s.e)).setCell ⟨px, 2, none⟩ (.int .i64 s.n)).setCell ⟨px, 3, none⟩ (.slice hx.u s.us.length hx.uc)).setCell ⟨px, 4, none⟩ (.slice hx.s s.ss.length hx.sc)).setCell ⟨px, 5, none⟩ (.slice hx.p s.ad.length hx.pc)).setCell ⟨px, 6, none⟩ (.slice hx.i s.sp.length hx.ic)) = Z ∧ At w (OB [(w.heap.size, cfC c, TCf), (w.heap.size + 1, stC h s, TSt), (py, stZ, TSt), (px, stC hx s, TSt)] (STS [(hy, s), (hx, s)] emp)) Z := ⟨_, rfl, OB.put7 (STS.good emp_good) q7 (i := 3) rfl (.int .i64 s.b) (.int .i64 s.e) (.int .i64 s.n) (.slice hx.u s.us.length hx.uc) (.slice hx.s s.ss.length hx.sc) (.slice hx.p s.ad.length hx.pc) (.slice hx.i s.sp.length hx.ic)⟩
          refine held_void 6 sta6 V8 (by kernel_rfl) rfl (by rfl) (by go_simp <;> with_reducible rfl) (OB.at q8 (i := 1) rfl) ?_
          simp only [Act.put, List.setIfInBounds_toArray, List.set_cons_zero, List.set_cons_succ]
          clear ep gp kp hZ
          have kp := OB.at q8 (i := 2) rfl
          have ep := kp.cell
          have gp := kp.froz
          obtain ⟨V9, hZ, q9⟩ : ∃ Z, (((((((V8.setCell ⟨py, 0, none⟩ (.int .i64 s.b)).setCell ⟨py, 1, none⟩ (.int .i64 s.e)).setCell ⟨py, 2, none⟩ (.int .i64 s.n)).setCell ⟨py, 3, none⟩ (.slice hy.u s.us.length hy.uc)).setCell ⟨py, 4, none⟩ (.slice hy.s s.ss.length hy.sc)).setCell ⟨py, 5, none⟩ (.slice hy.p s.ad.length hy.pc)).setCell ⟨py, 6, none⟩ (.slice hy.i s.sp.length hy.ic)) = Z ∧ At w (OB [(w.heap.size, cfC c, TCf), (w.heap.size + 1, stC h s, TSt), (py, stC hy s, TSt), (px, stC hx s, TSt)] (STS [(hy, s), (hx, s)] emp)) Z := ⟨_, rfl, OB.put7 (STS.good emp_good) q8 (i := 2) rfl (.int .i64 s.b) (.int .i64 s.e) (.int .i64 s.n) (.slice hy.u s.us.length hy.uc) (.slice hy.s s.ss.length hy.sc) (.slice hy.p s.ad.length hy.pc) (.slice hy.i s.sp.length hy.ic)⟩
          refine held_void 7 sta7 V9 (by kernel_rfl) rfl (by rfl) (by go_simp <;> with_reducible rfl) (OB.at q9 (i := 1) rfl) ?_
          simp only [Act.put, List.setIfInBounds_toArray, List.set_cons_zero, List.set_cons_succ]
          clear ep gp kp hZ
          refine wpAnyH_done (by kernel_rfl) ?_ _
          exact hK px py hx hy V9 ((q9.imp ((OB.pick _ (i := 2) rfl).trans (OB.snoc _ _ _))).imp (OB.under (STS.pick emp (i := 1) rfl)))
    · have q4 := OB.hold (STS.good emp_good) q3 stZ TSt rfl
      refine jop_one 4 sta4 (some 18) (.pointer (some ⟨Y.heap.size, 0, none⟩)) (Y.alloc (.cells stZ TSt)) rfl rfl (by rfl) (by go_simp <;> with_reducible rfl) ((OB.at q4 (i := 1) rfl)) ?_
      simp only [Act.put, List.setIfInBounds_toArray, List.set_cons_zero, List.set_cons_succ]
      generalize Y.alloc (.cells stZ TSt) = V4 at *
      generalize Y.heap.size = px at *
      refine jtwo 1 5 (by kernel_rfl) ?_ ?_
      · refine jop_callv 1 sta1 (some 79) (fun v Z => ∃ hx : Sv, v = .agg (stC hx s) ∧ At w (OB [(w.heap.size, cfC c, TCf), (w.heap.size + 1, stC h s, TSt), (px, stZ, TSt)] (STS [(hx, s)] emp)) Z) 12 #[.agg (stC h s)] rfl rfl (by rfl) (by go_simp <;> with_reducible rfl) ((olcopy emp_good q4 (HI.out.on q4.bel)).mono fun _ _ ⟨hx, e1, z⟩ => ⟨_, e1, hx, rfl, z⟩) (fun v Z ⟨hx, _, z⟩ => (OB.at z (i := 1) rfl)) ?_
        rintro v V5 ⟨hx, rfl, q5⟩
        simp only [Act.put, List.setIfInBounds_toArray, List.set_cons_zero, List.set_cons_succ]
        have hSq5 := (OB.at q5 (i := 1) rfl)
        refine jtwo 3 5 (by kernel_rfl) ?_ ?_
        · refine jop_callv 3 sta3 (some 81) (fun v Z => ∃ hy : Sv, v = .agg (stC hy s) ∧ At w (OB [(w.heap.size, cfC c, TCf), (w.heap.size + 1, stC h s, TSt), (px, stZ, TSt)] (STS [(hy, s), (hx, s)] emp)) Z) 12 #[.agg (stC h s)] rfl rfl (by rfl) (by go_simp <;> with_reducible rfl) ((olcopy emp_good q5 (HI.out.on q5.bel)).mono fun _ _ ⟨hy, e1, z⟩ => ⟨_, e1, hy, rfl, z⟩) (fun v Z ⟨hy, _, z⟩ => (OB.at z (i := 1) rfl)) ?_
          rintro v V6 ⟨hy, rfl, q6⟩
          simp only [Act.put, List.setIfInBounds_toArray, List.set_cons_zero, List.set_cons_succ]
          have hSq6 := (OB.at q6 (i := 1) rfl)
          have q7 := OB.hold (STS.good emp_good) q6 stZ TSt rfl
          refine held_one 5 sta5 (some 19) (.pointer (some ⟨V6.heap.size, 0, none⟩)) (V6.alloc (.cells stZ TSt)) (by kernel_rfl) rfl rfl (by rfl) (by go_simp <;> with_reducible rfl) ((OB.at q7 (i := 1) rfl)) ?_
          simp only [Act.put, List.setIfInBounds_toArray, List.set_cons_zero, List.set_cons_succ]
          generalize V6.alloc (.cells stZ TSt) = V7 at *
          generalize V6.heap.size = py at *
          have kp := OB.at q7 (i := 2) rfl
          have ep := kp.cell
          have gp := kp.froz
          obtain ⟨V8, hZ, q8⟩ : ∃ Z, (((((((V7.setCell ⟨px, 0, none⟩ (.int .i64 s.b)).setCell ⟨px, 1, none⟩ (.int .i64 s.e)).setCell ⟨px, 2, none⟩ (.int .i64 s.n)).setCell ⟨px, 3, none⟩ (.slice hx.u s.us.length hx.uc)).setCell ⟨px, 4, none⟩ (.slice hx.s s.ss.length hx.sc)).setCell ⟨px, 5, none⟩ (.slice hx.p s.ad.length hx.pc)).setCell ⟨px, 6, none⟩ (.slice hx.i s.sp.length hx.ic)) = Z ∧ At w (OB [(w.heap.size, cfC c, TCf), (w.heap.size + 1, stC h s, TSt), (px, stC hx s, TSt), (py, stZ, TSt)] (STS [(hy, s), (hx, s)] emp)) Z := ⟨_, rfl, OB.put7 (STS.good emp_good) q7 (i := 2) rfl (.int .i64 s.b) (.int .i64 s.e) (.int .i64 s.n) (.slice hx.u s.us.length hx.uc) (.slice hx.s s.ss.length hx.sc) (.slice hx.p s.ad.length hx.pc) (.slice hx.i s.sp.length hx.ic)⟩
          refine held_void 6 sta6 V8 (by kernel_rfl) rfl (by rfl) (by go_simp <;> with_reducible rfl) (OB.at q8 (i := 1) rfl) ?_
          simp only [Act.put, List.setIfInBounds_toArray, List.set_cons_zero, List.set_cons_succ]
          clear ep gp kp hZ
          have kp := OB.at q8 (i := 3) rfl
          have ep := kp.cell
          have gp := kp.froz
          obtain ⟨V9, hZ, q9⟩ : ∃ Z, (((((((V8.setCell ⟨py, 0, none⟩ (.int .i64 s.b)).setCell ⟨py, 1, none⟩ (.int .i64 s.e)).setCell ⟨py, 2, none⟩ (.int .i64 s.n)).setCell ⟨py, 3, none⟩ (.slice hy.u s.us.length hy.uc)).setCell ⟨py, 4, none⟩ (.slice hy.s s.ss.length hy.sc)).setCell ⟨py, 5, none⟩ (.slice hy.p s.ad.length hy.pc)).setCell ⟨py, 6, none⟩ (.slice hy.i s.sp.length hy.ic)) = Z ∧ At w (OB [(w.heap.size, cfC c, TCf), (w.heap.size + 1, stC h s, TSt), (px, stC hx s, TSt), (py, stC hy s, TSt)] (STS [(hy, s), (hx, s)] emp)) Z := ⟨_, rfl, OB.put7 (STS.good emp_good) q8 (i := 3) rfl (.int .i64 s.b) (.int .i64 s.e) (.int .i64 s.n) (.slice hy.u s.us.length hy.uc) (.slice hy.s s.ss.length hy.sc) (.slice hy.p s.ad.length hy.pc) (.slice hy.i s.sp.length hy.ic)⟩
          refine held_void 7 sta7 V9 (by kernel_rfl) rfl (by rfl) (by go_simp <;> with_reducible rfl) (OB.at q9 (i := 1) rfl) ?_
          simp only [Act.put, List.setIfInBounds_toArray, List.set_cons_zero, List.set_cons_succ]
          clear ep gp kp hZ
          refine wpAnyH_done (by kernel_rfl) ?_ _
          exact hK px py hx hy V9 (q9.imp (OB.under (STS.pick emp (i := 1) rfl)))
        · have q6 := OB.hold (STS.good emp_good) q5 stZ TSt rfl
          refine jop_one 5 sta5 (some 19) (.pointer (some ⟨V5.heap.size, 0, none⟩)) (V5.alloc (.cells stZ TSt)) rfl rfl (by rfl) (by go_simp <;> with_reducible rfl) ((OB.at q6 (i := 1) rfl)) ?_
          simp only [Act.put, List.setIfInBounds_toArray, List.set_cons_zero, List.set_cons_succ]
          generalize V5.alloc (.cells stZ TSt) = V6 at *
          generalize V5.heap.size = py at *
          refine held_callv 3 sta3 (some 81) (fun v Z => ∃ hy : Sv, v = .agg (stC hy s) ∧ At w (OB [(w.heap.size, cfC c, TCf), (w.heap.size + 1, stC h s, TSt), (px, stZ, TSt), (py, stZ, TSt)] (STS [(hy, s), (hx, s)] emp)) Z) 12 #[.agg (stC h s)] (by kernel_rfl) rfl rfl (by rfl) (by go_simp <;> with_reducible rfl) ((olcopy emp_good q6 (HI.out.on q6.bel)).mono fun _ _ ⟨hy, e1, z⟩ => ⟨_, e1, hy, rfl, z⟩) (fun v Z ⟨hy, _, z⟩ => (OB.at z (i := 1) rfl)) ?_
          rintro v V7 ⟨hy, rfl, q7⟩
          simp only [Act.put, List.setIfInBounds_toArray, List.set_cons_zero, List.set_cons_succ]
          have hSq7 := (OB.at q7 (i := 1) rfl)
          have kp := OB.at q7 (i := 2) rfl
          have ep := kp.cell
          have gp := kp.froz
          obtain ⟨V8, hZ, q8⟩ : ∃ Z, (((((((V7.setCell ⟨px, 0, none⟩ (.int .i64 s.b)).setCell ⟨px, 1, none⟩ (.int .i64 s.e)).setCell ⟨px, 2, none⟩ (.int .i64 s.n)).setCell ⟨px, 3, none⟩ (.slice hx.u s.us.length hx.uc)).setCell ⟨px, 4, none⟩ (.slice hx.s s.ss.length hx.sc)).setCell ⟨px, 5, none⟩ (.slice hx.p s.ad.length hx.pc)).setCell ⟨px, 6, none⟩ (.slice hx.i s.sp.length hx.ic)) = Z ∧ At w (OB [(w.heap.size, cfC c, TCf), (w.heap.size + 1, stC h s, TSt), (px, stC hx s, TSt), (py, stZ, TSt)] (STS [(hy, s), (hx, s)] emp)) Z := ⟨_, rfl, OB.put7 (STS.good emp_good) q7 (i := 2) rfl (.int .i64 s.b) (.int .i64 s.e) (.int .i64 s.n) (.slice hx.u s.us.length hx.uc) (.slice hx.s s.ss.length hx.sc) (.slice hx.p s.ad.length hx.pc) (.slice hx.i s.sp.length hx.ic)⟩
          refine held_void 6 sta6 V8 (by kernel_rfl) rfl (by rfl) (by go_simp <;> with_reducible rfl) (OB.at q8 (i := 1) rfl) ?_
          simp only [Act.put, List.setIfInBounds_toArray, List.set_cons_zero, List.set_cons_succ]
          clear ep gp kp hZ
          have kp := OB.at q8 (i := 3) rfl
          have ep := kp.cell
          have gp := kp.froz
          obtain ⟨V9, hZ, q9⟩ : ∃ Z, (((((((V8.setCell ⟨py, 0, none⟩ (.int .i64 s.b)).setCell ⟨py, 1, none⟩ (.int .i64 s.e)).setCell ⟨py, 2, none⟩ (.int .i64 s.n)).setCell ⟨py, 3, none⟩ (.slice hy.u s.us.length hy.uc)).setCell ⟨py, 4, none⟩ (.slice hy.s s.ss.length hy.sc)).setCell ⟨py, 5, none⟩ (.slice hy.p s.ad.length hy.pc)).setCell ⟨py, 6, none⟩ (.slice hy.i s.sp.length hy.ic)) = Z ∧ At w (OB [(w.heap.size, cfC c, TCf), (w.heap.size + 1, stC h s, TSt), (px, stC hx s, TSt), (py, stC hy s, TSt)] (STS [(hy, s), (hx, s)] emp)) Z := ⟨_, rfl, OB.put7 (STS.good emp_good) q8 (i := 3) rfl (.int .i64 s.b) (.int .i64 s.e) (.int .i64 s.n) (.slice hy.u s.us.length hy.uc) (.slice hy.s s.ss.length hy.sc) (.slice hy.p s.ad.length hy.pc) (.slice hy.i s.sp.length hy.ic)⟩
          refine held_void 7 sta7 V9 (by kernel_rfl) rfl (by rfl) (by go_simp <;> with_reducible rfl) (OB.at q9 (i := 1) rfl) ?_
          simp only [Act.put, List.setIfInBounds_toArray, List.set_cons_zero, List.set_cons_succ]
          clear ep gp kp hZ
          refine wpAnyH_done (by kernel_rfl) ?_ _
          exact hK px py hx hy V9 (q9.imp (OB.under (STS.pick emp (i := 1) rfl)))
      · have q5 := OB.hold (STS.good emp_good) q4 stZ TSt rfl
        refine jop_one 5 sta5 (some 19) (.pointer (some ⟨V4.heap.size, 0, none⟩)) (V4.alloc (.cells stZ TSt)) rfl rfl (by rfl) (by go_simp <;> with_reducible rfl) ((OB.at q5 (i := 1) rfl)) ?_
        simp only [Act.put, List.setIfInBounds_toArray, List.set_cons_zero, List.set_cons_succ]
        generalize V4.alloc (.cells stZ TSt) = V5 at *
        generalize V4.heap.size = py at *
        refine held_callv 1 sta1 (some 79) (fun v Z => ∃ hx : Sv, v = .agg (stC hx s) ∧ At w (OB [(w.heap.size, cfC c, TCf), (w.heap.size + 1, stC h s, TSt), (px, stZ, TSt), (py, stZ, TSt)] (STS [(hx, s)] emp)) Z) 12 #[.agg (stC h s)] (by kernel_rfl) rfl rfl (by rfl) (by go_simp <;> with_reducible rfl) ((olcopy emp_good q5 (HI.out.on q5.bel)).mono fun _ _ ⟨hx, e1, z⟩ => ⟨_, e1, hx, rfl, z⟩) (fun v Z ⟨hx, _, z⟩ => (OB.at z (i := 1) rfl)) ?_
        rintro v V6 ⟨hx, rfl, q6⟩
        simp only [Act.put, List.setIfInBounds_toArray, List.set_cons_zero, List.set_cons_succ]
        have hSq6 := (OB.at q6 (i := 1) rfl)
        refine held_callv 3 sta3 (some 81) (fun v Z => ∃ hy : Sv, v = .agg (stC hy s) ∧ At w (OB [(w.heap.size, cfC c, TCf), (w.heap.size + 1, stC h s, TSt), (px, stZ, TSt), (py, stZ, TSt)] (STS [(hy, s), (hx, s)] emp)) Z) 12 #[.agg (stC h s)] (by kernel_rfl) rfl rfl (by rfl) (by go_simp <;> with_reducible rfl) ((olcopy emp_good q6 (HI.out.on q6.bel)).mono fun _ _ ⟨hy, e1, z⟩ => ⟨_, e1, hy, rfl, z⟩) (fun v Z ⟨hy, _, z⟩ => (OB.at z (i := 1) rfl)) ?_
        rintro v V7 ⟨hy, rfl, q7⟩
        simp only [Act.put, List.setIfInBounds_toArray, List.set_cons_zero, List.set_cons_succ]
        have hSq7 := (OB.at q7 (i := 1) rfl)
        have kp := OB.at q7 (i := 2) rfl
        have ep := kp.cell
        have gp := kp.froz
        obtain ⟨V8, hZ, q8⟩ : ∃ Z, (((((((V7.setCell ⟨px, 0, none⟩ (.int .i64 s.b)).setCell ⟨px, 1, none⟩ (.int .i64 s.e)).setCell ⟨px, 2, none⟩ (.int .i64 s.n)).setCell ⟨px, 3, none⟩ (.slice hx.u s.us.length hx.uc)).setCell ⟨px, 4, none⟩ (.slice hx.s s.ss.length hx.sc)).setCell ⟨px, 5, none⟩ (.slice hx.p s.ad.length hx.pc)).setCell ⟨px, 6, none⟩ (.slice hx.i s.sp.length hx.ic)) = Z ∧ At w (OB [(w.heap.size, cfC c, TCf), (w.heap.size + 1, stC h s, TSt), (px, stC hx s, TSt), (py, stZ, TSt)] (STS [(hy, s), (hx, s)] emp)) Z := ⟨_, rfl, OB.put7 (STS.good emp_good) q7 (i := 2) rfl (.int .i64 s.b) (.int .i64 s.e) (.int .i64 s.n) (.slice hx.u s.us.length hx.uc) (.slice hx.s s.ss.length hx.sc) (.slice hx.p s.ad.length hx.pc) (.slice hx.i s.sp.length hx.ic)⟩
        refine held_void 6 sta6 V8 (by kernel_rfl) rfl (by rfl) (by go_simp <;> with_reducible rfl) (OB.at q8 (i := 1) rfl) ?_
        simp only [Act.put, List.setIfInBounds_toArray, List.set_cons_zero, List.set_cons_succ]
        clear ep gp kp hZ
        have kp := OB.at q8 (i := 3) rfl
        have ep := kp.cell
        have gp := kp.froz
        obtain ⟨V9, hZ, q9⟩ : ∃ Z, (((((((V8.setCell ⟨py, 0, none⟩ (.int .i64 s.b)).setCell ⟨py, 1, none⟩ (.int .i64 s.e)).setCell ⟨py, 2, none⟩ (.int .i64 s.n)).setCell ⟨py, 3, none⟩ (.slice hy.u s.us.length hy.uc)).setCell ⟨py, 4, none⟩ (.slice hy.s s.ss.length hy.sc)).setCell ⟨py, 5, none⟩ (.slice hy.p s.ad.length hy.pc)).setCell ⟨py, 6, none⟩ (.slice hy.i s.sp.length hy.ic)) = Z ∧ At w (OB [(w.heap.size, cfC c, TCf), (w.heap.size + 1, stC h s, TSt), (px, stC hx s, TSt), (py, stC hy s, TSt)] (STS [(hy, s), (hx, s)] emp)) Z := ⟨_, rfl, OB.put7 (STS.good emp_good) q8 (i := 3) rfl (.int .i64 s.b) (.int .i64 s.e) (.int .i64 s.n) (.slice hy.u s.us.length hy.uc) (.slice hy.s s.ss.length hy.sc) (.slice hy.p s.ad.length hy.pc) (.slice hy.i s.sp.length hy.ic)⟩
        refine held_void 7 sta7 V9 (by kernel_rfl) rfl (by rfl) (by go_simp <;> with_reducible rfl) (OB.at q9 (i := 1) rfl) ?_
        simp only [Act.put, List.setIfInBounds_toArray, List.set_cons_zero, List.set_cons_succ]
        clear ep gp kp hZ
        refine wpAnyH_done (by kernel_rfl) ?_ _
        exact hK px py hx hy V9 (q9.imp (OB.under (STS.pick emp (i := 1) rfl)))
    · have q4 := OB.hold (STS.good emp_good) q3 stZ TSt rfl
      refine jop_one 5 sta5 (some 19) (.pointer (some ⟨Y.heap.size, 0, none⟩)) (Y.alloc (.cells stZ TSt)) rfl rfl (by rfl) (by go_simp <;> with_reducible rfl) ((OB.at q4 (i := 1) rfl)) ?_
      simp only [Act.put, List.setIfInBounds_toArray, List.set_cons_zero, List.set_cons_succ]
      generalize Y.alloc (.cells stZ TSt) = V4 at *
      generalize Y.heap.size = py at *
      refine jtwo 1 4 (by kernel_rfl) ?_ ?_
      · refine jop_callv 1 sta1 (some 79) (fun v Z => ∃ hx : Sv, v = .agg (stC hx s) ∧ At w (OB [(w.heap.size, cfC c, TCf), (w.heap.size + 1, stC h s, TSt), (py, stZ, TSt)] (STS [(hx, s)] emp)) Z) 12 #[.agg (stC h s)] rfl rfl (by rfl) (by go_simp <;> with_reducible rfl) ((olcopy emp_good q4 (HI.out.on q4.bel)).mono fun _ _ ⟨hx, e1, z⟩ => ⟨_, e1, hx, rfl, z⟩) (fun v Z ⟨hx, _, z⟩ => (OB.at z (i := 1) rfl)) ?_
        rintro v V5 ⟨hx, rfl, q5⟩
        simp only [Act.put, List.setIfInBounds_toArray, List.set_cons_zero, List.set_cons_succ]
        have hSq5 := (OB.at q5 (i := 1) rfl)
        refine jtwo 3 4 (by kernel_rfl) ?_ ?_
        · refine jop_callv 3 sta3 (some 81) (fun v Z => ∃ hy : Sv, v = .agg (stC hy s) ∧ At w (OB [(w.heap.size, cfC c, TCf), (w.heap.size + 1, stC h s, TSt), (py, stZ, TSt)] (STS [(hy, s), (hx, s)] emp)) Z) 12 #[.agg (stC h s)] rfl rfl (by rfl) (by go_simp <;> with_reducible rfl) ((olcopy emp_good q5 (HI.out.on q5.bel)).mono fun _ _ ⟨hy, e1, z⟩ => ⟨_, e1, hy, rfl, z⟩) (fun v Z ⟨hy, _, z⟩ => (OB.at z (i := 1) rfl)) ?_
          rintro v V6 ⟨hy, rfl, q6⟩
          simp only [Act.put, List.setIfInBounds_toArray, List.set_cons_zero, List.set_cons_succ]
          have hSq6 := (OB.at q6 (i := 1) rfl)
          have q7 := OB.hold (STS.good emp_good) q6 stZ TSt rfl
          refine held_one 4 sta4 (some 18) (.pointer (some ⟨V6.heap.size, 0, none⟩)) (V6.alloc (.cells stZ TSt)) (by kernel_rfl) rfl rfl (by rfl) (by go_simp <;> with_reducible rfl) ((OB.at q7 (i := 1) rfl)) ?_
          simp only [Act.put, List.setIfInBounds_toArray, List.set_cons_zero, List.set_cons_succ]
          generalize V6.alloc (.cells stZ TSt) = V7 at *
          generalize V6.heap.size = px at *
          have kp := OB.at q7 (i := 3) rfl
          have ep := kp.cell
          have gp := kp.froz
          obtain ⟨V8, hZ, q8⟩ : ∃ Z, (((((((V7.setCell ⟨px, 0, none⟩ (.int .i64 s.b)).setCell ⟨px, 1, none⟩ (.int .i64 s.e)).setCell ⟨px, 2, none⟩ (.int .i64 s.n)).setCell ⟨px, 3, none⟩ (.slice hx.u s.us.length hx.uc)).setCell ⟨px, 4, none⟩ (.slice hx.s s.ss.length hx.sc)).setCell ⟨px, 5, none⟩ (.slice hx.p s.ad.length hx.pc)).setCell ⟨px, 6, none⟩ (.slice hx.i s.sp.length hx.ic)) = Z ∧ At w (OB [(w.heap.size, cfC c, TCf), (w.heap.size + 1, stC h s, TSt), (py, stZ, TSt), (px, stC hx s, TSt)] (STS [(hy, s), (hx, s)] emp)) Z := ⟨_, rfl, OB.put7 (STS.good emp_good) q7 (i := 3) rfl (.int .i64 s.b) (.int .i64 s.e) (.int .i64 s.n) (.slice hx.u s.us.length hx.uc) (.slice hx.s s.ss.length hx.sc) (.slice hx.p s.ad.length hx.pc) (.slice hx.i s.sp.length hx.ic)⟩
          refine held_void 6 sta6 V8 (by kernel_rfl) rfl (by rfl) (by go_simp <;> with_reducible rfl) (OB.at q8 (i := 1) rfl) ?_
          simp only [Act.put, List.setIfInBounds_toArray, List.set_cons_zero, List.set_cons_succ]
          clear ep gp kp hZ
          have kp := OB.at q8 (i := 2) rfl
          have ep := kp.cell
          have gp := kp.froz
          obtain ⟨V9, hZ, q9⟩ : ∃ Z, (((((((V8.setCell ⟨py, 0, none⟩ (.int .i64 s.b)).setCell ⟨py, 1, none⟩ (.int .i64 s.e)).setCell ⟨py, 2, none⟩ (.int .i64 s.n)).setCell ⟨py, 3, none⟩ (.slice hy.u s.us.length hy.uc)).setCell ⟨py, 4, none⟩ (.slice hy.s s.ss.length hy.sc)).setCell ⟨py, 5, none⟩ (.slice hy.p s.ad.length hy.pc)).setCell ⟨py, 6, none⟩ (.slice hy.i s.sp.length hy.ic)) = Z ∧ At w (OB [(w.heap.size, cfC c, TCf), (w.heap.size + 1, stC h s, TSt), (py, stC hy s, TSt), (px, stC hx s, TSt)] (STS [(hy, s), (hx, s)] emp)) Z := ⟨_, rfl, OB.put7 (STS.good emp_good) q8 (i := 2) rfl (.int .i64 s.b) (.int .i64 s.e) (.int .i64 s.n) (.slice hy.u s.us.length hy.uc) (.slice hy.s s.ss.length hy.sc) (.slice hy.p s.ad.length hy.pc) (.slice hy.i s.sp.length hy.ic)⟩
          refine held_void 7 sta7 V9 (by kernel_rfl) rfl (by rfl) (by go_simp <;> with_reducible rfl) (OB.at q9 (i := 1) rfl) ?_
          simp only [Act.put, List.setIfInBounds_toArray, List.set_cons_zero, List.set_cons_succ]
          clear ep gp kp hZ
          refine wpAnyH_done (by kernel_rfl) ?_ _
          exact hK px py hx hy V9 ((q9.imp ((OB.pick _ (i := 2) rfl).trans (OB.snoc _ _ _))).imp (OB.under (STS.pick emp (i := 1) rfl)))
        · have q6 := OB.hold (STS.good emp_good) q5 stZ TSt rfl
          refine jop_one 4 sta4 (some 18) (.pointer (some ⟨V5.heap.size, 0, none⟩)) (V5.alloc (.cells stZ TSt)) rfl rfl (by rfl) (by go_simp <;> with_reducible rfl) ((OB.at q6 (i := 1) rfl)) ?_
          simp only [Act.put, List.setIfInBounds_toArray, List.set_cons_zero, List.set_cons_succ]
          generalize V5.alloc (.cells stZ TSt) = V6 at *
          generalize V5.heap.size = px at *
          refine held_callv 3 sta3 (some 81) (fun v Z => ∃ hy : Sv, v = .agg (stC hy s) ∧ At w (OB [(w.heap.size, cfC c, TCf), (w.heap.size + 1, stC h s, TSt), (py, stZ, TSt), (px, stZ, TSt)] (STS [(hy, s), (hx, s)] emp)) Z) 12 #[.agg (stC h s)] (by kernel_rfl) rfl rfl (by rfl) (by go_simp <;> with_reducible rfl) ((olcopy emp_good q6 (HI.out.on q6.bel)).mono fun _ _ ⟨hy, e1, z⟩ => ⟨_, e1, hy, rfl, z⟩) (fun v Z ⟨hy, _, z⟩ => (OB.at z (i := 1) rfl)) ?_
          rintro v V7 ⟨hy, rfl, q7⟩
          simp only [Act.put, List.setIfInBounds_toArray, List.set_cons_zero, List.set_cons_succ]
          have hSq7 := (OB.at q7 (i := 1) rfl)
          have kp := OB.at q7 (i := 3) rfl
          have ep := kp.cell
          have gp := kp.froz
          obtain ⟨V8, hZ, q8⟩ : ∃ Z, (((((((V7.setCell ⟨px, 0, none⟩ (.int .i64 s.b)).setCell ⟨px, 1, none⟩ (.int .i64 s.e)).setCell ⟨px, 2, none⟩ (.int .i64 s.n)).setCell ⟨px, 3, none⟩ (.slice hx.u s.us.length hx.uc)).setCell ⟨px, 4, none⟩ (.slice hx.s s.ss.length hx.sc)).setCell ⟨px, 5, none⟩ (.slice hx.p s.ad.length hx.pc)).setCell ⟨px, 6, none⟩ (.slice hx.i s.sp.length hx.ic)) = Z ∧ At w (OB [(w.heap.size, cfC c, TCf), (w.heap.size + 1, stC h s, TSt), (py, stZ, TSt), (px, stC hx s, TSt)] (STS [(hy, s), (hx, s)] emp)) Z := ⟨_, rfl, OB.put7 (STS.good emp_good) q7 (i := 3) rfl (.int .i64 s.b) (.int .i64 s.e) (.int .i64 s.n) (.slice hx.u s.us.length hx.uc) (.slice hx.s s.ss.length hx.sc) (.slice hx.p s.ad.length hx.pc) (.slice hx.i s.sp.length hx.ic)⟩
          refine held_void 6 sta6 V8 (by kernel_rfl) rfl (by rfl) (by go_simp <;> with_reducible rfl) (OB.at q8 (i := 1) rfl) ?_
          simp only [Act.put, List.setIfInBounds_toArray, List.set_cons_zero, List.set_cons_succ]
          clear ep gp kp hZ
          have kp := OB.at q8 (i := 2) rfl
          have ep := kp.cell
          have gp := kp.froz
          obtain ⟨V9, hZ, q9⟩ : ∃ Z, (((((((V8.setCell ⟨py, 0, none⟩ (.int .i64 s.b)).setCell ⟨py, 1, none⟩ (.int .i64 s.e)).setCell ⟨py, 2, none⟩ (.int .i64 s.n)).setCell ⟨py, 3, none⟩ (.slice hy.u s.us.length hy.uc)).setCell ⟨py, 4, none⟩ (.slice hy.s s.ss.length hy.sc)).setCell ⟨py, 5, none⟩ (.slice hy.p s.ad.length hy.pc)).setCell ⟨py, 6, none⟩ (.slice hy.i s.sp.length hy.ic)) = Z ∧ At w (OB [(w.heap.size, cfC c, TCf), (w.heap.size + 1, stC h s, TSt), (py, stC hy s, TSt), (px, stC hx s, TSt)] (STS [(hy, s), (hx, s)] emp)) Z := ⟨_, rfl, OB.put7 (STS.good emp_good) q8 (i := 2) rfl (.int .i64 s.b) (.int .i64 s.e) (.int .i64 s.n) (.slice hy.u s.us.length hy.uc) (.slice hy.s s.ss.length hy.sc) (.slice hy.p s.ad.length hy.pc) (.slice hy.i s.sp.length hy.ic)⟩
          refine held_void 7 sta7 V9 (by kernel_rfl) rfl (by rfl) (by go_simp <;> with_reducible rfl) (OB.at q9 (i := 1) rfl) ?_
          simp only [Act.put, List.setIfInBounds_toArray, List.set_cons_zero, List.set_cons_succ]
          clear ep gp kp hZ
          refine wpAnyH_done (by kernel_rfl) ?_ _
          exact hK px py hx hy V9 ((q9.imp ((OB.pick _ (i := 2) rfl).trans (OB.snoc _ _ _))).imp (OB.under (STS.pick emp (i := 1) rfl)))
      · have q5 := OB.hold (STS.good emp_good) q4 stZ TSt rfl
        refine jop_one 4 sta4 (some 18) (.pointer (some ⟨V4.heap.size, 0, none⟩)) (V4.alloc (.cells stZ TSt)) rfl rfl (by rfl) (by go_simp <;> with_reducible rfl) ((OB.at q5 (i := 1) rfl)) ?_
        simp only [Act.put, List.setIfInBounds_toArray, List.set_cons_zero, List.set_cons_succ]
        generalize V4.alloc (.cells stZ TSt) = V5 at *
        generalize V4.heap.size = px at *
        refine held_callv 1 sta1 (some 79) (fun v Z => ∃ hx : Sv, v = .agg (stC hx s) ∧ At w (OB [(w.heap.size, cfC c, TCf), (w.heap.size + 1, stC h s, TSt), (py, stZ, TSt), (px, stZ, TSt)] (STS [(hx, s)] emp)) Z) 12 #[.agg (stC h s)] (by kernel_rfl) rfl rfl (by rfl) (by go_simp <;> with_reducible rfl) ((olcopy emp_good q5 (HI.out.on q5.bel)).mono fun _ _ ⟨hx, e1, z⟩ => ⟨_, e1, hx, rfl, z⟩) (fun v Z ⟨hx, _, z⟩ => (OB.at z (i := 1) rfl)) ?_
        rintro v V6 ⟨hx, rfl, q6⟩
        simp only [Act.put, List.setIfInBounds_toArray, List.set_cons_zero, List.set_cons_succ]
        have hSq6 := (OB.at q6 (i := 1) rfl)
        refine held_callv 3 sta3 (some 81) (fun v Z => ∃ hy : Sv, v = .agg (stC hy s) ∧ At w (OB [(w.heap.size, cfC c, TCf), (w.heap.size + 1, stC h s, TSt), (py, stZ, TSt), (px, stZ, TSt)] (STS [(hy, s), (hx, s)] emp)) Z) 12 #[.agg (stC h s)] (by kernel_rfl) rfl rfl (by rfl) (by go_simp <;> with_reducible rfl) ((olcopy emp_good q6 (HI.out.on q6.bel)).mono fun _ _ ⟨hy, e1, z⟩ => ⟨_, e1, hy, rfl, z⟩) (fun v Z ⟨hy, _, z⟩ => (OB.at z (i := 1) rfl)) ?_
        rintro v V7 ⟨hy, rfl, q7⟩
        simp only [Act.put, List.setIfInBounds_toArray, List.set_cons_zero, List.set_cons_succ]
        have hSq7 := (OB.at q7 (i := 1) rfl)
        have kp := OB.at q7 (i := 3) rfl
        have ep := kp.cell
        have gp := kp.froz
        obtain ⟨V8, hZ, q8⟩ : ∃ Z, (((((((V7.setCell ⟨px, 0, none⟩ (.int .i64 s.b)).setCell ⟨px, 1, none⟩ (.int .i64 s.e)).setCell ⟨px, 2, none⟩ (.int .i64 s.n)).setCell ⟨px, 3, none⟩ (.slice hx.u s.us.length hx.uc)).setCell ⟨px, 4, none⟩ (.slice hx.s s.ss.length hx.sc)).setCell ⟨px, 5, none⟩ (.slice hx.p s.ad.length hx.pc)).setCell ⟨px, 6, none⟩ (.slice hx.i s.sp.length hx.ic)) = Z ∧ At w (OB [(w.heap.size, cfC c, TCf), (w.heap.size + 1, stC h s, TSt), (py, stZ, TSt), (px, stC hx s, TSt)] (STS [(hy, s), (hx, s)] emp)) Z := ⟨_, rfl, OB.put7 (STS.good emp_good) q7 (i := 3) rfl (.int .i64 s.b) (.int .i64 s.e) (.int .i64 s.n) (.slice hx.u s.us.length hx.uc) (.slice hx.s s.ss.length hx.sc) (.slice hx.p s.ad.length hx.pc) (.slice hx.i s.sp.length hx.ic)⟩
        refine held_void 6 sta6 V8 (by kernel_rfl) rfl (by rfl) (by go_simp <;> with_reducible rfl) (OB.at q8 (i := 1) rfl) ?_
        simp only [Act.put, List.setIfInBounds_toArray, List.set_cons_zero, List.set_cons_succ]
        clear ep gp kp hZ
        have kp := OB.at q8 (i := 2) rfl
        have ep := kp.cell
        have gp := kp.froz
        obtain ⟨V9, hZ, q9⟩ : ∃ Z, (((((((V8.setCell ⟨py, 0, none⟩ (.int .i64 s.b)).setCell ⟨py, 1, none⟩ (.int .i64 s.e)).setCell ⟨py, 2, none⟩ (.int .i64 s.n)).setCell ⟨py, 3, none⟩ (.slice hy.u s.us.length hy.uc)).setCell ⟨py, 4, none⟩ (.slice hy.s s.ss.length hy.sc)).setCell ⟨py, 5, none⟩ (.slice hy.p s.ad.length hy.pc)).setCell ⟨py, 6, none⟩ (.slice hy.i s.sp.length hy.ic)) = Z ∧ At w (OB [(w.heap.size, cfC c, TCf), (w.heap.size + 1, stC h s, TSt), (py, stC hy s, TSt), (px, stC hx s, TSt)] (STS [(hy, s), (hx, s)] emp)) Z := ⟨_, rfl, OB.put7 (STS.good emp_good) q8 (i := 2) rfl (.int .i64 s.b) (.int .i64 s.e) (.int .i64 s.n) (.slice hy.u s.us.length hy.uc) (.slice hy.s s.ss.length hy.sc) (.slice hy.p s.ad.length hy.pc) (.slice hy.i s.sp.length hy.ic)⟩
        refine held_void 7 sta7 V9 (by kernel_rfl) rfl (by rfl) (by go_simp <;> with_reducible rfl) (OB.at q9 (i := 1) rfl) ?_
        simp only [Act.put, List.setIfInBounds_toArray, List.set_cons_zero, List.set_cons_succ]
        clear ep gp kp hZ
        refine wpAnyH_done (by kernel_rfl) ?_ _
        exact hK px py hx hy V9 ((q9.imp ((OB.pick _ (i := 2) rfl).trans (OB.snoc _ _ _))).imp (OB.under (STS.pick emp (i := 1) rfl)))
  case h2 =>
    intro px py hx hy Z q
    clear q8
    go_wp2
    have HQ := Lib.hid q
    clear q
    go_loopw [20] (fun i wr => ∃ (i' : Nat) (S : St) (hx hy : Sv), i' ≤ n ∧ i' ≤ 60 ∧ i = .int .i64 (i' : Int) ∧ S.sm (61 - i') ∧ Aside (At w (OB [(w.heap.size, cfC c, TCf), (px, stC hx S, TSt), (py, stC hy S, TSt)] (STS [(hx, S), (hy, S)] emp)) wr)) (fun i _ => 60 - (intOf i).toNat)
    case atStart => exact ⟨0, s, hx, hy, Nat.zero_le _, by decide, rfl, HSM0.out, (show Aside _ from OB.drop 1 rfl HQ.out)⟩
    case round =>
      clear HQ
      obtain ⟨i, S, hx, hy, hin, hi60, rfl, hsm, hall⟩ := hrel
      have q := hall.out
      clear hall
      have HSM := Lib.hid hsm
      by_cases hlt : i < n ∧ i < 60
      · obtain ⟨hltn, hlt60⟩ := hlt
        have hltI : (i : Int) < (n : Int) := by omega
        have hltJ : (i : Int) < 60 := by omega
        obtain ⟨b, off, e1, rfl, he, hcell⟩ := HEL.out i hltn
        obtain ⟨f0, f1, f2, f3, f4, f5, f6, f7⟩ := e1
        dsimp only at hcell
        have HEl := Lib.hid hcell
        have HS1 := Lib.hid (show S.sm 1 from hsm.le (by omega))
        obtain ⟨T, hT⟩ : ∃ T, stAS c S ⟨f0, f1, f2, f3, f4, f5, f6, f7⟩ = T := ⟨_, rfl⟩
        obtain ⟨r, hr⟩ : ∃ r, stAE c S ⟨f0, f1, f2, f3, f4, f5, f6, f7⟩ = r := ⟨_, rfl⟩
        have HA := Lib.hid (And.intro hT hr)
        have HTM := Lib.hid (show T.sm 0 by rw [← hT]; exact stAS_sm' (hsm.le (by omega)))
        clear hcell he
        by_cases hr0 : r = 0
        · subst hr0
          have hy := stAS_yes hr
          have HN := Lib.hid (show T.sm (61 - (i + 1)) by rw [← hT]; exact stAS_sm (hsm.le (by omega)) hr)
          have HLT := Lib.hid (show T.us.length ≤ 1954687338263 ∧ T.ss.length ≤ 4398046511099 ∧ T.ad.length ≤ 1000 ∧ T.sp.length ≤ 17592186044411 from by
            have hl := stEv_len hy.1 hy.2.1 hy.2.2.2
            rw [hT] at hl
            have ha : c.adr ≤ 16 := by
              have := hy.1
              unfold Cf.may at this
              simp only [Bool.and_eq_true, decide_eq_true_eq] at this
              omega
            have h3 := hy.2.2.1
            have k1 := HTM.out.u
            have k2 := HTM.out.s
            have k3 := HTM.out.i
            refine ⟨by omega, by omega, by omega, by omega⟩)
          clear hy hT hr hsm
          go_wp2
          refine st_merge (Φ := fun (pt : Nat) (ht : Sv) Z => At w (OB [(w.heap.size, cfC c, TCf), (px, stC hx S, TSt), (py, stC hy S, TSt), (pt, stC ht T, TSt)] (STS [(ht, T), (hx, S), (hy, S)] emp)) Z) (K := ?K2) ?h1 ?h2
          case h1 =>
            intro hK
            refine region_held (S := fun Z => Blk Z w.heap.size (cfC c) ∧ Blk Z px (stC hx S) ∧ AlR w Z) 13 [false, false, false, false, false, false, false, false, false, false, false, false, false] rfl rfl (by kernel_rfl) fun Y hW => ?_
            have q3 := OB.lay (STS.good emp_good) q (us_drew wr)
            rw [← hW] at q3
            have hSq3 := And.intro (OB.at q3 (i := 0) rfl) (And.intro (OB.at q3 (i := 1) rfl) (AlR.of q3))
            clear hW
            refine run_go [(0, stb0, (some 93)), (1, stb1, (some 94)), (2, stb2, (some 95)), (3, stb3, (some 96)), (4, stb4, (some 97)), (5, stb5, (some 98))] (by kernel_rfl) ?_
            iterate 6 (refine run_take ?_ rfl rfl (fun _ _ _ h => h) (Or.inl ⟨by rfl, ?_⟩) hSq3 ?_; rotate_left; (· (intro w0' hy0; obtain ⟨k0, k1, kb⟩ := hy0; have e0 := k0.cell; have e1 := k1.cell; obtain ⟨x0, x1, x2, x3, x4, x5, x6, x7⟩ := HEl.out _ kb; clear k0 k1 kb; (go_simp <;> with_reducible rfl))); simp only [Act.put, List.setIfInBounds_toArray, List.set_cons_zero, List.set_cons_succ])
            refine run_end ?_
            refine jtwo 6 10 (by kernel_rfl) ?_ ?_
            · refine jop_callv 6 stb6 (some 99) (fun v Z => ∃ ht : Sv, v = .tuple #[.agg (stC ht T), .int .i64 0] ∧ At w (OB [(w.heap.size, cfC c, TCf), (px, stC hx S, TSt), (py, stC hy S, TSt)] (STS [(ht, T), (hx, S), (hy, S)] emp)) Z) 13 #[.agg (cfC c), .agg (stC hx S), .agg (evA ⟨f0, f1, f2, f3, f4, f5, f6, f7⟩)] rfl rfl (by rfl) (by go_simp <;> with_reducible rfl) ((P.oapply (e := ⟨f0, f1, f2, f3, f4, f5, f6, f7⟩) emp_good q3 (i := 0) rfl HS1.out HA.out.1 HA.out.2).mono fun _ _ ⟨ht, e1, z⟩ => ⟨_, e1, ht, rfl, z⟩) (fun v Z ⟨ht, _, z⟩ => And.intro (OB.at z (i := 0) rfl) (And.intro (OB.at z (i := 1) rfl) (AlR.of z))) ?_
              rintro v V4 ⟨ht, rfl, q4⟩
              simp only [Act.put, List.setIfInBounds_toArray, List.set_cons_zero, List.set_cons_succ]
              have hSq4 := And.intro (OB.at q4 (i := 0) rfl) (And.intro (OB.at q4 (i := 1) rfl) (AlR.of q4))
              refine run_go [(7, stb7, (some 92)), (8, stb8, (some 100)), (9, stb9, (some 101))] (by kernel_rfl) ?_
              iterate 3 (refine run_take ?_ rfl rfl (fun _ _ _ h => h) (Or.inl ⟨by rfl, ?_⟩) hSq4 ?_; rotate_left; (· (intro w0' hy0; obtain ⟨k0, k1, kb⟩ := hy0; have e0 := k0.cell; have e1 := k1.cell; obtain ⟨x0, x1, x2, x3, x4, x5, x6, x7⟩ := HEl.out _ kb; clear k0 k1 kb; (go_simp <;> with_reducible rfl))); simp only [Act.put, List.setIfInBounds_toArray, List.set_cons_zero, List.set_cons_succ])
              refine run_end ?_
              have q5 := OB.hold (STS.good emp_good) q4 stZ TSt rfl
              refine held_one 10 stb10 (some 21) (.pointer (some ⟨V4.heap.size, 0, none⟩)) (V4.alloc (.cells stZ TSt)) (by kernel_rfl) rfl rfl (by rfl) (by go_simp <;> with_reducible rfl) (And.intro (OB.at q5 (i := 0) rfl) (And.intro (OB.at q5 (i := 1) rfl) (AlR.of q5))) ?_
              simp only [Act.put, List.setIfInBounds_toArray, List.set_cons_zero, List.set_cons_succ]
              generalize V4.alloc (.cells stZ TSt) = V5 at *
              generalize V4.heap.size = pt at *
              have kp := OB.at q5 (i := 3) rfl
              have ep := kp.cell
              have gp := kp.froz
              obtain ⟨V6, hZ, q6⟩ : ∃ Z, (((((((V5.setCell ⟨pt, 0, none⟩ (.int .i64 T.b)).setCell ⟨pt, 1, none⟩ (.int .i64 T.e)).setCell ⟨pt, 2, none⟩ (.int .i64 T.n)).setCell ⟨pt, 3, none⟩ (.slice ht.u T.us.length ht.uc)).setCell ⟨pt, 4, none⟩ (.slice ht.s T.ss.length ht.sc)).setCell ⟨pt, 5, none⟩ (.slice ht.p T.ad.length ht.pc)).setCell ⟨pt, 6, none⟩ (.slice ht.i T.sp.length ht.ic)) = Z ∧ At w (OB [(w.heap.size, cfC c, TCf), (px, stC hx S, TSt), (py, stC hy S, TSt), (pt, stC ht T, TSt)] (STS [(ht, T), (hx, S), (hy, S)] emp)) Z := ⟨_, rfl, OB.put7 (STS.good emp_good) q5 (i := 3) rfl (.int .i64 T.b) (.int .i64 T.e) (.int .i64 T.n) (.slice ht.u T.us.length ht.uc) (.slice ht.s T.ss.length ht.sc) (.slice ht.p T.ad.length ht.pc) (.slice ht.i T.sp.length ht.ic)⟩
              refine held_void 11 stb11 V6 (by kernel_rfl) rfl (by rfl) (by go_simp <;> with_reducible rfl) (And.intro (OB.at q6 (i := 0) rfl) (And.intro (OB.at q6 (i := 1) rfl) (AlR.of q6))) ?_
              simp only [Act.put, List.setIfInBounds_toArray, List.set_cons_zero, List.set_cons_succ]
              clear ep gp kp hZ
              refine run_go [(12, stb12, (some 22))] (by kernel_rfl) ?_
              iterate 1 (refine run_take ?_ rfl rfl (fun _ _ _ h => h) (Or.inl ⟨by rfl, ?_⟩) (And.intro (OB.at q6 (i := 0) rfl) (And.intro (OB.at q6 (i := 1) rfl) (AlR.of q6))) ?_; rotate_left; (· (intro w0' hy0; obtain ⟨k0, k1, kb⟩ := hy0; have e0 := k0.cell; have e1 := k1.cell; obtain ⟨x0, x1, x2, x3, x4, x5, x6, x7⟩ := HEl.out _ kb; clear k0 k1 kb; (go_simp <;> with_reducible rfl))); simp only [Act.put, List.setIfInBounds_toArray, List.set_cons_zero, List.set_cons_succ])
              refine run_end ?_
              refine wpAnyH_done (by kernel_rfl) ?_ _
              exact hK pt ht V6 q6
            · have q4 := OB.hold (STS.good emp_good) q3 stZ TSt rfl
              refine jop_one 10 stb10 (some 21) (.pointer (some ⟨Y.heap.size, 0, none⟩)) (Y.alloc (.cells stZ TSt)) rfl rfl (by rfl) (by go_simp <;> with_reducible rfl) (And.intro (OB.at q4 (i := 0) rfl) (And.intro (OB.at q4 (i := 1) rfl) (AlR.of q4))) ?_
              simp only [Act.put, List.setIfInBounds_toArray, List.set_cons_zero, List.set_cons_succ]
              generalize Y.alloc (.cells stZ TSt) = V4 at *
              generalize Y.heap.size = pt at *
              refine held_callv 6 stb6 (some 99) (fun v Z => ∃ ht : Sv, v = .tuple #[.agg (stC ht T), .int .i64 0] ∧ At w (OB [(w.heap.size, cfC c, TCf), (px, stC hx S, TSt), (py, stC hy S, TSt), (pt, stZ, TSt)] (STS [(ht, T), (hx, S), (hy, S)] emp)) Z) 13 #[.agg (cfC c), .agg (stC hx S), .agg (evA ⟨f0, f1, f2, f3, f4, f5, f6, f7⟩)] (by kernel_rfl) rfl rfl (by rfl) (by go_simp <;> with_reducible rfl) ((P.oapply (e := ⟨f0, f1, f2, f3, f4, f5, f6, f7⟩) emp_good q4 (i := 0) rfl HS1.out HA.out.1 HA.out.2).mono fun _ _ ⟨ht, e1, z⟩ => ⟨_, e1, ht, rfl, z⟩) (fun v Z ⟨ht, _, z⟩ => And.intro (OB.at z (i := 0) rfl) (And.intro (OB.at z (i := 1) rfl) (AlR.of z))) ?_
              rintro v V5 ⟨ht, rfl, q5⟩
              simp only [Act.put, List.setIfInBounds_toArray, List.set_cons_zero, List.set_cons_succ]
              have hSq5 := And.intro (OB.at q5 (i := 0) rfl) (And.intro (OB.at q5 (i := 1) rfl) (AlR.of q5))
              refine run_go [(7, stb7, (some 92)), (8, stb8, (some 100)), (9, stb9, (some 101))] (by kernel_rfl) ?_
              iterate 3 (refine run_take ?_ rfl rfl (fun _ _ _ h => h) (Or.inl ⟨by rfl, ?_⟩) hSq5 ?_; rotate_left; (· (intro w0' hy0; obtain ⟨k0, k1, kb⟩ := hy0; have e0 := k0.cell; have e1 := k1.cell; obtain ⟨x0, x1, x2, x3, x4, x5, x6, x7⟩ := HEl.out _ kb; clear k0 k1 kb; (go_simp <;> with_reducible rfl))); simp only [Act.put, List.setIfInBounds_toArray, List.set_cons_zero, List.set_cons_succ])
              refine run_end ?_
              have kp := OB.at q5 (i := 3) rfl
              have ep := kp.cell
              have gp := kp.froz
              obtain ⟨V6, hZ, q6⟩ : ∃ Z, (((((((V5.setCell ⟨pt, 0, none⟩ (.int .i64 T.b)).setCell ⟨pt, 1, none⟩ (.int .i64 T.e)).setCell ⟨pt, 2, none⟩ (.int .i64 T.n)).setCell ⟨pt, 3, none⟩ (.slice ht.u T.us.length ht.uc)).setCell ⟨pt, 4, none⟩ (.slice ht.s T.ss.length ht.sc)).setCell ⟨pt, 5, none⟩ (.slice ht.p T.ad.length ht.pc)).setCell ⟨pt, 6, none⟩ (.slice ht.i T.sp.length ht.ic)) = Z ∧ At w (OB [(w.heap.size, cfC c, TCf), (px, stC hx S, TSt), (py, stC hy S, TSt), (pt, stC ht T, TSt)] (STS [(ht, T), (hx, S), (hy, S)] emp)) Z := ⟨_, rfl, OB.put7 (STS.good emp_good) q5 (i := 3) rfl (.int .i64 T.b) (.int .i64 T.e) (.int .i64 T.n) (.slice ht.u T.us.length ht.uc) (.slice ht.s T.ss.length ht.sc) (.slice ht.p T.ad.length ht.pc) (.slice ht.i T.sp.length ht.ic)⟩
              refine held_void 11 stb11 V6 (by kernel_rfl) rfl (by rfl) (by go_simp <;> with_reducible rfl) (And.intro (OB.at q6 (i := 0) rfl) (And.intro (OB.at q6 (i := 1) rfl) (AlR.of q6))) ?_
              simp only [Act.put, List.setIfInBounds_toArray, List.set_cons_zero, List.set_cons_succ]
              clear ep gp kp hZ
              refine run_go [(12, stb12, (some 22))] (by kernel_rfl) ?_
              iterate 1 (refine run_take ?_ rfl rfl (fun _ _ _ h => h) (Or.inl ⟨by rfl, ?_⟩) (And.intro (OB.at q6 (i := 0) rfl) (And.intro (OB.at q6 (i := 1) rfl) (AlR.of q6))) ?_; rotate_left; (· (intro w0' hy0; obtain ⟨k0, k1, kb⟩ := hy0; have e0 := k0.cell; have e1 := k1.cell; obtain ⟨x0, x1, x2, x3, x4, x5, x6, x7⟩ := HEl.out _ kb; clear k0 k1 kb; (go_simp <;> with_reducible rfl))); simp only [Act.put, List.setIfInBounds_toArray, List.set_cons_zero, List.set_cons_succ])
              refine run_end ?_
              refine wpAnyH_done (by kernel_rfl) ?_ _
              exact hK pt ht V6 q6
          case h2 =>
            intro pt ht Zt qt
            clear q
            have e0 := (OB.at qt (i := 0) rfl).cell
            clear e0
            go_wp2
            refine st_merge (Φ := fun (pu : Nat) (hu : Sv) Z => At w (OB [(w.heap.size, cfC c, TCf), (px, stC hx S, TSt), (py, stC hy S, TSt), (pt, stC ht T, TSt), (pu, stC hu T, TSt)] (STS [(hu, T), (ht, T), (hx, S), (hy, S)] emp)) Z) (K := ?K1) ?h1 ?h2
            case h1 =>
              intro hK
              refine region_held (S := fun Z => Blk Z w.heap.size (cfC c) ∧ Blk Z py (stC hy S) ∧ AlR w Z) 13 [false, false, false, false, false, false, false, false, false, false, false, false, false] rfl rfl (by kernel_rfl) fun Y2 hW => ?_
              have q19 := OB.lay (STS.good emp_good) qt (us_drew Zt)
              rw [← hW] at q19
              have hSq19 := And.intro (OB.at q19 (i := 0) rfl) (And.intro (OB.at q19 (i := 2) rfl) (AlR.of q19))
              clear hW
              refine run_go [(0, stc0, (some 103)), (1, stc1, (some 104)), (2, stc2, (some 105)), (3, stc3, (some 106)), (4, stc4, (some 107)), (5, stc5, (some 108))] (by kernel_rfl) ?_
              iterate 6 (refine run_take ?_ rfl rfl (fun _ _ _ h => h) (Or.inl ⟨by rfl, ?_⟩) hSq19 ?_; rotate_left; (· (intro w0' hy0; obtain ⟨k0, k1, kb⟩ := hy0; have e0 := k0.cell; have e1 := k1.cell; obtain ⟨x0, x1, x2, x3, x4, x5, x6, x7⟩ := HEl.out _ kb; clear k0 k1 kb; (go_simp <;> with_reducible rfl))); simp only [Act.put, List.setIfInBounds_toArray, List.set_cons_zero, List.set_cons_succ])
              refine run_end ?_
              refine jtwo 6 10 (by kernel_rfl) ?_ ?_
              · refine jop_callv 6 stc6 (some 109) (fun v Z => ∃ hu : Sv, v = .tuple #[.agg (stC hu T), .int .i64 0] ∧ At w (OB [(w.heap.size, cfC c, TCf), (px, stC hx S, TSt), (py, stC hy S, TSt), (pt, stC ht T, TSt)] (STS [(hu, T), (ht, T), (hx, S), (hy, S)] emp)) Z) 14 #[.agg (cfC c), .agg (stC hy S), .agg (evA ⟨f0, f1, f2, f3, f4, f5, f6, f7⟩)] rfl rfl (by rfl) (by go_simp <;> with_reducible rfl) ((oraapply (e := ⟨f0, f1, f2, f3, f4, f5, f6, f7⟩) emp_good q19 (i := 2) rfl HS1.out HA.out.1 HA.out.2).mono fun _ _ ⟨hu, e1, z⟩ => ⟨_, e1, hu, rfl, z⟩) (fun v Z ⟨hu, _, z⟩ => And.intro (OB.at z (i := 0) rfl) (And.intro (OB.at z (i := 2) rfl) (AlR.of z))) ?_
                rintro v V20 ⟨hu, rfl, q20⟩
                simp only [Act.put, List.setIfInBounds_toArray, List.set_cons_zero, List.set_cons_succ]
                have hSq20 := And.intro (OB.at q20 (i := 0) rfl) (And.intro (OB.at q20 (i := 2) rfl) (AlR.of q20))
                refine run_go [(7, stc7, (some 102)), (8, stc8, (some 110)), (9, stc9, (some 111))] (by kernel_rfl) ?_
                iterate 3 (refine run_take ?_ rfl rfl (fun _ _ _ h => h) (Or.inl ⟨by rfl, ?_⟩) hSq20 ?_; rotate_left; (· (intro w0' hy0; obtain ⟨k0, k1, kb⟩ := hy0; have e0 := k0.cell; have e1 := k1.cell; obtain ⟨x0, x1, x2, x3, x4, x5, x6, x7⟩ := HEl.out _ kb; clear k0 k1 kb; (go_simp <;> with_reducible rfl))); simp only [Act.put, List.setIfInBounds_toArray, List.set_cons_zero, List.set_cons_succ])
                refine run_end ?_
                have q21 := OB.hold (STS.good emp_good) q20 stZ TSt rfl
                refine held_one 10 stc10 (some 23) (.pointer (some ⟨V20.heap.size, 0, none⟩)) (V20.alloc (.cells stZ TSt)) (by kernel_rfl) rfl rfl (by rfl) (by go_simp <;> with_reducible rfl) (And.intro (OB.at q21 (i := 0) rfl) (And.intro (OB.at q21 (i := 2) rfl) (AlR.of q21))) ?_
                simp only [Act.put, List.setIfInBounds_toArray, List.set_cons_zero, List.set_cons_succ]
                generalize V20.alloc (.cells stZ TSt) = V21 at *
                generalize V20.heap.size = pu at *
                have kp := OB.at q21 (i := 4) rfl
                have ep := kp.cell
                have gp := kp.froz
                obtain ⟨V22, hZ, q22⟩ : ∃ Z, (((((((V21.setCell ⟨pu, 0, none⟩ (.int .i64 T.b)).setCell ⟨pu, 1, none⟩ (.int .i64 T.e)).setCell ⟨pu, 2, none⟩ (.int .i64 T.n)).setCell ⟨pu, 3, none⟩ (.slice hu.u T.us.length hu.uc)).setCell ⟨pu, 4, none⟩ (.slice hu.s T.ss.length hu.sc)).setCell ⟨pu, 5, none⟩ (.slice hu.p T.ad.length hu.pc)).setCell ⟨pu, 6, none⟩ (.slice hu.i T.sp.length hu.ic)) = Z ∧ At w (OB [(w.heap.size, cfC c, TCf), (px, stC hx S, TSt), (py, stC hy S, TSt), (pt, stC ht T, TSt), (pu, stC hu T, TSt)] (STS [(hu, T), (ht, T), (hx, S), (hy, S)] emp)) Z := ⟨_, rfl, OB.put7 (STS.good emp_good) q21 (i := 4) rfl (.int .i64 T.b) (.int .i64 T.e) (.int .i64 T.n) (.slice hu.u T.us.length hu.uc) (.slice hu.s T.ss.length hu.sc) (.slice hu.p T.ad.length hu.pc) (.slice hu.i T.sp.length hu.ic)⟩
                refine held_void 11 stc11 V22 (by kernel_rfl) rfl (by rfl) (by go_simp <;> with_reducible rfl) (And.intro (OB.at q22 (i := 0) rfl) (And.intro (OB.at q22 (i := 2) rfl) (AlR.of q22))) ?_
                simp only [Act.put, List.setIfInBounds_toArray, List.set_cons_zero, List.set_cons_succ]
                clear ep gp kp hZ
                refine run_go [(12, stc12, (some 24))] (by kernel_rfl) ?_
                iterate 1 (refine run_take ?_ rfl rfl (fun _ _ _ h => h) (Or.inl ⟨by rfl, ?_⟩) (And.intro (OB.at q22 (i := 0) rfl) (And.intro (OB.at q22 (i := 2) rfl) (AlR.of q22))) ?_; rotate_left; (· (intro w0' hy0; obtain ⟨k0, k1, kb⟩ := hy0; have e0 := k0.cell; have e1 := k1.cell; obtain ⟨x0, x1, x2, x3, x4, x5, x6, x7⟩ := HEl.out _ kb; clear k0 k1 kb; (go_simp <;> with_reducible rfl))); simp only [Act.put, List.setIfInBounds_toArray, List.set_cons_zero, List.set_cons_succ])
                refine run_end ?_
                refine wpAnyH_done (by kernel_rfl) ?_ _
                exact hK pu hu V22 q22
              · have q20 := OB.hold (STS.good emp_good) q19 stZ TSt rfl
                refine jop_one 10 stc10 (some 23) (.pointer (some ⟨Y2.heap.size, 0, none⟩)) (Y2.alloc (.cells stZ TSt)) rfl rfl (by rfl) (by go_simp <;> with_reducible rfl) (And.intro (OB.at q20 (i := 0) rfl) (And.intro (OB.at q20 (i := 2) rfl) (AlR.of q20))) ?_
                simp only [Act.put, List.setIfInBounds_toArray, List.set_cons_zero, List.set_cons_succ]
                generalize Y2.alloc (.cells stZ TSt) = V20 at *
                generalize Y2.heap.size = pu at *
                refine held_callv 6 stc6 (some 109) (fun v Z => ∃ hu : Sv, v = .tuple #[.agg (stC hu T), .int .i64 0] ∧ At w (OB [(w.heap.size, cfC c, TCf), (px, stC hx S, TSt), (py, stC hy S, TSt), (pt, stC ht T, TSt), (pu, stZ, TSt)] (STS [(hu, T), (ht, T), (hx, S), (hy, S)] emp)) Z) 14 #[.agg (cfC c), .agg (stC hy S), .agg (evA ⟨f0, f1, f2, f3, f4, f5, f6, f7⟩)] (by kernel_rfl) rfl rfl (by rfl) (by go_simp <;> with_reducible rfl) ((oraapply (e := ⟨f0, f1, f2, f3, f4, f5, f6, f7⟩) emp_good q20 (i := 2) rfl HS1.out HA.out.1 HA.out.2).mono fun _ _ ⟨hu, e1, z⟩ => ⟨_, e1, hu, rfl, z⟩) (fun v Z ⟨hu, _, z⟩ => And.intro (OB.at z (i := 0) rfl) (And.intro (OB.at z (i := 2) rfl) (AlR.of z))) ?_
                rintro v V21 ⟨hu, rfl, q21⟩
                simp only [Act.put, List.setIfInBounds_toArray, List.set_cons_zero, List.set_cons_succ]
                have hSq21 := And.intro (OB.at q21 (i := 0) rfl) (And.intro (OB.at q21 (i := 2) rfl) (AlR.of q21))
                refine run_go [(7, stc7, (some 102)), (8, stc8, (some 110)), (9, stc9, (some 111))] (by kernel_rfl) ?_
                iterate 3 (refine run_take ?_ rfl rfl (fun _ _ _ h => h) (Or.inl ⟨by rfl, ?_⟩) hSq21 ?_; rotate_left; (· (intro w0' hy0; obtain ⟨k0, k1, kb⟩ := hy0; have e0 := k0.cell; have e1 := k1.cell; obtain ⟨x0, x1, x2, x3, x4, x5, x6, x7⟩ := HEl.out _ kb; clear k0 k1 kb; (go_simp <;> with_reducible rfl))); simp only [Act.put, List.setIfInBounds_toArray, List.set_cons_zero, List.set_cons_succ])
                refine run_end ?_
                have kp := OB.at q21 (i := 4) rfl
                have ep := kp.cell
                have gp := kp.froz
                obtain ⟨V22, hZ, q22⟩ : ∃ Z, (((((((V21.setCell ⟨pu, 0, none⟩ (.int .i64 T.b)).setCell ⟨pu, 1, none⟩ (.int .i64 T.e)).setCell ⟨pu, 2, none⟩ (.int .i64 T.n)).setCell ⟨pu, 3, none⟩ (.slice hu.u T.us.length hu.uc)).setCell ⟨pu, 4, none⟩ (.slice hu.s T.ss.length hu.sc)).setCell ⟨pu, 5, none⟩ (.slice hu.p T.ad.length hu.pc)).setCell ⟨pu, 6, none⟩ (.slice hu.i T.sp.length hu.ic)) = Z ∧ At w (OB [(w.heap.size, cfC c, TCf), (px, stC hx S, TSt), (py, stC hy S, TSt), (pt, stC ht T, TSt), (pu, stC hu T, TSt)] (STS [(hu, T), (ht, T), (hx, S), (hy, S)] emp)) Z := ⟨_, rfl, OB.put7 (STS.good emp_good) q21 (i := 4) rfl (.int .i64 T.b) (.int .i64 T.e) (.int .i64 T.n) (.slice hu.u T.us.length hu.uc) (.slice hu.s T.ss.length hu.sc) (.slice hu.p T.ad.length hu.pc) (.slice hu.i T.sp.length hu.ic)⟩
                refine held_void 11 stc11 V22 (by kernel_rfl) rfl (by rfl) (by go_simp <;> with_reducible rfl) (And.intro (OB.at q22 (i := 0) rfl) (And.intro (OB.at q22 (i := 2) rfl) (AlR.of q22))) ?_
                simp only [Act.put, List.setIfInBounds_toArray, List.set_cons_zero, List.set_cons_succ]
                clear ep gp kp hZ
                refine run_go [(12, stc12, (some 24))] (by kernel_rfl) ?_
                iterate 1 (refine run_take ?_ rfl rfl (fun _ _ _ h => h) (Or.inl ⟨by rfl, ?_⟩) (And.intro (OB.at q22 (i := 0) rfl) (And.intro (OB.at q22 (i := 2) rfl) (AlR.of q22))) ?_; rotate_left; (· (intro w0' hy0; obtain ⟨k0, k1, kb⟩ := hy0; have e0 := k0.cell; have e1 := k1.cell; obtain ⟨x0, x1, x2, x3, x4, x5, x6, x7⟩ := HEl.out _ kb; clear k0 k1 kb; (go_simp <;> with_reducible rfl))); simp only [Act.put, List.setIfInBounds_toArray, List.set_cons_zero, List.set_cons_succ])
                refine run_end ?_
                refine wpAnyH_done (by kernel_rfl) ?_ _
                exact hK pu hu V22 q22
            case h2 =>
              intro pu hu Zu qu
              clear qt
              have fqu1 := (OB.at qu (i := 1) rfl).cell
              have fqu2 := (OB.at qu (i := 2) rfl).cell
              have fqu3 := (OB.at qu (i := 3) rfl).cell
              have fqu4 := (OB.at qu (i := 4) rfl).cell
              go_wp2_with (first
                | (go_at_call 9; first
                  | ((with_reducible refine (olsame emp_good qu (STS.at qu (i := 1) rfl HTM.out) (STS.at qu (i := 0) rfl HTM.out) (decide_eq_true rfl)).mono ?_); rintro r wq ⟨rfl, q1, -⟩; have fq11 := (OB.at q1 (i := 1) rfl).cell; have fq12 := (OB.at q1 (i := 2) rfl).cell; have fq13 := (OB.at q1 (i := 3) rfl).cell; have fq14 := (OB.at q1 (i := 4) rfl).cell)
                  | ((with_reducible refine (olsame emp_good q1 (STS.at q1 (i := 2) rfl HSM.out) (STS.at q1 (i := 3) rfl HSM.out) (decide_eq_true rfl)).mono ?_); rintro r wq ⟨rfl, q2, -⟩; have fq21 := (OB.at q2 (i := 1) rfl).cell; have fq22 := (OB.at q2 (i := 2) rfl).cell; have fq23 := (OB.at q2 (i := 3) rfl).cell; have fq24 := (OB.at q2 (i := 4) rfl).cell)
                  | ((with_reducible refine (olsame emp_good q4 (STS.at q4 (i := 2) rfl HSM.out) (STS.at q4 (i := 3) rfl HSM.out) (decide_eq_true rfl)).mono ?_); rintro r wq ⟨rfl, q5, -⟩; have fq51 := (OB.at q5 (i := 1) rfl).cell; have fq52 := (OB.at q5 (i := 2) rfl).cell; have fq54 := (OB.at q5 (i := 4) rfl).cell; have fq55 := (OB.at q5 (i := 5) rfl).cell; have g1 := (OB.at q5 (i := 1) rfl).froz; have g2 := (OB.at q5 (i := 2) rfl).froz; have l1 := (OB.at q5 (i := 1) rfl).lt; have l2 := (OB.at q5 (i := 2) rfl).lt; have l4 := (OB.at q5 (i := 4) rfl).lt; have q6a := OB.put7 (STS.good emp_good) q5 (i := 1) rfl (.int .i64 T.b) (.int .i64 T.e) (.int .i64 T.n) (.slice hv.u T.us.length hv.uc) (.slice hv.s T.ss.length hv.sc) (.slice hv.p T.ad.length hv.pc) (.slice hv.i T.sp.length hv.ic); have m4 := (OB.at q6a (i := 4) rfl).cell; have m2 := (OB.at q6a (i := 2) rfl).cell; have n2 := (OB.at q6a (i := 2) rfl).froz))
                | (go_at_call 10; (with_reducible refine (lnum _ _).mono ?_); rintro r wn ⟨rfl, rfl⟩)
                | (go_at_call 12; (with_reducible refine (olcopy emp_good q2 (STS.at q2 (i := 1) rfl HTM.out)).mono ?_); rintro r w3 ⟨hv, rfl, qa⟩; have q3 : At w (OB [(w.heap.size, cfC c, TCf), (px, stC hx S, TSt), (py, stC hy S, TSt), (pt, stC ht T, TSt), (pu, stC hu T, TSt), (w3.heap.size, stC hv T, TSt)] (STS [(hv, T), (hu, T), (ht, T), (hx, S), (hy, S)] emp)) (w3.alloc (.cells (stC hv T) TSt)) := OB.hold (STS.good emp_good) qa (stC hv T) TSt rfl; clear qa; have fq31 := (OB.at q3 (i := 1) rfl).cell; have fq32 := (OB.at q3 (i := 2) rfl).cell; have fq33 := (OB.at q3 (i := 3) rfl).cell; have fq34 := (OB.at q3 (i := 4) rfl).cell; have fq35 := (OB.at q3 (i := 5) rfl).cell)
                | (go_at_call 15; (with_reducible refine (lspoil (OB.good (STS.good emp_good)) (STS.out q3 (i := 2) rfl) HLT.out.1 HLT.out.2.1 HLT.out.2.2.1 HLT.out.2.2.2).mono ?_); rintro r w4 ⟨rfl, q4⟩; have fq41 := (OB.at q4 (i := 1) rfl).cell; have fq42 := (OB.at q4 (i := 2) rfl).cell; have fq44 := (OB.at q4 (i := 4) rfl).cell; have fq45 := (OB.at q4 (i := 5) rfl).cell))
              have q6 := OB.put7 (STS.good emp_good) q6a (i := 2) rfl (.int .i64 T.b) (.int .i64 T.e) (.int .i64 T.n) (.slice hu.u T.us.length hu.uc) (.slice hu.s T.ss.length hu.sc) (.slice hu.p T.ad.length hu.pc) (.slice hu.i T.sp.length hu.ic)
              have q7 : At w (OB [(w.heap.size, cfC c, TCf), (px, stC hv T, TSt), (py, stC hu T, TSt)] (STS [(hv, T), (hu, T)] emp)) _ := STS.drop 2 rfl (STS.drop 3 rfl (OB.drop 3 rfl (OB.drop 4 rfl (OB.drop 5 rfl q6))))
              have HQ7 := Lib.hid q7
              clear q6 q7
              go_roundw
              case rel => exact ⟨i + 1, T, hv, hu, by omega, by omega, by go_num, HN.out, (show Aside _ from HQ7.out)⟩
              case measure => simp [intOf]; omega
        · have hrn : (r == 0) = false := by simpa using hr0
          clear hT hr hsm hr0
          go_wp2
          refine st_merge (Φ := fun (pt : Nat) (ht : Sv) Z => At w (OB [(w.heap.size, cfC c, TCf), (px, stC hx S, TSt), (py, stC hy S, TSt), (pt, stC ht T, TSt)] (STS [(ht, T), (hx, S), (hy, S)] emp)) Z) (K := ?K4) ?h1 ?h2
          case h1 =>
            intro hK
            refine region_held (S := fun Z => Blk Z w.heap.size (cfC c) ∧ Blk Z px (stC hx S) ∧ AlR w Z) 13 [false, false, false, false, false, false, false, false, false, false, false, false, false] rfl rfl (by kernel_rfl) fun Y hW => ?_
            have q3 := OB.lay (STS.good emp_good) q (us_drew wr)
            rw [← hW] at q3
            have hSq3 := And.intro (OB.at q3 (i := 0) rfl) (And.intro (OB.at q3 (i := 1) rfl) (AlR.of q3))
            clear hW
            refine run_go [(0, stb0, (some 93)), (1, stb1, (some 94)), (2, stb2, (some 95)), (3, stb3, (some 96)), (4, stb4, (some 97)), (5, stb5, (some 98))] (by kernel_rfl) ?_
            iterate 6 (refine run_take ?_ rfl rfl (fun _ _ _ h => h) (Or.inl ⟨by rfl, ?_⟩) hSq3 ?_; rotate_left; (· (intro w0' hy0; obtain ⟨k0, k1, kb⟩ := hy0; have e0 := k0.cell; have e1 := k1.cell; obtain ⟨x0, x1, x2, x3, x4, x5, x6, x7⟩ := HEl.out _ kb; clear k0 k1 kb; (go_simp <;> with_reducible rfl))); simp only [Act.put, List.setIfInBounds_toArray, List.set_cons_zero, List.set_cons_succ])
            refine run_end ?_
            refine jtwo 6 10 (by kernel_rfl) ?_ ?_
            · refine jop_callv 6 stb6 (some 99) (fun v Z => ∃ ht : Sv, v = .tuple #[.agg (stC ht T), .int .i64 r] ∧ At w (OB [(w.heap.size, cfC c, TCf), (px, stC hx S, TSt), (py, stC hy S, TSt)] (STS [(ht, T), (hx, S), (hy, S)] emp)) Z) 13 #[.agg (cfC c), .agg (stC hx S), .agg (evA ⟨f0, f1, f2, f3, f4, f5, f6, f7⟩)] rfl rfl (by rfl) (by go_simp <;> with_reducible rfl) ((P.oapply (e := ⟨f0, f1, f2, f3, f4, f5, f6, f7⟩) emp_good q3 (i := 0) rfl HS1.out HA.out.1 HA.out.2).mono fun _ _ ⟨ht, e1, z⟩ => ⟨_, e1, ht, rfl, z⟩) (fun v Z ⟨ht, _, z⟩ => And.intro (OB.at z (i := 0) rfl) (And.intro (OB.at z (i := 1) rfl) (AlR.of z))) ?_
              rintro v V4 ⟨ht, rfl, q4⟩
              simp only [Act.put, List.setIfInBounds_toArray, List.set_cons_zero, List.set_cons_succ]
              have hSq4 := And.intro (OB.at q4 (i := 0) rfl) (And.intro (OB.at q4 (i := 1) rfl) (AlR.of q4))
              refine run_go [(7, stb7, (some 92)), (8, stb8, (some 100)), (9, stb9, (some 101))] (by kernel_rfl) ?_
              iterate 3 (refine run_take ?_ rfl rfl (fun _ _ _ h => h) (Or.inl ⟨by rfl, ?_⟩) hSq4 ?_; rotate_left; (· (intro w0' hy0; obtain ⟨k0, k1, kb⟩ := hy0; have e0 := k0.cell; have e1 := k1.cell; obtain ⟨x0, x1, x2, x3, x4, x5, x6, x7⟩ := HEl.out _ kb; clear k0 k1 kb; (go_simp <;> with_reducible rfl))); simp only [Act.put, List.setIfInBounds_toArray, List.set_cons_zero, List.set_cons_succ])
              refine run_end ?_
              have q5 := OB.hold (STS.good emp_good) q4 stZ TSt rfl
              refine held_one 10 stb10 (some 21) (.pointer (some ⟨V4.heap.size, 0, none⟩)) (V4.alloc (.cells stZ TSt)) (by kernel_rfl) rfl rfl (by rfl) (by go_simp <;> with_reducible rfl) (And.intro (OB.at q5 (i := 0) rfl) (And.intro (OB.at q5 (i := 1) rfl) (AlR.of q5))) ?_
              simp only [Act.put, List.setIfInBounds_toArray, List.set_cons_zero, List.set_cons_succ]
              generalize V4.alloc (.cells stZ TSt) = V5 at *
              generalize V4.heap.size = pt at *
              have kp := OB.at q5 (i := 3) rfl
              have ep := kp.cell
              have gp := kp.froz
              obtain ⟨V6, hZ, q6⟩ : ∃ Z, (((((((V5.setCell ⟨pt, 0, none⟩ (.int .i64 T.b)).setCell ⟨pt, 1, none⟩ (.int .i64 T.e)).setCell ⟨pt, 2, none⟩ (.int .i64 T.n)).setCell ⟨pt, 3, none⟩ (.slice ht.u T.us.length ht.uc)).setCell ⟨pt, 4, none⟩ (.slice ht.s T.ss.length ht.sc)).setCell ⟨pt, 5, none⟩ (.slice ht.p T.ad.length ht.pc)).setCell ⟨pt, 6, none⟩ (.slice ht.i T.sp.length ht.ic)) = Z ∧ At w (OB [(w.heap.size, cfC c, TCf), (px, stC hx S, TSt), (py, stC hy S, TSt), (pt, stC ht T, TSt)] (STS [(ht, T), (hx, S), (hy, S)] emp)) Z := ⟨_, rfl, OB.put7 (STS.good emp_good) q5 (i := 3) rfl (.int .i64 T.b) (.int .i64 T.e) (.int .i64 T.n) (.slice ht.u T.us.length ht.uc) (.slice ht.s T.ss.length ht.sc) (.slice ht.p T.ad.length ht.pc) (.slice ht.i T.sp.length ht.ic)⟩
              refine held_void 11 stb11 V6 (by kernel_rfl) rfl (by rfl) (by go_simp <;> with_reducible rfl) (And.intro (OB.at q6 (i := 0) rfl) (And.intro (OB.at q6 (i := 1) rfl) (AlR.of q6))) ?_
              simp only [Act.put, List.setIfInBounds_toArray, List.set_cons_zero, List.set_cons_succ]
              clear ep gp kp hZ
              refine run_go [(12, stb12, (some 22))] (by kernel_rfl) ?_
              iterate 1 (refine run_take ?_ rfl rfl (fun _ _ _ h => h) (Or.inl ⟨by rfl, ?_⟩) (And.intro (OB.at q6 (i := 0) rfl) (And.intro (OB.at q6 (i := 1) rfl) (AlR.of q6))) ?_; rotate_left; (· (intro w0' hy0; obtain ⟨k0, k1, kb⟩ := hy0; have e0 := k0.cell; have e1 := k1.cell; obtain ⟨x0, x1, x2, x3, x4, x5, x6, x7⟩ := HEl.out _ kb; clear k0 k1 kb; (go_simp <;> with_reducible rfl))); simp only [Act.put, List.setIfInBounds_toArray, List.set_cons_zero, List.set_cons_succ])
              refine run_end ?_
              refine wpAnyH_done (by kernel_rfl) ?_ _
              exact hK pt ht V6 q6
            · have q4 := OB.hold (STS.good emp_good) q3 stZ TSt rfl
              refine jop_one 10 stb10 (some 21) (.pointer (some ⟨Y.heap.size, 0, none⟩)) (Y.alloc (.cells stZ TSt)) rfl rfl (by rfl) (by go_simp <;> with_reducible rfl) (And.intro (OB.at q4 (i := 0) rfl) (And.intro (OB.at q4 (i := 1) rfl) (AlR.of q4))) ?_
              simp only [Act.put, List.setIfInBounds_toArray, List.set_cons_zero, List.set_cons_succ]
              generalize Y.alloc (.cells stZ TSt) = V4 at *
              generalize Y.heap.size = pt at *
              refine held_callv 6 stb6 (some 99) (fun v Z => ∃ ht : Sv, v = .tuple #[.agg (stC ht T), .int .i64 r] ∧ At w (OB [(w.heap.size, cfC c, TCf), (px, stC hx S, TSt), (py, stC hy S, TSt), (pt, stZ, TSt)] (STS [(ht, T), (hx, S), (hy, S)] emp)) Z) 13 #[.agg (cfC c), .agg (stC hx S), .agg (evA ⟨f0, f1, f2, f3, f4, f5, f6, f7⟩)] (by kernel_rfl) rfl rfl (by rfl) (by go_simp <;> with_reducible rfl) ((P.oapply (e := ⟨f0, f1, f2, f3, f4, f5, f6, f7⟩) emp_good q4 (i := 0) rfl HS1.out HA.out.1 HA.out.2).mono fun _ _ ⟨ht, e1, z⟩ => ⟨_, e1, ht, rfl, z⟩) (fun v Z ⟨ht, _, z⟩ => And.intro (OB.at z (i := 0) rfl) (And.intro (OB.at z (i := 1) rfl) (AlR.of z))) ?_
              rintro v V5 ⟨ht, rfl, q5⟩
              simp only [Act.put, List.setIfInBounds_toArray, List.set_cons_zero, List.set_cons_succ]
              have hSq5 := And.intro (OB.at q5 (i := 0) rfl) (And.intro (OB.at q5 (i := 1) rfl) (AlR.of q5))
              refine run_go [(7, stb7, (some 92)), (8, stb8, (some 100)), (9, stb9, (some 101))] (by kernel_rfl) ?_
              iterate 3 (refine run_take ?_ rfl rfl (fun _ _ _ h => h) (Or.inl ⟨by rfl, ?_⟩) hSq5 ?_; rotate_left; (· (intro w0' hy0; obtain ⟨k0, k1, kb⟩ := hy0; have e0 := k0.cell; have e1 := k1.cell; obtain ⟨x0, x1, x2, x3, x4, x5, x6, x7⟩ := HEl.out _ kb; clear k0 k1 kb; (go_simp <;> with_reducible rfl))); simp only [Act.put, List.setIfInBounds_toArray, List.set_cons_zero, List.set_cons_succ])
              refine run_end ?_
              have kp := OB.at q5 (i := 3) rfl
              have ep := kp.cell
              have gp := kp.froz
              obtain ⟨V6, hZ, q6⟩ : ∃ Z, (((((((V5.setCell ⟨pt, 0, none⟩ (.int .i64 T.b)).setCell ⟨pt, 1, none⟩ (.int .i64 T.e)).setCell ⟨pt, 2, none⟩ (.int .i64 T.n)).setCell ⟨pt, 3, none⟩ (.slice ht.u T.us.length ht.uc)).setCell ⟨pt, 4, none⟩ (.slice ht.s T.ss.length ht.sc)).setCell ⟨pt, 5, none⟩ (.slice ht.p T.ad.length ht.pc)).setCell ⟨pt, 6, none⟩ (.slice ht.i T.sp.length ht.ic)) = Z ∧ At w (OB [(w.heap.size, cfC c, TCf), (px, stC hx S, TSt), (py, stC hy S, TSt), (pt, stC ht T, TSt)] (STS [(ht, T), (hx, S), (hy, S)] emp)) Z := ⟨_, rfl, OB.put7 (STS.good emp_good) q5 (i := 3) rfl (.int .i64 T.b) (.int .i64 T.e) (.int .i64 T.n) (.slice ht.u T.us.length ht.uc) (.slice ht.s T.ss.length ht.sc) (.slice ht.p T.ad.length ht.pc) (.slice ht.i T.sp.length ht.ic)⟩
              refine held_void 11 stb11 V6 (by kernel_rfl) rfl (by rfl) (by go_simp <;> with_reducible rfl) (And.intro (OB.at q6 (i := 0) rfl) (And.intro (OB.at q6 (i := 1) rfl) (AlR.of q6))) ?_
              simp only [Act.put, List.setIfInBounds_toArray, List.set_cons_zero, List.set_cons_succ]
              clear ep gp kp hZ
              refine run_go [(12, stb12, (some 22))] (by kernel_rfl) ?_
              iterate 1 (refine run_take ?_ rfl rfl (fun _ _ _ h => h) (Or.inl ⟨by rfl, ?_⟩) (And.intro (OB.at q6 (i := 0) rfl) (And.intro (OB.at q6 (i := 1) rfl) (AlR.of q6))) ?_; rotate_left; (· (intro w0' hy0; obtain ⟨k0, k1, kb⟩ := hy0; have e0 := k0.cell; have e1 := k1.cell; obtain ⟨x0, x1, x2, x3, x4, x5, x6, x7⟩ := HEl.out _ kb; clear k0 k1 kb; (go_simp <;> with_reducible rfl))); simp only [Act.put, List.setIfInBounds_toArray, List.set_cons_zero, List.set_cons_succ])
              refine run_end ?_
              refine wpAnyH_done (by kernel_rfl) ?_ _
              exact hK pt ht V6 q6
          case h2 =>
            intro pt ht Zt qt
            clear q
            have e0 := (OB.at qt (i := 0) rfl).cell
            clear e0
            go_wp2
            refine st_merge (Φ := fun (pu : Nat) (hu : Sv) Z => At w (OB [(w.heap.size, cfC c, TCf), (px, stC hx S, TSt), (py, stC hy S, TSt), (pt, stC ht T, TSt), (pu, stC hu T, TSt)] (STS [(hu, T), (ht, T), (hx, S), (hy, S)] emp)) Z) (K := ?K3) ?h1 ?h2
            case h1 =>
              intro hK
              refine region_held (S := fun Z => Blk Z w.heap.size (cfC c) ∧ Blk Z py (stC hy S) ∧ AlR w Z) 13 [false, false, false, false, false, false, false, false, false, false, false, false, false] rfl rfl (by kernel_rfl) fun Y2 hW => ?_
              have q19 := OB.lay (STS.good emp_good) qt (us_drew Zt)
              rw [← hW] at q19
              have hSq19 := And.intro (OB.at q19 (i := 0) rfl) (And.intro (OB.at q19 (i := 2) rfl) (AlR.of q19))
              clear hW
              refine run_go [(0, stc0, (some 103)), (1, stc1, (some 104)), (2, stc2, (some 105)), (3, stc3, (some 106)), (4, stc4, (some 107)), (5, stc5, (some 108))] (by kernel_rfl) ?_
              iterate 6 (refine run_take ?_ rfl rfl (fun _ _ _ h => h) (Or.inl ⟨by rfl, ?_⟩) hSq19 ?_; rotate_left; (· (intro w0' hy0; obtain ⟨k0, k1, kb⟩ := hy0; have e0 := k0.cell; have e1 := k1.cell; obtain ⟨x0, x1, x2, x3, x4, x5, x6, x7⟩ := HEl.out _ kb; clear k0 k1 kb; (go_simp <;> with_reducible rfl))); simp only [Act.put, List.setIfInBounds_toArray, List.set_cons_zero, List.set_cons_succ])
              refine run_end ?_
              refine jtwo 6 10 (by kernel_rfl) ?_ ?_
              · refine jop_callv 6 stc6 (some 109) (fun v Z => ∃ hu : Sv, v = .tuple #[.agg (stC hu T), .int .i64 r] ∧ At w (OB [(w.heap.size, cfC c, TCf), (px, stC hx S, TSt), (py, stC hy S, TSt), (pt, stC ht T, TSt)] (STS [(hu, T), (ht, T), (hx, S), (hy, S)] emp)) Z) 14 #[.agg (cfC c), .agg (stC hy S), .agg (evA ⟨f0, f1, f2, f3, f4, f5, f6, f7⟩)] rfl rfl (by rfl) (by go_simp <;> with_reducible rfl) ((oraapply (e := ⟨f0, f1, f2, f3, f4, f5, f6, f7⟩) emp_good q19 (i := 2) rfl HS1.out HA.out.1 HA.out.2).mono fun _ _ ⟨hu, e1, z⟩ => ⟨_, e1, hu, rfl, z⟩) (fun v Z ⟨hu, _, z⟩ => And.intro (OB.at z (i := 0) rfl) (And.intro (OB.at z (i := 2) rfl) (AlR.of z))) ?_
                rintro v V20 ⟨hu, rfl, q20⟩
                simp only [Act.put, List.setIfInBounds_toArray, List.set_cons_zero, List.set_cons_succ]
                have hSq20 := And.intro (OB.at q20 (i := 0) rfl) (And.intro (OB.at q20 (i := 2) rfl) (AlR.of q20))
                refine run_go [(7, stc7, (some 102)), (8, stc8, (some 110)), (9, stc9, (some 111))] (by kernel_rfl) ?_
                iterate 3 (refine run_take ?_ rfl rfl (fun _ _ _ h => h) (Or.inl ⟨by rfl, ?_⟩) hSq20 ?_; rotate_left; (· (intro w0' hy0; obtain ⟨k0, k1, kb⟩ := hy0; have e0 := k0.cell; have e1 := k1.cell; obtain ⟨x0, x1, x2, x3, x4, x5, x6, x7⟩ := HEl.out _ kb; clear k0 k1 kb; (go_simp <;> with_reducible rfl))); simp only [Act.put, List.setIfInBounds_toArray, List.set_cons_zero, List.set_cons_succ])
                refine run_end ?_
                have q21 := OB.hold (STS.good emp_good) q20 stZ TSt rfl
                refine held_one 10 stc10 (some 23) (.pointer (some ⟨V20.heap.size, 0, none⟩)) (V20.alloc (.cells stZ TSt)) (by kernel_rfl) rfl rfl (by rfl) (by go_simp <;> with_reducible rfl) (And.intro (OB.at q21 (i := 0) rfl) (And.intro (OB.at q21 (i := 2) rfl) (AlR.of q21))) ?_
                simp only [Act.put, List.setIfInBounds_toArray, List.set_cons_zero, List.set_cons_succ]
                generalize V20.alloc (.cells stZ TSt) = V21 at *
                generalize V20.heap.size = pu at *
                have kp := OB.at q21 (i := 4) rfl
                have ep := kp.cell
                have gp := kp.froz
                obtain ⟨V22, hZ, q22⟩ : ∃ Z, (((((((V21.setCell ⟨pu, 0, none⟩ (.int .i64 T.b)).setCell ⟨pu, 1, none⟩ (.int .i64 T.e)).setCell ⟨pu, 2, none⟩ (.int .i64 T.n)).setCell ⟨pu, 3, none⟩ (.slice hu.u T.us.length hu.uc)).setCell ⟨pu, 4, none⟩ (.slice hu.s T.ss.length hu.sc)).setCell ⟨pu, 5, none⟩ (.slice hu.p T.ad.length hu.pc)).setCell ⟨pu, 6, none⟩ (.slice hu.i T.sp.length hu.ic)) = Z ∧ At w (OB [(w.heap.size, cfC c, TCf), (px, stC hx S, TSt), (py, stC hy S, TSt), (pt, stC ht T, TSt), (pu, stC hu T, TSt)] (STS [(hu, T), (ht, T), (hx, S), (hy, S)] emp)) Z := ⟨_, rfl, OB.put7 (STS.good emp_good) q21 (i := 4) rfl (.int .i64 T.b) (.int .i64 T.e) (.int .i64 T.n) (.slice hu.u T.us.length hu.uc) (.slice hu.s T.ss.length hu.sc) (.slice hu.p T.ad.length hu.pc) (.slice hu.i T.sp.length hu.ic)⟩
                refine held_void 11 stc11 V22 (by kernel_rfl) rfl (by rfl) (by go_simp <;> with_reducible rfl) (And.intro (OB.at q22 (i := 0) rfl) (And.intro (OB.at q22 (i := 2) rfl) (AlR.of q22))) ?_
                simp only [Act.put, List.setIfInBounds_toArray, List.set_cons_zero, List.set_cons_succ]
                clear ep gp kp hZ
                refine run_go [(12, stc12, (some 24))] (by kernel_rfl) ?_
                iterate 1 (refine run_take ?_ rfl rfl (fun _ _ _ h => h) (Or.inl ⟨by rfl, ?_⟩) (And.intro (OB.at q22 (i := 0) rfl) (And.intro (OB.at q22 (i := 2) rfl) (AlR.of q22))) ?_; rotate_left; (· (intro w0' hy0; obtain ⟨k0, k1, kb⟩ := hy0; have e0 := k0.cell; have e1 := k1.cell; obtain ⟨x0, x1, x2, x3, x4, x5, x6, x7⟩ := HEl.out _ kb; clear k0 k1 kb; (go_simp <;> with_reducible rfl))); simp only [Act.put, List.setIfInBounds_toArray, List.set_cons_zero, List.set_cons_succ])
                refine run_end ?_
                refine wpAnyH_done (by kernel_rfl) ?_ _
                exact hK pu hu V22 q22
              · have q20 := OB.hold (STS.good emp_good) q19 stZ TSt rfl
                refine jop_one 10 stc10 (some 23) (.pointer (some ⟨Y2.heap.size, 0, none⟩)) (Y2.alloc (.cells stZ TSt)) rfl rfl (by rfl) (by go_simp <;> with_reducible rfl) (And.intro (OB.at q20 (i := 0) rfl) (And.intro (OB.at q20 (i := 2) rfl) (AlR.of q20))) ?_
                simp only [Act.put, List.setIfInBounds_toArray, List.set_cons_zero, List.set_cons_succ]
                generalize Y2.alloc (.cells stZ TSt) = V20 at *
                generalize Y2.heap.size = pu at *
                refine held_callv 6 stc6 (some 109) (fun v Z => ∃ hu : Sv, v = .tuple #[.agg (stC hu T), .int .i64 r] ∧ At w (OB [(w.heap.size, cfC c, TCf), (px, stC hx S, TSt), (py, stC hy S, TSt), (pt, stC ht T, TSt), (pu, stZ, TSt)] (STS [(hu, T), (ht, T), (hx, S), (hy, S)] emp)) Z) 14 #[.agg (cfC c), .agg (stC hy S), .agg (evA ⟨f0, f1, f2, f3, f4, f5, f6, f7⟩)] (by kernel_rfl) rfl rfl (by rfl) (by go_simp <;> with_reducible rfl) ((oraapply (e := ⟨f0, f1, f2, f3, f4, f5, f6, f7⟩) emp_good q20 (i := 2) rfl HS1.out HA.out.1 HA.out.2).mono fun _ _ ⟨hu, e1, z⟩ => ⟨_, e1, hu, rfl, z⟩) (fun v Z ⟨hu, _, z⟩ => And.intro (OB.at z (i := 0) rfl) (And.intro (OB.at z (i := 2) rfl) (AlR.of z))) ?_
                rintro v V21 ⟨hu, rfl, q21⟩
                simp only [Act.put, List.setIfInBounds_toArray, List.set_cons_zero, List.set_cons_succ]
                have hSq21 := And.intro (OB.at q21 (i := 0) rfl) (And.intro (OB.at q21 (i := 2) rfl) (AlR.of q21))
                refine run_go [(7, stc7, (some 102)), (8, stc8, (some 110)), (9, stc9, (some 111))] (by kernel_rfl) ?_
                iterate 3 (refine run_take ?_ rfl rfl (fun _ _ _ h => h) (Or.inl ⟨by rfl, ?_⟩) hSq21 ?_; rotate_left; (· (intro w0' hy0; obtain ⟨k0, k1, kb⟩ := hy0; have e0 := k0.cell; have e1 := k1.cell; obtain ⟨x0, x1, x2, x3, x4, x5, x6, x7⟩ := HEl.out _ kb; clear k0 k1 kb; (go_simp <;> with_reducible rfl))); simp only [Act.put, List.setIfInBounds_toArray, List.set_cons_zero, List.set_cons_succ])
                refine run_end ?_
                have kp := OB.at q21 (i := 4) rfl
                have ep := kp.cell
                have gp := kp.froz
                obtain ⟨V22, hZ, q22⟩ : ∃ Z, (((((((V21.setCell ⟨pu, 0, none⟩ (.int .i64 T.b)).setCell ⟨pu, 1, none⟩ (.int .i64 T.e)).setCell ⟨pu, 2, none⟩ (.int .i64 T.n)).setCell ⟨pu, 3, none⟩ (.slice hu.u T.us.length hu.uc)).setCell ⟨pu, 4, none⟩ (.slice hu.s T.ss.length hu.sc)).setCell ⟨pu, 5, none⟩ (.slice hu.p T.ad.length hu.pc)).setCell ⟨pu, 6, none⟩ (.slice hu.i T.sp.length hu.ic)) = Z ∧ At w (OB [(w.heap.size, cfC c, TCf), (px, stC hx S, TSt), (py, stC hy S, TSt), (pt, stC ht T, TSt), (pu, stC hu T, TSt)] (STS [(hu, T), (ht, T), (hx, S), (hy, S)] emp)) Z := ⟨_, rfl, OB.put7 (STS.good emp_good) q21 (i := 4) rfl (.int .i64 T.b) (.int .i64 T.e) (.int .i64 T.n) (.slice hu.u T.us.length hu.uc) (.slice hu.s T.ss.length hu.sc) (.slice hu.p T.ad.length hu.pc) (.slice hu.i T.sp.length hu.ic)⟩
                refine held_void 11 stc11 V22 (by kernel_rfl) rfl (by rfl) (by go_simp <;> with_reducible rfl) (And.intro (OB.at q22 (i := 0) rfl) (And.intro (OB.at q22 (i := 2) rfl) (AlR.of q22))) ?_
                simp only [Act.put, List.setIfInBounds_toArray, List.set_cons_zero, List.set_cons_succ]
                clear ep gp kp hZ
                refine run_go [(12, stc12, (some 24))] (by kernel_rfl) ?_
                iterate 1 (refine run_take ?_ rfl rfl (fun _ _ _ h => h) (Or.inl ⟨by rfl, ?_⟩) (And.intro (OB.at q22 (i := 0) rfl) (And.intro (OB.at q22 (i := 2) rfl) (AlR.of q22))) ?_; rotate_left; (· (intro w0' hy0; obtain ⟨k0, k1, kb⟩ := hy0; have e0 := k0.cell; have e1 := k1.cell; obtain ⟨x0, x1, x2, x3, x4, x5, x6, x7⟩ := HEl.out _ kb; clear k0 k1 kb; (go_simp <;> with_reducible rfl))); simp only [Act.put, List.setIfInBounds_toArray, List.set_cons_zero, List.set_cons_succ])
                refine run_end ?_
                refine wpAnyH_done (by kernel_rfl) ?_ _
                exact hK pu hu V22 q22
            case h2 =>
              intro pu hu Zu qu
              clear qt
              have fqu1 := (OB.at qu (i := 1) rfl).cell
              have fqu2 := (OB.at qu (i := 2) rfl).cell
              have fqu3 := (OB.at qu (i := 3) rfl).cell
              have fqu4 := (OB.at qu (i := 4) rfl).cell
              go_wp2_with (first
                | (go_at_call 9; first
                  | ((with_reducible refine (olsame emp_good qu (STS.at qu (i := 1) rfl HTM.out) (STS.at qu (i := 0) rfl HTM.out) (decide_eq_true rfl)).mono ?_); rintro r wq ⟨rfl, q1, -⟩; have fq11 := (OB.at q1 (i := 1) rfl).cell; have fq12 := (OB.at q1 (i := 2) rfl).cell; have fq13 := (OB.at q1 (i := 3) rfl).cell; have fq14 := (OB.at q1 (i := 4) rfl).cell)
                  | ((with_reducible refine (olsame emp_good q1 (STS.at q1 (i := 2) rfl HSM.out) (STS.at q1 (i := 3) rfl HSM.out) (decide_eq_true rfl)).mono ?_); rintro r wq ⟨rfl, q2, -⟩; have fq21 := (OB.at q2 (i := 1) rfl).cell; have fq22 := (OB.at q2 (i := 2) rfl).cell; have fq23 := (OB.at q2 (i := 3) rfl).cell; have fq24 := (OB.at q2 (i := 4) rfl).cell))
                | (go_at_call 10; (with_reducible refine (lnum _ _).mono ?_); rintro r wn ⟨rfl, rfl⟩))
              have q7 : At w (OB [(w.heap.size, cfC c, TCf), (px, stC hx S, TSt), (py, stC hy S, TSt)] (STS [(hx, S), (hy, S)] emp)) _ := STS.drop 0 rfl (STS.drop 0 rfl (OB.drop 3 rfl (OB.drop 4 rfl q2)))
              have HQ7 := Lib.hid q7
              clear q7
              go_roundw
              case rel => exact ⟨i + 1, S, hx, hy, by omega, by omega, by go_num, HSM.out.le (by omega), (show Aside _ from HQ7.out)⟩
              case measure => simp [intOf]; omega
      · have hcond : ¬ ((i : Int) < (n : Int) ∧ (i : Int) < 60) := by omega
        have HQ := Lib.hid q
        clear q hsm
        by_cases h1 : (i : Int) < (n : Int)
        · have h2 : ¬ (i : Int) < 60 := fun c => hcond ⟨h1, c⟩
          clear hcond
          go_wp2_with (go_at_call 16; (with_reducible refine (awake20 P _).mono ?_); rintro r w9 ⟨rfl, hb⟩)
          go_ret
          exact ⟨rfl, (OB.lay (STS.good emp_good) HQ.out hb).bel⟩
        · clear hcond
          go_wp2_with (go_at_call 16; (with_reducible refine (awake20 P _).mono ?_); rintro r w9 ⟨rfl, hb⟩)
          go_ret
          exact ⟨rfl, (OB.lay (STS.good emp_good) HQ.out hb).bel⟩
end Go.Proofs.YtopkcaflmpjhgaaGreat
