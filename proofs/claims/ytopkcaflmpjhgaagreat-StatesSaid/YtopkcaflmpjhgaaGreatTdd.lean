/- Package state's told: lease. Conditions: the rows' sizes. -/
import Derived.Test.YtopkcaflmpjhgaaGreatBta
import Derived.Test.YtopkcaflmpjhgaaGreatBsp
namespace Go.Proofs.YtopkcaflmpjhgaaGreat
open Go Go.RowKit Go.Maps

abbrev tlt0 : Oper := { dst := some 39, op := Op.move (Operand.tmp 5), type := 119, pos := "state.go:148", after := #[], guard := none }
abbrev tlt1 : Oper := { dst := some 40, op := Op.nilCheck (Operand.tmp 39), type := 0, pos := "state.go:148", after := #[{ on := 0, ground := Ground.data }], guard := none }
abbrev tlt2 : Oper := { dst := some 41, op := Op.fieldAddr 29 (Operand.tmp 40) 5, type := 0, pos := "state.go:148", after := #[{ on := 1, ground := Ground.data }], guard := none }
abbrev tlt3 : Oper := { dst := some 42, op := Op.load 26 (Operand.tmp 41), type := 26, pos := "state.go:148", after := #[{ on := 2, ground := Ground.data }], guard := none }
abbrev tlt4 : Oper := { dst := some 43, op := Op.fieldAddr 45 (Operand.tmp 3) 3, type := 0, pos := "state.go:148", after := #[], guard := none }
abbrev tlt5 : Oper := { dst := some 44, op := Op.load 3 (Operand.tmp 43), type := 3, pos := "state.go:148", after := #[{ on := 4, ground := Ground.data }], guard := none }
abbrev tlt6 : Oper := { dst := some 45, op := Op.fieldAddr 45 (Operand.tmp 3) 1, type := 0, pos := "state.go:148", after := #[], guard := none }
abbrev tlt7 : Oper := { dst := some 46, op := Op.load 3 (Operand.tmp 45), type := 3, pos := "state.go:148", after := #[{ on := 6, ground := Ground.data }], guard := none }
abbrev tlt8 : Oper := { dst := some 47, op := Op.call { callee := Callee.value (Operand.func 81), args := #[Operand.tmp 42, Operand.tmp 44, Operand.tmp 46], argTypes := #[26, 3, 3] }, type := 50, pos := "state.go:148", after := #[{ on := 3, ground := Ground.data }, { on := 5, ground := Ground.data }, { on := 7, ground := Ground.data }], guard := none }
abbrev tlt9 : Oper := { dst := some 38, op := Op.move (Operand.tmp 47), type := 50, pos := "state.go:148", after := #[{ on := 8, ground := Ground.data }], guard := none }
abbrev tlt10 : Oper := { dst := some 48, op := Op.extract (Operand.tmp 38) 0, type := 26, pos := "state.go:148", after := #[{ on := 9, ground := Ground.data }], guard := none }
abbrev tlt11 : Oper := { dst := some 49, op := Op.extract (Operand.tmp 38) 1, type := 31, pos := "state.go:148", after := #[{ on := 9, ground := Ground.data }, { on := 12, ground := Ground.gcOnly Departure.lateStores }], guard := none }
abbrev tlt12 : Oper := { dst := some 6, op := Op.assign (Operand.tmp 48), type := 26, pos := "state.go:148", after := #[{ on := 10, ground := Ground.data }, { on := 8, ground := Ground.chain }, { on := 0, ground := Ground.phase }, { on := 1, ground := Ground.phase }, { on := 2, ground := Ground.phase }, { on := 3, ground := Ground.phase }, { on := 4, ground := Ground.phase }, { on := 5, ground := Ground.phase }, { on := 6, ground := Ground.phase }, { on := 7, ground := Ground.phase }, { on := 8, ground := Ground.phase }, { on := 9, ground := Ground.phase }, { on := 10, ground := Ground.phase }, { on := 11, ground := Ground.textOnly Departure.lateStores }], guard := none }
abbrev tlt13 : Oper := { dst := some 7, op := Op.assign (Operand.tmp 49), type := 31, pos := "state.go:148", after := #[{ on := 11, ground := Ground.data }, { on := 12, ground := Ground.chain }, { on := 0, ground := Ground.phase }, { on := 1, ground := Ground.phase }, { on := 2, ground := Ground.phase }, { on := 3, ground := Ground.phase }, { on := 4, ground := Ground.phase }, { on := 5, ground := Ground.phase }, { on := 6, ground := Ground.phase }, { on := 7, ground := Ground.phase }, { on := 8, ground := Ground.phase }, { on := 9, ground := Ground.phase }, { on := 10, ground := Ground.phase }, { on := 11, ground := Ground.phase }, { on := 12, ground := Ground.phase }], guard := none }
abbrev tle0 : Oper := { dst := some 56, op := Op.move (Operand.tmp 5), type := 119, pos := "state.go:153", after := #[], guard := none }
abbrev tle1 : Oper := { dst := some 57, op := Op.move (Operand.tmp 5), type := 119, pos := "state.go:153", after := #[], guard := none }
abbrev tle2 : Oper := { dst := some 58, op := Op.nilCheck (Operand.tmp 57), type := 0, pos := "state.go:153", after := #[{ on := 1, ground := Ground.data }], guard := none }
abbrev tle3 : Oper := { dst := some 59, op := Op.fieldAddr 29 (Operand.tmp 58) 4, type := 0, pos := "state.go:153", after := #[{ on := 2, ground := Ground.data }], guard := none }
abbrev tle4 : Oper := { dst := some 60, op := Op.load 25 (Operand.tmp 59), type := 25, pos := "state.go:153", after := #[{ on := 3, ground := Ground.data }], guard := none }
abbrev tle5 : Oper := { dst := some 61, op := Op.fieldAddr 45 (Operand.tmp 3) 2, type := 0, pos := "state.go:153", after := #[], guard := none }
abbrev tle6 : Oper := { dst := some 62, op := Op.load 3 (Operand.tmp 61), type := 3, pos := "state.go:153", after := #[{ on := 5, ground := Ground.data }], guard := none }
abbrev tle7 : Oper := { dst := some 63, op := Op.fieldAddr 45 (Operand.tmp 3) 1, type := 0, pos := "state.go:153", after := #[], guard := none }
abbrev tle8 : Oper := { dst := some 64, op := Op.load 3 (Operand.tmp 63), type := 3, pos := "state.go:153", after := #[{ on := 7, ground := Ground.data }], guard := none }
abbrev tle9 : Oper := { dst := some 65, op := Op.fieldAddr 45 (Operand.tmp 3) 3, type := 0, pos := "state.go:153", after := #[], guard := none }
abbrev tle10 : Oper := { dst := some 66, op := Op.load 3 (Operand.tmp 65), type := 3, pos := "state.go:153", after := #[{ on := 9, ground := Ground.data }], guard := none }
abbrev tle11 : Oper := { dst := some 67, op := Op.fieldAddr 45 (Operand.tmp 3) 7, type := 0, pos := "state.go:153", after := #[], guard := none }
abbrev tle12 : Oper := { dst := some 68, op := Op.load 3 (Operand.tmp 67), type := 3, pos := "state.go:153", after := #[{ on := 11, ground := Ground.data }], guard := none }
abbrev tle13 : Oper := { dst := some 69, op := Op.build 66 #[(0, Operand.tmp 62), (1, Operand.tmp 64), (2, Operand.tmp 66), (3, Operand.tmp 68)], type := 66, pos := "state.go:153", after := #[{ on := 6, ground := Ground.data }, { on := 8, ground := Ground.data }, { on := 10, ground := Ground.data }, { on := 12, ground := Ground.data }], guard := none }
abbrev tle14 : Oper := { dst := some 70, op := Op.buildSlice 25 1 #[(0, Operand.tmp 69)], type := 25, pos := "state.go:153", after := #[{ on := 13, ground := Ground.data }], guard := none }
abbrev tle15 : Oper := { dst := some 71, op := Op.call { callee := Callee.builtin Builtin.append, args := #[Operand.tmp 60, Operand.tmp 70], argTypes := #[25, 25] }, type := 25, pos := "state.go:153", after := #[{ on := 4, ground := Ground.data }, { on := 14, ground := Ground.data }], guard := none }
abbrev tle16 : Oper := { dst := some 72, op := Op.nilCheck (Operand.tmp 56), type := 0, pos := "state.go:153", after := #[{ on := 0, ground := Ground.data }, { on := 0, ground := Ground.phase }, { on := 1, ground := Ground.phase }, { on := 2, ground := Ground.phase }, { on := 3, ground := Ground.phase }, { on := 4, ground := Ground.phase }, { on := 5, ground := Ground.phase }, { on := 6, ground := Ground.phase }, { on := 7, ground := Ground.phase }, { on := 8, ground := Ground.phase }, { on := 9, ground := Ground.phase }, { on := 10, ground := Ground.phase }, { on := 11, ground := Ground.phase }, { on := 12, ground := Ground.phase }, { on := 13, ground := Ground.phase }, { on := 14, ground := Ground.phase }, { on := 15, ground := Ground.phase }], guard := none }
abbrev tle17 : Oper := { dst := some 73, op := Op.fieldAddr 29 (Operand.tmp 72) 4, type := 0, pos := "state.go:153", after := #[{ on := 16, ground := Ground.data }, { on := 0, ground := Ground.phase }, { on := 1, ground := Ground.phase }, { on := 2, ground := Ground.phase }, { on := 3, ground := Ground.phase }, { on := 4, ground := Ground.phase }, { on := 5, ground := Ground.phase }, { on := 6, ground := Ground.phase }, { on := 7, ground := Ground.phase }, { on := 8, ground := Ground.phase }, { on := 9, ground := Ground.phase }, { on := 10, ground := Ground.phase }, { on := 11, ground := Ground.phase }, { on := 12, ground := Ground.phase }, { on := 13, ground := Ground.phase }, { on := 14, ground := Ground.phase }, { on := 15, ground := Ground.phase }], guard := none }
abbrev tle18 : Oper := { dst := none, op := Op.store 25 (Operand.tmp 73) (Operand.tmp 71), type := 0, pos := "state.go:153", after := #[{ on := 17, ground := Ground.data }, { on := 15, ground := Ground.data }, { on := 15, ground := Ground.chain }, { on := 0, ground := Ground.phase }, { on := 1, ground := Ground.phase }, { on := 2, ground := Ground.phase }, { on := 3, ground := Ground.phase }, { on := 4, ground := Ground.phase }, { on := 5, ground := Ground.phase }, { on := 6, ground := Ground.phase }, { on := 7, ground := Ground.phase }, { on := 8, ground := Ground.phase }, { on := 9, ground := Ground.phase }, { on := 10, ground := Ground.phase }, { on := 11, ground := Ground.phase }, { on := 12, ground := Ground.phase }, { on := 13, ground := Ground.phase }, { on := 14, ground := Ground.phase }, { on := 15, ground := Ground.phase }], guard := none }
section
variable {w0 W : World} {C : Ass} {p : Nat} {c : Cf} {h : Sv} {s : St} {m : Option Nat} {kind user session address ea eb ec tick : Int}
set_option maxRecDepth 100000 in
set_option maxHeartbeats 8000000 in
theorem tlease_a (hC : C.Good) (q : At w0 (TD p c h s m C) W) (hn : ¬ session = s.n) :
    Calls Tryz.prog 58 #[.pointer (some ⟨p, 0, none⟩), .agg (evA ⟨kind, user, session, address, ea, eb, ec, tick⟩)] W fun e w' => e = .returned (.bool false) ∧ At w0 C w' := by
  have hne : (session != s.n) = true := by simpa using hn
  have HQ := Lib.hid (At.lay1 (TD_good hC) q (.cells (evA ⟨kind, user, session, address, ea, eb, ec, tick⟩) TEv))
  have HK := Lib.hid (Blk.new W (evA ⟨kind, user, session, address, ea, eb, ec, tick⟩) TEv)
  clear q
  go_enter Tryz.func58, Tryz.ntmps58
  go_wp2
  generalize hW1 : W.alloc (.cells (evA ⟨kind, user, session, address, ea, eb, ec, tick⟩) TEv) = W1 at *
  have f1 := fun z : Wl W1 => (TD.blk (HQ.out.lay (TD_good hC) z.h)).cell
  have f2 := fun z : Wl W1 => (HK.out.step z.h).cell
  refine wp_region_wl W1 (Below.refl _ _) (by kernel_rfl) (by kernel_rfl) ?_
  repeat (go_big_quiet_step (fail))
  refine wpQuiet_nil ?_
  rintro _ ⟨⟨Z, hZ⟩, rfl⟩
  go_wp2
  go_ret
  exact ⟨rfl, TD.none (HQ.out.lay (TD_good hC) hZ)⟩
set_option maxRecDepth 100000 in
set_option maxHeartbeats 8000000 in
theorem tlease_b (hC : C.Good) (q : At w0 (TD p c h s m C) W) (hfu : s.us.length ≤ 1954687338263) (hn : session = s.n) (hx : usAt s.us user = none) :
    Calls Tryz.prog 58 #[.pointer (some ⟨p, 0, none⟩), .agg (evA ⟨kind, user, session, address, ea, eb, ec, tick⟩)] W fun e w' => e = .returned (.bool false) ∧ At w0 C w' := by
  have hne : (session != s.n) = false := by simpa using hn
  clear hn
  have HX : ixN (usAt s.us user) = -1 := by rw [hx]; rfl
  have HQ := Lib.hid (At.lay1 (TD_good hC) q (.cells (evA ⟨kind, user, session, address, ea, eb, ec, tick⟩) TEv))
  have HK := Lib.hid (Blk.new W (evA ⟨kind, user, session, address, ea, eb, ec, tick⟩) TEv)
  clear q
  go_enter Tryz.func58, Tryz.ntmps58
  go_wp2
  generalize hW1 : W.alloc (.cells (evA ⟨kind, user, session, address, ea, eb, ec, tick⟩) TEv) = W1 at *
  have f1 := fun z : Wl W1 => (TD.blk (HQ.out.lay (TD_good hC) z.h)).cell
  have f2 := fun z : Wl W1 => (HK.out.step z.h).cell
  refine wp_region_wl W1 (Below.refl _ _) (by kernel_rfl) (by kernel_rfl) ?_
  repeat (go_big_quiet_step (first | (go_at_call 77; exact Calls.wl (HX ▸ tuserat (TD.blk (HQ.out.lay (TD_good hC) (Wl.h _))) (TD.us (HQ.out.lay (TD_good hC) (Wl.h _)) hfu) user))))
  refine wpQuiet_nil ?_
  rintro _ ⟨⟨Z, hZ⟩, rfl⟩
  go_wp2
  go_ret
  exact ⟨rfl, TD.none (HQ.out.lay (TD_good hC) hZ)⟩
set_option maxRecDepth 100000 in
set_option maxHeartbeats 8000000 in
theorem tlease_c (hC : C.Good) (q : At w0 (TD p c h s m C) W) (hfu : s.us.length ≤ 1954687338263) (hn : session = s.n) {j : Nat} (hx : usAt s.us user = some j) (hf : c.ses ≤ (s.ss.length : Int)) :
    Calls Tryz.prog 58 #[.pointer (some ⟨p, 0, none⟩), .agg (evA ⟨kind, user, session, address, ea, eb, ec, tick⟩)] W fun e w' => e = .returned (.bool false) ∧ At w0 C w' := by
  have hne : (session != s.n) = false := by simpa using hn
  clear hn
  have HX : ixN (usAt s.us user) = (j : Int) := by rw [hx]; rfl
  have hj0 : decide ((j : Int) < 0) = false := decide_eq_false (by omega)
  have HQ := Lib.hid (At.lay1 (TD_good hC) q (.cells (evA ⟨kind, user, session, address, ea, eb, ec, tick⟩) TEv))
  have HK := Lib.hid (Blk.new W (evA ⟨kind, user, session, address, ea, eb, ec, tick⟩) TEv)
  clear q
  go_enter Tryz.func58, Tryz.ntmps58
  go_wp2
  generalize hW1 : W.alloc (.cells (evA ⟨kind, user, session, address, ea, eb, ec, tick⟩) TEv) = W1 at *
  have f1 := fun z : Wl W1 => (TD.blk (HQ.out.lay (TD_good hC) z.h)).cell
  have f2 := fun z : Wl W1 => (HK.out.step z.h).cell
  refine wp_region_wl W1 (Below.refl _ _) (by kernel_rfl) (by kernel_rfl) ?_
  repeat (go_big_quiet_step (first | (go_at_call 77; exact Calls.wl (HX ▸ tuserat (TD.blk (HQ.out.lay (TD_good hC) (Wl.h _))) (TD.us (HQ.out.lay (TD_good hC) (Wl.h _)) hfu) user))))
  refine wpQuiet_nil ?_
  rintro _ ⟨⟨Z, hZ⟩, rfl⟩
  go_wp2
  go_ret
  exact ⟨rfl, TD.none (HQ.out.lay (TD_good hC) hZ)⟩
set_option maxRecDepth 100000 in
set_option maxHeartbeats 16000000 in
theorem tlease_d (hC : C.Good) (q : At w0 (TD p c h s m C) W) (hfu : s.us.length ≤ 1954687338263) (_hfs : s.ss.length ≤ 4398046511099) (hfa : s.ad.length ≤ 5864062014800) (hn : session = s.n) {j : Nat} (hx : usAt s.us user = some j) (hf : (s.ss.length : Int) < c.ses) (hp0 : ptOk s.ad address user = false) :
    Calls Tryz.prog 58 #[.pointer (some ⟨p, 0, none⟩), .agg (evA ⟨kind, user, session, address, ea, eb, ec, tick⟩)] W fun e w' => e = .returned (.bool false) ∧ At w0 C w' := by
  obtain ⟨hu, huc, hs, hsc, hp, hpc, hi, hic⟩ := h
  have hne : (session != s.n) = false := by simpa using hn
  have HX : ixN (usAt s.us user) = (j : Int) := by rw [hx]; rfl
  have hj0 : decide ((j : Int) < 0) = false := decide_eq_false (by omega)
  have hf0 : decide (c.ses ≤ (s.ss.length : Int)) = false := decide_eq_false (by omega)
  have hf1 : ¬ c.ses ≤ (s.ss.length : Int) := by omega
  have HP := Lib.hid (fun (V : World) (D : Ass) (qv : At w0 (TD p c ⟨hu, huc, hs, hsc, hp, hpc, hi, hic⟩ s m D) V) => show Calls Tryz.prog 81 #[.slice hp s.ad.length hpc, .int .i64 address, .int .i64 user] V (PaOut V [] 1600) from by
    have := ptake (cap := hpc) (TD.pa qv hfa) hfa address user
    rwa [show ptL s.ad address user = [] by unfold ptL; rw [hp0]; rfl, show ptE s.ad address user = 1600 by unfold ptE; rw [hp0]; rfl] at this)
  clear hn hf
  have HQ := Lib.hid (TD.hold hC q (evA ⟨kind, user, session, address, ea, eb, ec, tick⟩) TEv)
  clear q
  go_enter Tryz.func58, Tryz.ntmps58
  go_wp2
  generalize hW1 : W.alloc (.cells (evA ⟨kind, user, session, address, ea, eb, ec, tick⟩) TEv) = W1 at *
  generalize W.heap.size = bx at *
  have f1 := fun z : Wl W1 => (TD.blk (HQ.out.lay (TD_good ((ownA_good _ _ _).star hC)) z.h)).cell
  have f2 := fun z : Wl W1 => (TD.ev (HQ.out.lay (TD_good ((ownA_good _ _ _).star hC)) z.h)).cell
  refine wp_region_wl W1 (Below.refl _ _) (by kernel_rfl) (by kernel_rfl) ?_
  repeat (go_big_quiet_step (first | (go_at_call 77; exact Calls.wl (HX ▸ tuserat (TD.blk (HQ.out.lay (TD_good ((ownA_good _ _ _).star hC)) (Wl.h _))) (TD.us (HQ.out.lay (TD_good ((ownA_good _ _ _).star hC)) (Wl.h _)) hfu) user))))
  refine wpQuiet_nil ?_
  rintro _ ⟨⟨Z, hZ⟩, rfl⟩
  have q2 := HQ.out.lay (TD_good ((ownA_good _ _ _).star hC)) hZ
  clear f1 f2 HQ hZ hW1
  go_wp2
  refine region_held (S := fun V => At w0 (TD p c ⟨hu, huc, hs, hsc, hp, hpc, hi, hic⟩ s m ((ownA bx (evA ⟨kind, user, session, address, ea, eb, ec, tick⟩) TEv).star C)) V) 14 [false, false, false, false, false, false, false, false, false, false, false, false, false, false] rfl rfl (by as_aux_lemma => kernel_rfl) fun V hW => ?_
  have hS : At w0 (TD p c ⟨hu, huc, hs, hsc, hp, hpc, hi, hic⟩ s m ((ownA bx (evA ⟨kind, user, session, address, ea, eb, ec, tick⟩) TEv).star C)) V := by rw [hW]; exact At.drewn q2 (TD_good ((ownA_good _ _ _).star hC))
  clear hW q2
  refine run_go [(0, tlt0, (some 39)), (1, tlt1, (some 40)), (2, tlt2, (some 41)), (3, tlt3, (some 42)), (4, tlt4, (some 43)), (5, tlt5, (some 44)), (6, tlt6, (some 45)), (7, tlt7, (some 46))] (by as_aux_lemma => kernel_rfl) ?_
  iterate 8 (refine run_take ?_ rfl rfl (fun _ _ _ h => h) (Or.inl ⟨by rfl, ?_⟩) hS ?_; rotate_left; (· (intro w0' hy0; have e1 := (TD.blk hy0).cell; have e2 := (TD.ev hy0).cell; (go_simp <;> with_reducible rfl))); simp only [Act.put, List.setIfInBounds_toArray, List.set_cons_zero, List.set_cons_succ])
  refine run_end ?_
  refine held_callv 8 tlt8 (some 47) (fun v Z => ∃ (a2 : Option Addr) (c2 : Nat), v = .tuple #[.slice a2 0 c2, .int .i64 1600] ∧ At w0 ((rowE TPa 3 (.slice a2 0 c2) 0 (paCells [])).star (TD p c ⟨hu, huc, hs, hsc, hp, hpc, hi, hic⟩ s m ((ownA bx (evA ⟨kind, user, session, address, ea, eb, ec, tick⟩) TEv).star C))) Z) 81 #[.slice hp s.ad.length hpc, .int .i64 address, .int .i64 user] (by as_aux_lemma => kernel_rfl) rfl rfl (by rfl) (by go_simp <;> with_reducible rfl) ((HP.out _ _ hS).mono fun e V2 ⟨a2, c2, e1, hT⟩ => ⟨_, e1, a2, c2, rfl, (At.add (TD_good ((ownA_good _ _ _).star hC)) hS (pa_made hT)).imp (row_front _ _)⟩) (fun v Z ⟨_, _, _, z⟩ => z.drop) ?_
  rintro v V2 ⟨a2, c2, rfl, q3⟩
  simp only [Act.put, List.setIfInBounds_toArray, List.set_cons_zero, List.set_cons_succ]
  have hS3 := q3.drop
  refine run_go [(9, tlt9, (some 38)), (10, tlt10, (some 48)), (11, tlt11, (some 49)), (12, tlt12, (some 6)), (13, tlt13, (some 7))] (by as_aux_lemma => kernel_rfl) ?_
  iterate 5 (refine run_take ?_ rfl rfl (fun _ _ _ h => h) (Or.inl ⟨by rfl, ?_⟩) hS3 ?_; rotate_left; (· (intro w0' hy0; have e1 := (TD.blk hy0).cell; have e2 := (TD.ev hy0).cell; (go_simp <;> with_reducible rfl))); simp only [Act.put, List.setIfInBounds_toArray, List.set_cons_zero, List.set_cons_succ])
  refine run_end ?_
  refine wpAnyH_done (by as_aux_lemma => kernel_rfl) ?_ _
  (try simp only [List.getElem_toArray, List.getElem_cons_succ, List.getElem_cons_zero, Act.put, List.setIfInBounds_toArray, List.set_cons_zero, List.set_cons_succ])
  clear hS hS3
  have f3 := (TD.blk q3.drop).froz
  have e3 := (TD.blk q3.drop).cell
  go_wp2
  go_ret
  exact ⟨rfl, (TD.none q3.drop).drop⟩
set_option maxRecDepth 100000 in
set_option maxHeartbeats 16000000 in
theorem tlease_e (hC : C.Good) (q : At w0 (TD p c h s m C) W) (hfu : s.us.length ≤ 1954687338263) (hfs : s.ss.length ≤ 4398046511099) (hfa : s.ad.length ≤ 5864062014800) (hn : session = s.n) {j : Nat} (hx : usAt s.us user = some j) (hf : (s.ss.length : Int) < c.ses) (hp0 : ptOk s.ad address user = true) (hn0 : 0 ≤ s.n) (hn1 : s.n ≤ 1073741823) :
    Calls Tryz.prog 58 #[.pointer (some ⟨p, 0, none⟩), .agg (evA ⟨kind, user, session, address, ea, eb, ec, tick⟩)] W fun e w' => e = .returned (.bool true) ∧ ∃ h m, At w0 (TD p c h { s with n := s.n + 1, ss := s.ss ++ [⟨session, user, address, tick⟩], ad := s.ad.set address.toNat ⟨true, user, 0⟩ } m C) w' := by
  obtain ⟨hu, huc, hs, hsc, hp, hpc, hi, hic⟩ := h
  have hne : (session != s.n) = false := by simpa using hn
  have HX : ixN (usAt s.us user) = (j : Int) := by rw [hx]; rfl
  have hj0 : decide ((j : Int) < 0) = false := decide_eq_false (by omega)
  have hf0 : decide (c.ses ≤ (s.ss.length : Int)) = false := decide_eq_false (by omega)
  have hf1 : ¬ c.ses ≤ (s.ss.length : Int) := by omega
  obtain ⟨L, hL⟩ : ∃ L, L = s.ad.set address.toNat ⟨true, user, 0⟩ := ⟨_, rfl⟩
  have HP := Lib.hid (fun (V : World) (D : Ass) (qv : At w0 (TD p c ⟨hu, huc, hs, hsc, hp, hpc, hi, hic⟩ s m D) V) => show Calls Tryz.prog 81 #[.slice hp s.ad.length hpc, .int .i64 address, .int .i64 user] V (PaOut V L 0) from by
    have := ptake (cap := hpc) (TD.pa qv hfa) hfa address user
    rwa [show ptL s.ad address user = L by unfold ptL; rw [hp0, hL]; rfl, show ptE s.ad address user = 0 by unfold ptE; rw [hp0]; rfl] at this)
  have hwn : IntKind.i64.wrap (s.n + 1) = s.n + 1 := by rw [IntKind.wrap_i64]; omega
  rw [← hL]
  clear hL
  clear hn hf
  have HQ := Lib.hid (TD.hold hC q (evA ⟨kind, user, session, address, ea, eb, ec, tick⟩) TEv)
  clear q
  go_enter Tryz.func58, Tryz.ntmps58
  go_wp2
  generalize hW1 : W.alloc (.cells (evA ⟨kind, user, session, address, ea, eb, ec, tick⟩) TEv) = W1 at *
  generalize W.heap.size = bx at *
  have f1 := fun z : Wl W1 => (TD.blk (HQ.out.lay (TD_good ((ownA_good _ _ _).star hC)) z.h)).cell
  have f2 := fun z : Wl W1 => (TD.ev (HQ.out.lay (TD_good ((ownA_good _ _ _).star hC)) z.h)).cell
  refine wp_region_wl W1 (Below.refl _ _) (by kernel_rfl) (by kernel_rfl) ?_
  repeat (go_big_quiet_step (first | (go_at_call 77; exact Calls.wl (HX ▸ tuserat (TD.blk (HQ.out.lay (TD_good ((ownA_good _ _ _).star hC)) (Wl.h _))) (TD.us (HQ.out.lay (TD_good ((ownA_good _ _ _).star hC)) (Wl.h _)) hfu) user))))
  refine wpQuiet_nil ?_
  rintro _ ⟨⟨Z, hZ⟩, rfl⟩
  have q2 := HQ.out.lay (TD_good ((ownA_good _ _ _).star hC)) hZ
  clear f1 f2 HQ hZ hW1
  go_wp2
  refine region_held (S := fun V => At w0 (TD p c ⟨hu, huc, hs, hsc, hp, hpc, hi, hic⟩ s m ((ownA bx (evA ⟨kind, user, session, address, ea, eb, ec, tick⟩) TEv).star C)) V) 14 [false, false, false, false, false, false, false, false, false, false, false, false, false, false] rfl rfl (by as_aux_lemma => kernel_rfl) fun V hW => ?_
  have hS : At w0 (TD p c ⟨hu, huc, hs, hsc, hp, hpc, hi, hic⟩ s m ((ownA bx (evA ⟨kind, user, session, address, ea, eb, ec, tick⟩) TEv).star C)) V := by rw [hW]; exact At.drewn q2 (TD_good ((ownA_good _ _ _).star hC))
  clear hW q2
  refine run_go [(0, tlt0, (some 39)), (1, tlt1, (some 40)), (2, tlt2, (some 41)), (3, tlt3, (some 42)), (4, tlt4, (some 43)), (5, tlt5, (some 44)), (6, tlt6, (some 45)), (7, tlt7, (some 46))] (by as_aux_lemma => kernel_rfl) ?_
  iterate 8 (refine run_take ?_ rfl rfl (fun _ _ _ h => h) (Or.inl ⟨by rfl, ?_⟩) hS ?_; rotate_left; (· (intro w0' hy0; have e1 := (TD.blk hy0).cell; have e2 := (TD.ev hy0).cell; (go_simp <;> with_reducible rfl))); simp only [Act.put, List.setIfInBounds_toArray, List.set_cons_zero, List.set_cons_succ])
  refine run_end ?_
  refine held_callv 8 tlt8 (some 47) (fun v Z => ∃ (a2 : Option Addr) (c2 : Nat), v = .tuple #[.slice a2 L.length c2, .int .i64 0] ∧ At w0 ((rowE TPa 3 (.slice a2 L.length c2) L.length (paCells L)).star (TD p c ⟨hu, huc, hs, hsc, hp, hpc, hi, hic⟩ s m ((ownA bx (evA ⟨kind, user, session, address, ea, eb, ec, tick⟩) TEv).star C))) Z) 81 #[.slice hp s.ad.length hpc, .int .i64 address, .int .i64 user] (by as_aux_lemma => kernel_rfl) rfl rfl (by rfl) (by go_simp <;> with_reducible rfl) ((HP.out _ _ hS).mono fun e V2 ⟨a2, c2, e1, hT⟩ => ⟨_, e1, a2, c2, rfl, (At.add (TD_good ((ownA_good _ _ _).star hC)) hS (pa_made hT)).imp (row_front _ _)⟩) (fun v Z ⟨_, _, _, z⟩ => z.drop) ?_
  rintro v V2 ⟨a2, c2, rfl, q3⟩
  simp only [Act.put, List.setIfInBounds_toArray, List.set_cons_zero, List.set_cons_succ]
  have hS3 := q3.drop
  refine run_go [(9, tlt9, (some 38)), (10, tlt10, (some 48)), (11, tlt11, (some 49)), (12, tlt12, (some 6)), (13, tlt13, (some 7))] (by as_aux_lemma => kernel_rfl) ?_
  iterate 5 (refine run_take ?_ rfl rfl (fun _ _ _ h => h) (Or.inl ⟨by rfl, ?_⟩) hS3 ?_; rotate_left; (· (intro w0' hy0; have e1 := (TD.blk hy0).cell; have e2 := (TD.ev hy0).cell; (go_simp <;> with_reducible rfl))); simp only [Act.put, List.setIfInBounds_toArray, List.set_cons_zero, List.set_cons_succ])
  refine run_end ?_
  refine wpAnyH_done (by as_aux_lemma => kernel_rfl) ?_ _
  (try simp only [List.getElem_toArray, List.getElem_cons_succ, List.getElem_cons_zero, Act.put, List.setIfInBounds_toArray, List.set_cons_zero, List.set_cons_succ])
  clear hS hS3
  have f3 := (TD.blk q3.drop).froz
  have e3 := (TD.blk q3.drop).cell
  have qc := TD.newP ((ownA_good _ _ _).star hC) rfl q3
  clear q3
  go_wp2
  have GR := Lib.hid (show ((ownA p (tdC c ⟨hu, huc, hs, hsc, a2, c2, hi, hic⟩ { s with ad := L } m) TTd).star ((spA m s.sp).star ((rowE TUs 9 (.slice hu s.us.length huc) s.us.length (usCells s.us)).star ((rowE TPa 3 (.slice a2 L.length c2) L.length (paCells L)).star ((rowE TIn 1 (.slice hi s.sp.length hic) s.sp.length (inCells s.sp)).star ((ownA bx (evA ⟨kind, user, session, address, ea, eb, ec, tick⟩) TEv).star C)))))).Good from (ownA_good _ _ _).star ((spA_good _ _).star ((rowE_good _ _ _ _ _).star ((rowE_good _ _ _ _ _).star ((rowE_good _ _ _ _ _).star ((ownA_good _ _ _).star hC))))))
  generalize V2.setCell ⟨p, 17, none⟩ (.slice a2 L.length c2) = V3 at *
  have qd := At.drewn qc (TD_good ((ownA_good _ _ _).star hC))
  clear qc e3 f3
  refine region_held (S := fun V => Blk V bx (evA ⟨kind, user, session, address, ea, eb, ec, tick⟩)) 19 [false, false, false, false, false, false, false, false, false, false, false, false, false, false, false, false, false, false, false] rfl rfl (by as_aux_lemma => kernel_rfl) fun V5 hW => ?_
  have q5 : At w0 ((rowE TSe 4 (.slice hs s.ss.length hsc) s.ss.length (seCells s.ss)).star ((ownA p (tdC c ⟨hu, huc, hs, hsc, a2, c2, hi, hic⟩ { s with ad := L } m) TTd).star ((spA m s.sp).star ((rowE TUs 9 (.slice hu s.us.length huc) s.us.length (usCells s.us)).star ((rowE TPa 3 (.slice a2 L.length c2) L.length (paCells L)).star ((rowE TIn 1 (.slice hi s.sp.length hic) s.sp.length (inCells s.sp)).star ((ownA bx (evA ⟨kind, user, session, address, ea, eb, ec, tick⟩) TEv).star C))))))) V5 := by rw [hW]; exact qd.imp TD.outS
  have hK5 : Blk V5 bx (evA ⟨kind, user, session, address, ea, eb, ec, tick⟩) := (by have k := q5.drop.drop.drop.drop.drop.drop.own; exact ⟨k.1, k.2.1, k.2.2⟩)
  have e5 := q5.drop.own.1
  clear hW qd
  refine run_go [(0, tle0, (some 56)), (1, tle1, (some 57)), (2, tle2, (some 58)), (3, tle3, (some 59)), (5, tle5, (some 61)), (6, tle6, (some 62)), (7, tle7, (some 63)), (8, tle8, (some 64)), (9, tle9, (some 65)), (10, tle10, (some 66)), (11, tle11, (some 67)), (12, tle12, (some 68)), (13, tle13, (some 69))] (by as_aux_lemma => kernel_rfl) ?_
  iterate 13 (refine run_take ?_ rfl rfl (fun _ _ _ h => h) (Or.inl ⟨by rfl, ?_⟩) hK5 ?_; rotate_left; (· (intro w0' hy0; have e2 := hy0.cell; (go_simp <;> with_reducible rfl))); simp only [Act.put, List.setIfInBounds_toArray, List.set_cons_zero, List.set_cons_succ])
  refine run_end ?_
  refine jtwo 4 14 (by as_aux_lemma => kernel_rfl) ?_ ?_
  · refine jop_one 4 tle4 (some 60) (.slice hs s.ss.length hsc) (V5) rfl rfl (by rfl) (by go_simp <;> with_reducible rfl) (hK5) ?_
    simp only [Act.put, List.setIfInBounds_toArray, List.set_cons_zero, List.set_cons_succ]
    have q6 := At.lay1 ((rowE_good _ _ _ _ _).star GR.out) q5 (.cells #[.int .i64 session, .int .i64 user, .int .i64 address, .int .i64 tick] TSe)
    have hK6 : Blk (V5.alloc (.cells #[.int .i64 session, .int .i64 user, .int .i64 address, .int .i64 tick] TSe)) bx (evA ⟨kind, user, session, address, ea, eb, ec, tick⟩) := (by have k := q6.drop.drop.drop.drop.drop.drop.own; exact ⟨k.1, k.2.1, k.2.2⟩)
    have g6 : SeAt (V5.alloc (.cells #[.int .i64 session, .int .i64 user, .int .i64 address, .int .i64 tick] TSe)) V5.heap.size 0 [⟨session, user, address, tick⟩] := seAt_lit V5 [⟨session, user, address, tick⟩]
    refine held_one 14 tle14 (some 70) (.slice (some ⟨V5.heap.size, 0, none⟩) 1 1) (V5.alloc (.cells #[.int .i64 session, .int .i64 user, .int .i64 address, .int .i64 tick] TSe)) (by as_aux_lemma => kernel_rfl) rfl rfl (by rfl) (by go_simp <;> with_reducible rfl) (hK6) ?_
    simp only [Act.put, List.setIfInBounds_toArray, List.set_cons_zero, List.set_cons_succ]
    generalize V5.alloc (.cells #[.int .i64 session, .int .i64 user, .int .i64 address, .int .i64 tick] TSe) = V6 at *
    generalize V5.heap.size = bn at *
    have e6 := q6.drop.own.1
    obtain ⟨a3, c3, V7, hrun, q7⟩ := se_grow (c := 1) GR.out q6 g6 rfl (by show s.ss.length + 1 ≤ _; omega) 25
    have hK7 : Blk V7 bx (evA ⟨kind, user, session, address, ea, eb, ec, tick⟩) := (by have k := q7.drop.drop.drop.drop.drop.drop.own; exact ⟨k.1, k.2.1, k.2.2⟩)
    refine held_one 15 tle15 (some 71) (.slice a3 (s.ss.length + 1) c3) V7 (by kernel_rfl) rfl rfl (by rfl) (se_exapp (.tmp 60) (.tmp 70) 25 rfl rfl rfl hrun) hK7 ?_
    simp only [Act.put, List.setIfInBounds_toArray, List.set_cons_zero, List.set_cons_succ]
    clear hrun
    have f7 := q7.drop.own.2.1
    have e7 := q7.drop.own.1
    refine run_go [(16, tle16, (some 72)), (17, tle17, (some 73))] (by as_aux_lemma => kernel_rfl) ?_
    iterate 2 (refine run_take ?_ rfl rfl (fun _ _ _ h => h) (Or.inl ⟨by rfl, ?_⟩) hK7 ?_; rotate_left; (· (intro w0' hy0; have e2 := hy0.cell; (go_simp <;> with_reducible rfl))); simp only [Act.put, List.setIfInBounds_toArray, List.set_cons_zero, List.set_cons_succ])
    refine run_end ?_
    have hlen : (s.ss ++ [(⟨session, user, address, tick⟩ : Se)]).length = s.ss.length + 1 := by simp
    rw [hlen] at q7
    have q8 := TD.newS ((ownA_good _ _ _).star hC) (s := { s with ad := L }) (h := ⟨hu, huc, hs, hsc, a2, c2, hi, hic⟩) (m := m) (c := c) (p := p) (L := s.ss ++ [⟨session, user, address, tick⟩]) hlen q7
    have hK8 := TD.ev q8
    refine held_void 18 tle18 (V7.setCell ⟨p, 16, none⟩ (.slice a3 (s.ss.length + 1) c3)) (by kernel_rfl) rfl (by rfl) (by go_simp <;> with_reducible rfl) hK8 ?_
    simp only [Act.put, List.setIfInBounds_toArray, List.set_cons_zero, List.set_cons_succ]
    generalize V7.setCell ⟨p, 16, none⟩ (.slice a3 (s.ss.length + 1) c3) = V8 at *
    refine wpAnyH_done (by as_aux_lemma => kernel_rfl) ?_ _
    (try simp only [List.getElem_toArray, List.getElem_cons_succ, List.getElem_cons_zero, Act.put, List.setIfInBounds_toArray, List.set_cons_zero, List.set_cons_succ])
    have e9 := (TD.blk q8).cell
    have f9 := (TD.blk q8).froz
    have HF := Lib.hid (TD.unhold (TD.num ((ownA_good _ _ _).star hC) q8).2.2)
    clear q8
    go_wp2
    go_ret
    exact ⟨rfl, _, _, HF.out⟩
  · have q6 := At.lay1 ((rowE_good _ _ _ _ _).star GR.out) q5 (.cells #[.int .i64 session, .int .i64 user, .int .i64 address, .int .i64 tick] TSe)
    have hK6 : Blk (V5.alloc (.cells #[.int .i64 session, .int .i64 user, .int .i64 address, .int .i64 tick] TSe)) bx (evA ⟨kind, user, session, address, ea, eb, ec, tick⟩) := (by have k := q6.drop.drop.drop.drop.drop.drop.own; exact ⟨k.1, k.2.1, k.2.2⟩)
    have g6 : SeAt (V5.alloc (.cells #[.int .i64 session, .int .i64 user, .int .i64 address, .int .i64 tick] TSe)) V5.heap.size 0 [⟨session, user, address, tick⟩] := seAt_lit V5 [⟨session, user, address, tick⟩]
    refine jop_one 14 tle14 (some 70) (.slice (some ⟨V5.heap.size, 0, none⟩) 1 1) (V5.alloc (.cells #[.int .i64 session, .int .i64 user, .int .i64 address, .int .i64 tick] TSe)) rfl rfl (by rfl) (by go_simp <;> with_reducible rfl) (hK6) ?_
    simp only [Act.put, List.setIfInBounds_toArray, List.set_cons_zero, List.set_cons_succ]
    generalize V5.alloc (.cells #[.int .i64 session, .int .i64 user, .int .i64 address, .int .i64 tick] TSe) = V6 at *
    generalize V5.heap.size = bn at *
    have e6 := q6.drop.own.1
    refine held_one 4 tle4 (some 60) (.slice hs s.ss.length hsc) (V6) (by as_aux_lemma => kernel_rfl) rfl rfl (by rfl) (by go_simp <;> with_reducible rfl) (hK6) ?_
    simp only [Act.put, List.setIfInBounds_toArray, List.set_cons_zero, List.set_cons_succ]
    obtain ⟨a3, c3, V7, hrun, q7⟩ := se_grow (c := 1) GR.out q6 g6 rfl (by show s.ss.length + 1 ≤ _; omega) 25
    have hK7 : Blk V7 bx (evA ⟨kind, user, session, address, ea, eb, ec, tick⟩) := (by have k := q7.drop.drop.drop.drop.drop.drop.own; exact ⟨k.1, k.2.1, k.2.2⟩)
    refine held_one 15 tle15 (some 71) (.slice a3 (s.ss.length + 1) c3) V7 (by kernel_rfl) rfl rfl (by rfl) (se_exapp (.tmp 60) (.tmp 70) 25 rfl rfl rfl hrun) hK7 ?_
    simp only [Act.put, List.setIfInBounds_toArray, List.set_cons_zero, List.set_cons_succ]
    clear hrun
    have f7 := q7.drop.own.2.1
    have e7 := q7.drop.own.1
    refine run_go [(16, tle16, (some 72)), (17, tle17, (some 73))] (by as_aux_lemma => kernel_rfl) ?_
    iterate 2 (refine run_take ?_ rfl rfl (fun _ _ _ h => h) (Or.inl ⟨by rfl, ?_⟩) hK7 ?_; rotate_left; (· (intro w0' hy0; have e2 := hy0.cell; (go_simp <;> with_reducible rfl))); simp only [Act.put, List.setIfInBounds_toArray, List.set_cons_zero, List.set_cons_succ])
    refine run_end ?_
    have hlen : (s.ss ++ [(⟨session, user, address, tick⟩ : Se)]).length = s.ss.length + 1 := by simp
    rw [hlen] at q7
    have q8 := TD.newS ((ownA_good _ _ _).star hC) (s := { s with ad := L }) (h := ⟨hu, huc, hs, hsc, a2, c2, hi, hic⟩) (m := m) (c := c) (p := p) (L := s.ss ++ [⟨session, user, address, tick⟩]) hlen q7
    have hK8 := TD.ev q8
    refine held_void 18 tle18 (V7.setCell ⟨p, 16, none⟩ (.slice a3 (s.ss.length + 1) c3)) (by kernel_rfl) rfl (by rfl) (by go_simp <;> with_reducible rfl) hK8 ?_
    simp only [Act.put, List.setIfInBounds_toArray, List.set_cons_zero, List.set_cons_succ]
    generalize V7.setCell ⟨p, 16, none⟩ (.slice a3 (s.ss.length + 1) c3) = V8 at *
    refine wpAnyH_done (by as_aux_lemma => kernel_rfl) ?_ _
    (try simp only [List.getElem_toArray, List.getElem_cons_succ, List.getElem_cons_zero, Act.put, List.setIfInBounds_toArray, List.set_cons_zero, List.set_cons_succ])
    have e9 := (TD.blk q8).cell
    have f9 := (TD.blk q8).froz
    have HF := Lib.hid (TD.unhold (TD.num ((ownA_good _ _ _).star hC) q8).2.2)
    clear q8
    go_wp2
    go_ret
    exact ⟨rfl, _, _, HF.out⟩
end
end Go.Proofs.YtopkcaflmpjhgaaGreat
