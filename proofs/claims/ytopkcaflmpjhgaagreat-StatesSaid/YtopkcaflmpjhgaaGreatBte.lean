/- Put together: Sdel, Tde, Tdf. Conditions: each theorem's own. -/
import Derived.Test.YtopkcaflmpjhgaaGreatBse
import Derived.Test.YtopkcaflmpjhgaaGreatBsp
import Derived.Test.YtopkcaflmpjhgaaGreatBta
import Derived.Test.YtopkcaflmpjhgaaGreatBlo
namespace Go.Proofs.YtopkcaflmpjhgaaGreat
open Go Go.RowKit

theorem se_zero (w : World) : (zeroValue TSe).run Tryz.prog w = .ok (.agg #[.int .i64 0, .int .i64 0, .int .i64 0, .int .i64 0]) w := by
  obtain ⟨i, hi, hz0, _, _⟩ := info_parts se_info
  simp [zeroValue, typeInfo, hi, hz0]
set_option maxRecDepth 100000 in
set_option maxHeartbeats 4000000 in
/-- slices.Delete of one element. -/
theorem sdelete {w0 w : World} {C : Ass} (hC : C.Good) {g c k m : Nat} {all : List Se} (hm : all.length = m + 1) (hk : k ≤ m) (hsm : m < 4398046511104)
    (hS : At w0 ((rowE TSe 4 (.slice (some ⟨g, 0, none⟩) (m + 1) c) all.length (seCells all)).star C) w) :
    Calls Tryz.prog 84 #[.slice (some ⟨g, 0, none⟩) (m + 1) c, .int .i64 (k : Int), .int .i64 ((k : Int) + 1)] w fun e w' => e = .returned (.slice (some ⟨g, 0, none⟩) m c) ∧ At w0 ((rowE TSe 4 (.slice (some ⟨g, 0, none⟩) m c) m (seCells (all.take k ++ all.drop (k + 1)))).star C) w' := by
  obtain ⟨i, hi, hz0, hz1, hz2⟩ := info_parts se_info
  have hle : m + 1 ≤ c := by
    rcases hS.erow.2 with ⟨e, _⟩ | ⟨g', c', cur, e, _, hg, hle, _⟩
    · simp at e
    · obtain ⟨rfl, e1, rfl⟩ : g = g' ∧ m + 1 = all.length ∧ c = c' := by simpa using e
      omega
  have hcut : seCells (all.take k) = (seCells all).take (k * 4) := by
    have h := seCells_app (all.take k) (all.drop k)
    rw [List.take_append_drop] at h
    rw [h, ← (show (seCells (all.take k)).length = k * 4 by rw [seCells_len, List.length_take]; omega), List.take_left]
  have hD : At w0 ((rowE TSe 4 (.slice (some ⟨g, 0, none⟩) (m + 1) c) (m + 1) (seCells all)).star C) w.drew := by
    rw [hm] at hS
    exact hS.lay ((rowE_good _ _ _ _ _).star hC) (se_drew w)
  have hrow := seAt_row (n := m + 1) (show At w0 ((rowE TSe 4 (.slice (some ⟨g, 0, none⟩) (m + 1) c) all.length (seCells all)).star C) w.drew by rw [hm]; exact hD)
  have hC1 := hD.rowCut (i := k) (by omega)
  rw [← hcut] at hC1
  have key : ∀ A : Addr, (c = k + 1 → A = ⟨g, 0, none⟩) → (c ≠ k + 1 → A = ⟨g, (k + 1) * 4, none⟩) → ∃ w5, (Builtin.append_ #[25, 25] 25 #[.slice (some ⟨g, 0, none⟩) k c, .slice (some A) (m - k) (c - (k + 1))]).run Tryz.prog w.drew = .ok (.slice (some ⟨g, 0, none⟩) m c) w5 ∧ At w0 ((rowE TSe 4 (.slice (some ⟨g, 0, none⟩) m c) m (seCells (all.take k ++ all.drop (k + 1)))).star C) w5 := by
    intro A hA1 hA2
    obtain ⟨w5, hr, h5⟩ := At.fits (P := Tryz.prog) (ty := 25) Tryz.underlying25 hi hz1 hC hC1 (a := A) (m := m - k) (c2 := c - (k + 1)) (news := seCells (all.drop (k + 1))) (by rw [seCells_len, List.length_drop, hm, show m + 1 - (k + 1) = m - k by omega]) (fun j u hu => by
      have hj : j < (seCells (all.drop (k + 1))).length := by
        rcases Nat.lt_or_ge j (seCells (all.drop (k + 1))).length with c1 | c1
        · exact c1
        · rw [List.getElem?_eq_none c1] at hu; cases hu
      rw [seCells_len, List.length_drop] at hj
      rw [hA2 (by omega), Addr.add_lit]
      have h := (seAt_drop hrow.1 (k := k + 1) (by omega)) j u hu
      rwa [Nat.zero_add] at h) (seCells_one _) (by omega)
    rw [show k + (m - k) = m by omega] at hr h5
    rw [seCells_app]
    exact ⟨w5, hr, h5⟩
  obtain ⟨A, hA, w5, hr5, h5⟩ : ∃ A : Addr, (if c = k + 1 then (some ⟨g, 0, none⟩ : Option Addr) else some ⟨g, (k + 1) * 4, none⟩) = some A ∧ ∃ w5, (Builtin.append_ #[25, 25] 25 #[.slice (some ⟨g, 0, none⟩) k c, .slice (some A) (m - k) (c - (k + 1))]).run Tryz.prog w.drew = .ok (.slice (some ⟨g, 0, none⟩) m c) w5 ∧ At w0 ((rowE TSe 4 (.slice (some ⟨g, 0, none⟩) m c) m (seCells (all.take k ++ all.drop (k + 1)))).star C) w5 := by
    by_cases e : c = k + 1
    · exact ⟨⟨g, 0, none⟩, if_pos e, key _ (fun _ => rfl) (fun n => absurd e n)⟩
    · exact ⟨⟨g, (k + 1) * 4, none⟩, if_neg e, key _ (fun n => absurd n e) (fun _ => rfl)⟩
  have hcl : ∀ ty, ∃ w', (Builtin.clear_ #[25] ty #[.slice (some ⟨g, m * 4, none⟩) 1 (c - m)]).run Tryz.prog w5 = .ok (.tuple #[]) w' ∧ At w0 ((rowE TSe 4 (.slice (some ⟨g, 0, none⟩) m c) m (seCells (all.take k ++ all.drop (k + 1)))).star C) w' := fun ty =>
    At.cleared (P := Tryz.prog) (vs := [.int .i64 0, .int .i64 0, .int .i64 0, .int .i64 0]) Tryz.underlying25 se_zero hC h5 (m := 0) (by kernel_rfl) rfl (by intro u hu; simp at hu; subst hu; rfl) (by omega)
  have HCL := Lib.hid hcl
  have HR := Lib.hid hr5
  have hkI : (k : Int) + 1 ≤ (m : Int) + 1 := by omega
  have hk1 : k + 1 ≤ c := by omega
  have hk0 : k ≤ c := by omega
  have hk01 : (0 : Int) ≤ (k : Int) + 1 := by omega
  have hkc : (k : Int) + 1 ≤ (c : Int) := by omega
  have hmc : (m : Int) + 1 ≤ (c : Int) := by omega
  clear hS hD hrow hC1 hcut key h5 hcl hr5 hi hz0 hz1 hz2
  go_enter Tryz.func84, Tryz.ntmps84
  go_wp2_with (fail)
  go_region_law (refine step_app_run rfl (.tmp 22) (.tmp 25) _ rfl rfl rfl HR.out ?_)
  obtain ⟨w6, hr6, h6⟩ := HCL.out 0
  have H6 := Lib.hid h6
  clear h6 HCL HR
  (try simp only [List.getElem_toArray, List.getElem_cons_succ, List.getElem_cons_zero, Act.put, List.setIfInBounds_toArray, List.set_cons_zero])
  go_wp2
  go_ret
  exact ⟨rfl, H6.out⟩
/-- The same, at a row of one's own. -/
theorem sdeleteT {w0 w : World} {C : Ass} (hC : C.Good) {g c k : Nat} {all L : List Se} (hk : k < all.length) (hsm : all.length ≤ 4398046511099) (hL : L = all.take k ++ all.drop (k + 1))
    (hS : At w0 ((rowE TSe 4 (.slice (some ⟨g, 0, none⟩) all.length c) all.length (seCells all)).star C) w) :
    Calls Tryz.prog 84 #[.slice (some ⟨g, 0, none⟩) all.length c, .int .i64 (k : Int), .int .i64 ((k : Int) + 1)] w fun e w' => e = .returned (.slice (some ⟨g, 0, none⟩) L.length c) ∧ At w0 ((rowE TSe 4 (.slice (some ⟨g, 0, none⟩) L.length c) L.length (seCells L)).star C) w' := by
  obtain ⟨m, hm⟩ : ∃ m, all.length = m + 1 := ⟨all.length - 1, by omega⟩
  have hl : L.length = m := by rw [hL, List.length_append, List.length_take, List.length_drop]; omega
  have hS' : At w0 ((rowE TSe 4 (.slice (some ⟨g, 0, none⟩) (m + 1) c) all.length (seCells all)).star C) w := by rw [← hm]; exact hS
  rw [hl, hm, hL]
  exact sdelete hC hm (by omega) (by omega) hS'
end Go.Proofs.YtopkcaflmpjhgaaGreat

namespace Go.Proofs.YtopkcaflmpjhgaaGreat
open Go Go.RowKit Go.Maps

abbrev tee0 : Oper := { dst := some 44, op := Op.move (Operand.tmp 5), type := 119, pos := "state.go:169", after := #[], guard := none }
abbrev tee1 : Oper := { dst := some 45, op := Op.nilCheck (Operand.tmp 44), type := 0, pos := "state.go:169", after := #[{ on := 0, ground := Ground.data }], guard := none }
abbrev tee2 : Oper := { dst := some 46, op := Op.fieldAddr 29 (Operand.tmp 45) 3, type := 0, pos := "state.go:169", after := #[{ on := 1, ground := Ground.data }], guard := none }
abbrev tee3 : Oper := { dst := some 47, op := Op.load 24 (Operand.tmp 46), type := 24, pos := "state.go:169", after := #[{ on := 2, ground := Ground.data }], guard := none }
abbrev tee4 : Oper := { dst := some 48, op := Op.move (Operand.tmp 8), type := 3, pos := "state.go:169", after := #[], guard := none }
abbrev tee5 : Oper := { dst := some 49, op := Op.move (Operand.tmp 5), type := 119, pos := "state.go:169", after := #[], guard := none }
abbrev tee6 : Oper := { dst := some 50, op := Op.nilCheck (Operand.tmp 49), type := 0, pos := "state.go:169", after := #[{ on := 5, ground := Ground.data }], guard := none }
abbrev tee7 : Oper := { dst := some 51, op := Op.fieldAddr 29 (Operand.tmp 50) 3, type := 0, pos := "state.go:169", after := #[{ on := 6, ground := Ground.data }], guard := none }
abbrev tee8 : Oper := { dst := some 52, op := Op.load 24 (Operand.tmp 51), type := 24, pos := "state.go:169", after := #[{ on := 7, ground := Ground.data }], guard := none }
abbrev tee9 : Oper := { dst := some 53, op := Op.move (Operand.tmp 8), type := 3, pos := "state.go:169", after := #[], guard := none }
abbrev tee10 : Oper := { dst := some 54, op := Op.indexAddr 24 (Operand.tmp 52) (Operand.tmp 53), type := 0, pos := "state.go:169", after := #[{ on := 8, ground := Ground.data }, { on := 9, ground := Ground.data }], guard := none }
abbrev tee11 : Oper := { dst := some 55, op := Op.fieldAddr 63 (Operand.tmp 54) 4, type := 0, pos := "state.go:169", after := #[{ on := 10, ground := Ground.data }], guard := none }
abbrev tee12 : Oper := { dst := some 56, op := Op.load 3 (Operand.tmp 55), type := 3, pos := "state.go:169", after := #[{ on := 11, ground := Ground.data }], guard := none }
abbrev tee13 : Oper := { dst := some 57, op := Op.fieldAddr 45 (Operand.tmp 3) 4, type := 0, pos := "state.go:169", after := #[], guard := none }
abbrev tee14 : Oper := { dst := some 58, op := Op.load 3 (Operand.tmp 57), type := 3, pos := "state.go:169", after := #[{ on := 13, ground := Ground.data }], guard := none }
abbrev tee15 : Oper := { dst := some 59, op := Op.call { callee := Callee.value (Operand.func 85), args := #[Operand.tmp 56, Operand.tmp 58], argTypes := #[3, 3] }, type := 3, pos := "state.go:169", after := #[{ on := 12, ground := Ground.data }, { on := 14, ground := Ground.data }], guard := none }
abbrev tee16 : Oper := { dst := some 60, op := Op.indexAddr 24 (Operand.tmp 47) (Operand.tmp 48), type := 0, pos := "state.go:169", after := #[{ on := 3, ground := Ground.data }, { on := 4, ground := Ground.data }, { on := 0, ground := Ground.phase }, { on := 1, ground := Ground.phase }, { on := 2, ground := Ground.phase }, { on := 3, ground := Ground.phase }, { on := 4, ground := Ground.phase }, { on := 5, ground := Ground.phase }, { on := 6, ground := Ground.phase }, { on := 7, ground := Ground.phase }, { on := 8, ground := Ground.phase }, { on := 9, ground := Ground.phase }, { on := 10, ground := Ground.phase }, { on := 11, ground := Ground.phase }, { on := 12, ground := Ground.phase }, { on := 13, ground := Ground.phase }, { on := 14, ground := Ground.phase }, { on := 15, ground := Ground.phase }], guard := none }
abbrev tee17 : Oper := { dst := some 61, op := Op.fieldAddr 63 (Operand.tmp 60) 4, type := 0, pos := "state.go:169", after := #[{ on := 16, ground := Ground.data }, { on := 0, ground := Ground.phase }, { on := 1, ground := Ground.phase }, { on := 2, ground := Ground.phase }, { on := 3, ground := Ground.phase }, { on := 4, ground := Ground.phase }, { on := 5, ground := Ground.phase }, { on := 6, ground := Ground.phase }, { on := 7, ground := Ground.phase }, { on := 8, ground := Ground.phase }, { on := 9, ground := Ground.phase }, { on := 10, ground := Ground.phase }, { on := 11, ground := Ground.phase }, { on := 12, ground := Ground.phase }, { on := 13, ground := Ground.phase }, { on := 14, ground := Ground.phase }, { on := 15, ground := Ground.phase }], guard := none }
abbrev tee18 : Oper := { dst := none, op := Op.store 3 (Operand.tmp 61) (Operand.tmp 59), type := 0, pos := "state.go:169", after := #[{ on := 17, ground := Ground.data }, { on := 15, ground := Ground.data }, { on := 15, ground := Ground.chain }, { on := 0, ground := Ground.phase }, { on := 1, ground := Ground.phase }, { on := 2, ground := Ground.phase }, { on := 3, ground := Ground.phase }, { on := 4, ground := Ground.phase }, { on := 5, ground := Ground.phase }, { on := 6, ground := Ground.phase }, { on := 7, ground := Ground.phase }, { on := 8, ground := Ground.phase }, { on := 9, ground := Ground.phase }, { on := 10, ground := Ground.phase }, { on := 11, ground := Ground.phase }, { on := 12, ground := Ground.phase }, { on := 13, ground := Ground.phase }, { on := 14, ground := Ground.phase }, { on := 15, ground := Ground.phase }], guard := none }
/-- One cell of a user's is another one. -/
theorem usCells_put {us : List Us} {k f : Nat} (hk : k < us.length) (hf : f < 9) {y : Us} {v : Value} (hy : y.cs = (us.getD k Us.none).cs.set f v) : (usCells us).set (k * 9 + f) v = usCells (us.set k y) := by
  apply List.ext_getElem?
  intro i
  by_cases hi : i < us.length * 9
  · obtain ⟨j, r, rfl, hr⟩ : ∃ j r, i = j * 9 + r ∧ r < 9 := ⟨i / 9, i % 9, by have := Nat.div_add_mod i 9; omega, Nat.mod_lt _ (by decide)⟩
    have hj : j < us.length := by omega
    rw [usCells_at (us.set k y) (by rw [List.length_set]; exact hj) hr, List.getElem?_set]
    have hl := usCells_len us
    by_cases e : j = k
    · subst e
      have hg : (us.set j y).getD j Us.none = y := by simp [List.getD, hj]
      rw [hg, hy, List.getElem?_set, ← usCells_at us hj hr]
      have hl9 : (us.getD j Us.none).cs.length = 9 := Us.cs_len _
      by_cases c : f = r
      · subst c
        rw [if_pos rfl, if_pos rfl, if_pos (by omega), if_pos (by omega)]
      · rw [if_neg (by omega), if_neg c]
    · have hg : (us.set k y).getD j Us.none = us.getD j Us.none := by simp only [List.getD]; rw [List.getElem?_set_ne (fun c => e c.symm)]
      rw [hg, ← usCells_at us hj hr, if_neg (by omega)]
  · rw [List.getElem?_eq_none (by rw [List.length_set, usCells_len]; omega), List.getElem?_eq_none (by simp [usCells_len]; omega)]
section
variable {w0 W : World} {C : Ass} {p : Nat} {c : Cf} {h : Sv} {s : St} {m : Option Nat} {kind user session address ea eb ec tick : Int}
theorem tdC_put {k : Nat} {y : Us} : tdC c h { s with us := s.us.set k y } m = tdC c h s m := by simp [tdC]
/-- A user's cell is stored in place. -/
theorem TD.putU (hC : C.Good) {g : Nat} (hg : h.u = some ⟨g, 0, .none⟩) {k f : Nat} (hk : k < s.us.length) (hf : f < 9) {y : Us} {v : Value} (hy : y.cs = (s.us.getD k Us.none).cs.set f v) (q : At w0 (TD p c h s m C) W) :
    At w0 (TD p c h { s with us := s.us.set k y } m C) (W.setCell ⟨g, k * 9 + f, .none⟩ v) := by
  obtain ⟨gu, guc, gs, gsc, gp, gpc, gi, gic⟩ := h
  dsimp only at hg
  subst hg
  have q1 := q.imp TD.outU
  have g1 := ((ownA_good p (tdC c ⟨some ⟨g, 0, .none⟩, guc, gs, gsc, gp, gpc, gi, gic⟩ s m) TTd).star ((spA_good m s.sp).star ((rowE_good TSe 4 (.slice gs s.ss.length gsc) s.ss.length (seCells s.ss)).star ((rowE_good TPa 3 (.slice gp s.ad.length gpc) s.ad.length (paCells s.ad)).star ((rowE_good TIn 1 (.slice gi s.sp.length gic) s.sp.length (inCells s.sp)).star hC)))))
  have q2 := q1.appendedE g1 (q1.erow.stored (k * 9 + f) v).2 (q1.erow.stored (k * 9 + f) v).1 (.inl rfl)
  rw [usCells_put hk hf hy] at q2
  have q3 := q2.imp (Ass.imp.dn2 _ _ _ _)
  simp only [TD, StA, tdC, List.length_set] at q3 ⊢
  exact q3
theorem TD.userCells {b : Nat} (hg : h.u = some ⟨b, 0, .none⟩) {k : Nat} (hk : k < s.us.length) {u : Us} (hu : s.us.getD k Us.none = u) (q : At w0 (TD p c h s m C) W) :
    W.cell? ⟨b, k * 9, .none⟩ = some (.int .i64 u.u) ∧ W.cell? ⟨b, k * 9 + 4, .none⟩ = some (.int .i64 u.used) ∧ W.cell? ⟨b, k * 9 + 5, .none⟩ = some (.int .i64 u.lf) ∧ W.cell? ⟨b, k * 9 + 6, .none⟩ = some (.int .i64 u.lu) ∧ W.cell? ⟨b, k * 9 + 7, .none⟩ = some (.int .i64 u.st) ∧ W.cell? ⟨b, k * 9 + 8, .none⟩ = some (.int .i64 u.g) ∧ ∀ j, W.frozen? ⟨b, j, .none⟩ = false := by
  obtain ⟨gu, guc, gs, gsc, gp, gpc, gi, gic⟩ := h
  dsimp only at hg
  subst hg hu
  have q1 := q.imp TD.outU
  obtain ⟨h1, h2⟩ := usAt_row q1
  have h3 := h1.elem hk
  simp only [Nat.zero_add] at h3
  exact ⟨h3.1, h3.2.2.2.2.1, h3.2.2.2.2.2.1, h3.2.2.2.2.2.2.1, h3.2.2.2.2.2.2.2.1, h3.2.2.2.2.2.2.2.2, fun j => q1.erow.frozenAt j⟩
set_option maxRecDepth 100000 in
set_option maxHeartbeats 8000000 in
theorem tend_n (hC : C.Good) (q : At w0 (TD p c h s m C) W) (hfs : s.ss.length ≤ 4398046511099) (hk : seAt s.ss session = none) :
    Calls Tryz.prog 59 #[.pointer (some ⟨p, 0, none⟩), .agg (evA ⟨kind, user, session, address, ea, eb, ec, tick⟩)] W fun e w' => e = .returned (.bool false) ∧ At w0 C w' := by
  have q1 := TD.hold hC q (evA ⟨kind, user, session, address, ea, eb, ec, tick⟩) TEv
  have k1 := TD.ev q1
  have HI := Lib.hid (tdixS (fun x => decide (x.s = session)) W.heap.size (cap := h.sc) (TD.se q1 hfs) (fun W2 a hW => tdisS W.heap.size session a W2 ((k1.step hW).cell 2)))
  rw [show ixP (fun x : Se => decide (x.s = session)) s.ss 0 = none from hk] at HI
  have HI := Lib.hid (show Calls Tryz.prog 82 #[.slice h.s s.ss.length h.sc, .func (.func 83) #[] #[.pointer (some ⟨W.heap.size, 0, none⟩)]] (W.alloc (.cells (evA ⟨kind, user, session, address, ea, eb, ec, tick⟩) TEv)) fun e w' => e = .returned (.int .i64 (-1)) ∧ Below (W.alloc (.cells (evA ⟨kind, user, session, address, ea, eb, ec, tick⟩) TEv)).heap.size (W.alloc (.cells (evA ⟨kind, user, session, address, ea, eb, ec, tick⟩) TEv)) w' from HI.out)
  have e1 := (TD.blk q1).cell
  have HQ := Lib.hid q1
  clear q q1 k1
  go_enter Tryz.func59, Tryz.ntmps59
  go_wp2_with (go_at_call 82; (with_reducible refine HI.out.mono ?_); rintro e w2 ⟨rfl, hb⟩; have HB := Lib.hid hb; clear hb)
  go_ret
  exact ⟨rfl, (TD.none (HQ.out.lay (TD_good ((ownA_good _ _ _).star hC)) HB.out)).drop⟩
set_option maxRecDepth 100000 in
set_option maxHeartbeats 16000000 in
theorem tend_xz (hC : C.Good) (q : At w0 (TD p c h s m C) W) (hfu : s.us.length ≤ 1954687338263) (hfs : s.ss.length ≤ 4398046511099) (hfa : s.ad.length ≤ 5864062014800) {k : Nat} (hk : seAt s.ss session = some k) {x : Se} (hx : s.ss.getD k Se.none = x) {L : List Se} (hL : L = s.ss.take k ++ s.ss.drop (k + 1)) (hj : usAt s.us x.u = none) (hp : pfOk s.ad x.a tick = false) :
    Calls Tryz.prog 59 #[.pointer (some ⟨p, 0, none⟩), .agg (evA ⟨kind, user, session, address, ea, eb, ec, tick⟩)] W fun e w' => e = .returned (.bool false) ∧ At w0 C w' := by
  obtain ⟨gu, guc, gs, gsc, gp, gpc, gi, gic⟩ := h
  have hkl := seAt_lt hk
  obtain ⟨g, rfl, -, -⟩ : ∃ g, gs = some ⟨g, 0, none⟩ ∧ s.ss.length = s.ss.length ∧ s.ss.length ≤ gsc := se_big (q.imp TD.outS) (by omega)
  have q1 := TD.hold hC q (evA ⟨kind, user, session, address, ea, eb, ec, tick⟩) TEv
  have k1 := TD.ev q1
  have HI := Lib.hid (tdixS (fun x => decide (x.s = session)) W.heap.size (cap := gsc) (TD.se q1 hfs) (fun W2 a hW => tdisS W.heap.size session a W2 ((k1.step hW).cell 2)))
  rw [show ixP (fun x : Se => decide (x.s = session)) s.ss 0 = some k from hk] at HI
  have HI := Lib.hid (show Calls Tryz.prog 82 #[.slice (some ⟨g, 0, none⟩) s.ss.length gsc, .func (.func 83) #[] #[.pointer (some ⟨W.heap.size, 0, none⟩)]] (W.alloc (.cells (evA ⟨kind, user, session, address, ea, eb, ec, tick⟩) TEv)) fun e w' => e = .returned (.int .i64 (k : Int)) ∧ Below (W.alloc (.cells (evA ⟨kind, user, session, address, ea, eb, ec, tick⟩) TEv)).heap.size (W.alloc (.cells (evA ⟨kind, user, session, address, ea, eb, ec, tick⟩) TEv)) w' from HI.out)
  have HJ : ixN (usAt s.us x.u) = -1 := by rw [hj]; rfl
  have e1 := (TD.blk q1).cell
  have HQ := Lib.hid q1
  have hlw : L.length ≤ 4398046511099 := by rw [hL, List.length_append, List.length_take, List.length_drop]; omega
  have hkI : (k : Int) < (s.ss.length : Int) := by omega
  have hk0 : ¬ (k : Int) < 0 := by omega
  have hw1 : IntKind.i64.wrap ((k : Int) + 1) = (k : Int) + 1 := by rw [IntKind.wrap_i64]; omega
  have HL := Lib.hid hL
  clear q q1 k1 hj hL
  go_enter Tryz.func59, Tryz.ntmps59
  go_wp2_with (first
    | (go_at_call 82; (with_reducible refine HI.out.mono ?_); rintro e w2 ⟨rfl, hb⟩; have q2 := HQ.out.lay (TD_good ((ownA_good _ _ _).star hC)) hb; have e2 := (TD.blk q2).cell; obtain ⟨x0, x1, x2, x3⟩ := seEl (q2.imp TD.outS) hkl hx; have HQ3 := Lib.hid (TD.hold ((ownA_good _ _ _).star hC) q2 #[.int .i64 x.s, .int .i64 x.u, .int .i64 x.a, .int .i64 x.t] TSe); have e3 := (TD.blk HQ3.out).cell; clear hb q2)
    | (go_at_call 84; (with_reducible refine (sdeleteT ((ownA_good _ _ _).star ((spA_good _ _).star ((rowE_good _ _ _ _ _).star ((rowE_good _ _ _ _ _).star ((rowE_good _ _ _ _ _).star ((ownA_good _ _ _).star ((ownA_good _ _ _).star hC))))))) hkl hfs HL.out (HQ3.out.imp TD.outS)).mono ?_); rintro e w4 ⟨rfl, q4⟩; have o4 := q4.drop.own; have e4 := o4.1; have f4 := o4.2.1; have l4 := o4.2.2; have HQ5 := Lib.hid (TD.newS ((ownA_good _ _ _).star ((ownA_good _ _ _).star hC)) rfl q4); have e5 := (TD.blk HQ5.out).cell; have x5 := (TD.ev HQ5.out).cell; clear o4 q4)
    | (go_at_call 77; (with_reducible refine (HJ ▸ tuserat (TD.blk HQ5.out) (TD.us HQ5.out hfu) x.u).mono ?_); rintro e w6 ⟨rfl, hb⟩; have q6 := HQ5.out.lay (TD_good ((ownA_good _ _ _).star ((ownA_good _ _ _).star hC))) hb; have e6 := (TD.blk q6).cell; have x6 := (TD.ev q6).cell; have v6 := (TD.ev (TD.unhold q6)).cell; have HQ6 := Lib.hid q6; clear q6 hb)
    | (go_at_call 76; (with_reducible refine (tfree_no ((ownA_good _ _ _).star ((ownA_good _ _ _).star hC)) HQ6.out hfa hp).mono ?_); rintro e w8 ⟨rfl, q8⟩; have HQ8 := Lib.hid q8; clear q8))
  go_ret
  exact ⟨rfl, HQ8.out.drop.drop⟩
set_option maxRecDepth 100000 in
set_option maxHeartbeats 16000000 in
theorem tend_xy (hC : C.Good) (q : At w0 (TD p c h s m C) W) (hfu : s.us.length ≤ 1954687338263) (hfs : s.ss.length ≤ 4398046511099) (hfa : s.ad.length ≤ 5864062014800) {k : Nat} (hk : seAt s.ss session = some k) {x : Se} (hx : s.ss.getD k Se.none = x) {L : List Se} (hL : L = s.ss.take k ++ s.ss.drop (k + 1)) (hj : usAt s.us x.u = none) (hp : pfOk s.ad x.a tick = true) :
    Calls Tryz.prog 59 #[.pointer (some ⟨p, 0, none⟩), .agg (evA ⟨kind, user, session, address, ea, eb, ec, tick⟩)] W fun e w' => e = .returned (.bool true) ∧ ∃ h m, At w0 (TD p c h { s with ad := s.ad.set x.a.toNat ⟨false, (s.ad.getD x.a.toNat .none).l, tick⟩, us := s.us, ss := L } m C) w' := by
  obtain ⟨gu, guc, gs, gsc, gp, gpc, gi, gic⟩ := h
  have hkl := seAt_lt hk
  obtain ⟨g, rfl, -, -⟩ : ∃ g, gs = some ⟨g, 0, none⟩ ∧ s.ss.length = s.ss.length ∧ s.ss.length ≤ gsc := se_big (q.imp TD.outS) (by omega)
  have q1 := TD.hold hC q (evA ⟨kind, user, session, address, ea, eb, ec, tick⟩) TEv
  have k1 := TD.ev q1
  have HI := Lib.hid (tdixS (fun x => decide (x.s = session)) W.heap.size (cap := gsc) (TD.se q1 hfs) (fun W2 a hW => tdisS W.heap.size session a W2 ((k1.step hW).cell 2)))
  rw [show ixP (fun x : Se => decide (x.s = session)) s.ss 0 = some k from hk] at HI
  have HI := Lib.hid (show Calls Tryz.prog 82 #[.slice (some ⟨g, 0, none⟩) s.ss.length gsc, .func (.func 83) #[] #[.pointer (some ⟨W.heap.size, 0, none⟩)]] (W.alloc (.cells (evA ⟨kind, user, session, address, ea, eb, ec, tick⟩) TEv)) fun e w' => e = .returned (.int .i64 (k : Int)) ∧ Below (W.alloc (.cells (evA ⟨kind, user, session, address, ea, eb, ec, tick⟩) TEv)).heap.size (W.alloc (.cells (evA ⟨kind, user, session, address, ea, eb, ec, tick⟩) TEv)) w' from HI.out)
  have HJ : ixN (usAt s.us x.u) = -1 := by rw [hj]; rfl
  have e1 := (TD.blk q1).cell
  have HQ := Lib.hid q1
  have hlw : L.length ≤ 4398046511099 := by rw [hL, List.length_append, List.length_take, List.length_drop]; omega
  have hkI : (k : Int) < (s.ss.length : Int) := by omega
  have hk0 : ¬ (k : Int) < 0 := by omega
  have hw1 : IntKind.i64.wrap ((k : Int) + 1) = (k : Int) + 1 := by rw [IntKind.wrap_i64]; omega
  have HL := Lib.hid hL
  clear q q1 k1 hj hL
  go_enter Tryz.func59, Tryz.ntmps59
  go_wp2_with (first
    | (go_at_call 82; (with_reducible refine HI.out.mono ?_); rintro e w2 ⟨rfl, hb⟩; have q2 := HQ.out.lay (TD_good ((ownA_good _ _ _).star hC)) hb; have e2 := (TD.blk q2).cell; obtain ⟨x0, x1, x2, x3⟩ := seEl (q2.imp TD.outS) hkl hx; have HQ3 := Lib.hid (TD.hold ((ownA_good _ _ _).star hC) q2 #[.int .i64 x.s, .int .i64 x.u, .int .i64 x.a, .int .i64 x.t] TSe); have e3 := (TD.blk HQ3.out).cell; clear hb q2)
    | (go_at_call 84; (with_reducible refine (sdeleteT ((ownA_good _ _ _).star ((spA_good _ _).star ((rowE_good _ _ _ _ _).star ((rowE_good _ _ _ _ _).star ((rowE_good _ _ _ _ _).star ((ownA_good _ _ _).star ((ownA_good _ _ _).star hC))))))) hkl hfs HL.out (HQ3.out.imp TD.outS)).mono ?_); rintro e w4 ⟨rfl, q4⟩; have o4 := q4.drop.own; have e4 := o4.1; have f4 := o4.2.1; have l4 := o4.2.2; have HQ5 := Lib.hid (TD.newS ((ownA_good _ _ _).star ((ownA_good _ _ _).star hC)) rfl q4); have e5 := (TD.blk HQ5.out).cell; have x5 := (TD.ev HQ5.out).cell; clear o4 q4)
    | (go_at_call 77; (with_reducible refine (HJ ▸ tuserat (TD.blk HQ5.out) (TD.us HQ5.out hfu) x.u).mono ?_); rintro e w6 ⟨rfl, hb⟩; have q6 := HQ5.out.lay (TD_good ((ownA_good _ _ _).star ((ownA_good _ _ _).star hC))) hb; have e6 := (TD.blk q6).cell; have x6 := (TD.ev q6).cell; have v6 := (TD.ev (TD.unhold q6)).cell; have HQ6 := Lib.hid q6; clear q6 hb)
    | (go_at_call 76; (with_reducible refine (tfree_yes ((ownA_good _ _ _).star ((ownA_good _ _ _).star hC)) HQ6.out hfa hp rfl).mono ?_); rintro e w8 ⟨b8, c8, rfl, q8⟩; have HQ8 := Lib.hid q8; clear q8))
  go_ret
  exact ⟨rfl, _, _, TD.unhold (TD.unhold HQ8.out)⟩
set_option maxRecDepth 100000 in
set_option maxHeartbeats 16000000 in
theorem tend_uz (hC : C.Good) (q : At w0 (TD p c h s m C) W) (hfu : s.us.length ≤ 1954687338263) (hfs : s.ss.length ≤ 4398046511099) (hfa : s.ad.length ≤ 5864062014800) {k : Nat} (hk : seAt s.ss session = some k) {x : Se} (hx : s.ss.getD k Se.none = x) {L : List Se} (hL : L = s.ss.take k ++ s.ss.drop (k + 1)) {j : Nat} (hj : usAt s.us x.u = some j) {u : Us} (hu : s.us.getD j Us.none = u) {r : Int} (hr : stSum u.used ea = r) (a0 : 0 ≤ ea) (a1 : ea ≤ 1073741823) (u0 : -9223372036854775808 ≤ u.used) (hp : pfOk s.ad x.a tick = false) :
    Calls Tryz.prog 59 #[.pointer (some ⟨p, 0, none⟩), .agg (evA ⟨kind, user, session, address, ea, eb, ec, tick⟩)] W fun e w' => e = .returned (.bool false) ∧ At w0 C w' := by
  obtain ⟨gu, guc, gs, gsc, gp, gpc, gi, gic⟩ := h
  have hkl := seAt_lt hk
  obtain ⟨g, rfl, -, -⟩ : ∃ g, gs = some ⟨g, 0, none⟩ ∧ s.ss.length = s.ss.length ∧ s.ss.length ≤ gsc := se_big (q.imp TD.outS) (by omega)
  have hjl := usAt_lt hj
  obtain ⟨tb, rfl, -, -⟩ : ∃ g, gu = some ⟨g, 0, none⟩ ∧ s.us.length = s.us.length ∧ s.us.length ≤ guc := us_big (q.imp TD.outU) (by omega)
  have q1 := TD.hold hC q (evA ⟨kind, user, session, address, ea, eb, ec, tick⟩) TEv
  have k1 := TD.ev q1
  have HI := Lib.hid (tdixS (fun x => decide (x.s = session)) W.heap.size (cap := gsc) (TD.se q1 hfs) (fun W2 a hW => tdisS W.heap.size session a W2 ((k1.step hW).cell 2)))
  rw [show ixP (fun x : Se => decide (x.s = session)) s.ss 0 = some k from hk] at HI
  have HI := Lib.hid (show Calls Tryz.prog 82 #[.slice (some ⟨g, 0, none⟩) s.ss.length gsc, .func (.func 83) #[] #[.pointer (some ⟨W.heap.size, 0, none⟩)]] (W.alloc (.cells (evA ⟨kind, user, session, address, ea, eb, ec, tick⟩) TEv)) fun e w' => e = .returned (.int .i64 (k : Int)) ∧ Below (W.alloc (.cells (evA ⟨kind, user, session, address, ea, eb, ec, tick⟩) TEv)).heap.size (W.alloc (.cells (evA ⟨kind, user, session, address, ea, eb, ec, tick⟩) TEv)) w' from HI.out)
  have HJ : ixN (usAt s.us x.u) = (j : Int) := by rw [hj]; rfl
  have e1 := (TD.blk q1).cell
  have HQ := Lib.hid q1
  have hlw : L.length ≤ 4398046511099 := by rw [hL, List.length_append, List.length_take, List.length_drop]; omega
  have hkI : (k : Int) < (s.ss.length : Int) := by omega
  have hk0 : ¬ (k : Int) < 0 := by omega
  have hw1 : IntKind.i64.wrap ((k : Int) + 1) = (k : Int) + 1 := by rw [IntKind.wrap_i64]; omega
  have hjI : (j : Int) < (s.us.length : Int) := by omega
  have hj0 : (0 : Int) ≤ (j : Int) := by omega
  have HL := Lib.hid hL
  clear q q1 k1 hj hL
  go_enter Tryz.func59, Tryz.ntmps59
  go_wp2_with (first
    | (go_at_call 82; (with_reducible refine HI.out.mono ?_); rintro e w2 ⟨rfl, hb⟩; have q2 := HQ.out.lay (TD_good ((ownA_good _ _ _).star hC)) hb; have e2 := (TD.blk q2).cell; obtain ⟨x0, x1, x2, x3⟩ := seEl (q2.imp TD.outS) hkl hx; have HQ3 := Lib.hid (TD.hold ((ownA_good _ _ _).star hC) q2 #[.int .i64 x.s, .int .i64 x.u, .int .i64 x.a, .int .i64 x.t] TSe); have e3 := (TD.blk HQ3.out).cell; clear hb q2)
    | (go_at_call 84; (with_reducible refine (sdeleteT ((ownA_good _ _ _).star ((spA_good _ _).star ((rowE_good _ _ _ _ _).star ((rowE_good _ _ _ _ _).star ((rowE_good _ _ _ _ _).star ((ownA_good _ _ _).star ((ownA_good _ _ _).star hC))))))) hkl hfs HL.out (HQ3.out.imp TD.outS)).mono ?_); rintro e w4 ⟨rfl, q4⟩; have o4 := q4.drop.own; have e4 := o4.1; have f4 := o4.2.1; have l4 := o4.2.2; have HQ5 := Lib.hid (TD.newS ((ownA_good _ _ _).star ((ownA_good _ _ _).star hC)) rfl q4); have e5 := (TD.blk HQ5.out).cell; have x5 := (TD.ev HQ5.out).cell; clear o4 q4)
    | (go_at_call 77; (with_reducible refine (HJ ▸ tuserat (TD.blk HQ5.out) (TD.us HQ5.out hfu) x.u).mono ?_); rintro e w6 ⟨rfl, hb⟩; have q6 := HQ5.out.lay (TD_good ((ownA_good _ _ _).star ((ownA_good _ _ _).star hC))) hb; have e6 := (TD.blk q6).cell; have x6 := (TD.ev q6).cell; have v6 := (TD.ev (TD.unhold q6)).cell; have HQ6 := Lib.hid q6; clear q6 hb))
  refine region_held (S := fun V => Blk V p (tdC c ⟨some ⟨tb, 0, none⟩, guc, some ⟨g, 0, none⟩, gsc, gp, gpc, gi, gic⟩ { s with ss := L } m) ∧ Blk V W.heap.size (evA ⟨kind, user, session, address, ea, eb, ec, tick⟩)) 19 [false, false, false, false, false, false, false, false, false, false, false, false, false, false, false, false, false, false, false] rfl rfl (by as_aux_lemma => kernel_rfl) fun V9 hW => ?_
  have q9 : At w0 (TD p c ⟨some ⟨tb, 0, none⟩, guc, some ⟨g, 0, none⟩, gsc, gp, gpc, gi, gic⟩ { s with ss := L } m ((ownA w2.heap.size #[.int .i64 x.s, .int .i64 x.u, .int .i64 x.a, .int .i64 x.t] TSe).star ((ownA W.heap.size (evA ⟨kind, user, session, address, ea, eb, ec, tick⟩) TEv).star C))) V9 := by rw [hW]; exact At.drewn HQ6.out (TD_good ((ownA_good _ _ _).star ((ownA_good _ _ _).star hC)))
  have hS9 : Blk V9 p (tdC c ⟨some ⟨tb, 0, none⟩, guc, some ⟨g, 0, none⟩, gsc, gp, gpc, gi, gic⟩ { s with ss := L } m) ∧ Blk V9 W.heap.size (evA ⟨kind, user, session, address, ea, eb, ec, tick⟩) := ⟨TD.blk q9, TD.ev (TD.unhold q9)⟩
  clear hW
  refine run_go [(0, tee0, (some 44)), (1, tee1, (some 45)), (2, tee2, (some 46)), (3, tee3, (some 47)), (4, tee4, (some 48)), (5, tee5, (some 49)), (6, tee6, (some 50)), (7, tee7, (some 51)), (8, tee8, (some 52)), (9, tee9, (some 53)), (10, tee10, (some 54)), (11, tee11, (some 55)), (13, tee13, (some 57)), (14, tee14, (some 58))] (by as_aux_lemma => kernel_rfl) ?_
  iterate 14 (refine run_take ?_ rfl rfl (fun _ _ _ h => h) (Or.inl ⟨by rfl, ?_⟩) hS9 ?_; rotate_left; (· (intro w0' hy0; have k1 := hy0.1.cell; have k2 := hy0.2.cell; (go_simp <;> with_reducible rfl))); simp only [Act.put, List.setIfInBounds_toArray, List.set_cons_zero, List.set_cons_succ])
  refine run_end ?_
  have u9 := (TD.userCells (s := { s with ss := L }) rfl hjl hu q9).2.1
  refine held_one 12 tee12 (some 56) (.int .i64 u.used) (V9) (by as_aux_lemma => kernel_rfl) rfl rfl (by rfl) (by go_simp <;> with_reducible rfl) (hS9) ?_
  simp only [Act.put, List.setIfInBounds_toArray, List.set_cons_zero, List.set_cons_succ]
  refine held_callv 15 tee15 (some 59) (fun v Z => v = .int .i64 r ∧ V9 = Z) 85 #[.int .i64 u.used, .int .i64 ea] (by as_aux_lemma => kernel_rfl) rfl rfl (by rfl) (by go_simp <;> with_reducible rfl) ((tsum u.used ea r hr a0 a1 u0 _).mono fun _ _ ⟨e1, z⟩ => ⟨_, e1, rfl, z⟩) (fun v Z ⟨_, z⟩ => z ▸ hS9) ?_
  rintro v _ ⟨rfl, rfl⟩
  simp only [Act.put, List.setIfInBounds_toArray, List.set_cons_zero, List.set_cons_succ]
  refine run_go [(16, tee16, (some 60)), (17, tee17, (some 61))] (by as_aux_lemma => kernel_rfl) ?_
  iterate 2 (refine run_take ?_ rfl rfl (fun _ _ _ h => h) (Or.inl ⟨by rfl, ?_⟩) hS9 ?_; rotate_left; (· (intro w0' hy0; have k1 := hy0.1.cell; have k2 := hy0.2.cell; (go_simp <;> with_reducible rfl))); simp only [Act.put, List.setIfInBounds_toArray, List.set_cons_zero, List.set_cons_succ])
  refine run_end ?_
  have fz := (TD.userCells (s := { s with ss := L }) rfl hjl hu q9).2.2.2.2.2.2
  have u9 := (TD.userCells (s := { s with ss := L }) rfl hjl hu q9).2.1
  have qa := TD.putU ((ownA_good _ _ _).star ((ownA_good _ _ _).star hC)) (s := { s with ss := L }) rfl hjl (f := 4) (by decide) (y := { u with used := r }) (v := .int .i64 r) (by rw [hu]; rfl) q9
  have hSa : Blk (V9.setCell ⟨tb, j * 9 + 4, none⟩ (.int .i64 r)) p (tdC c ⟨some ⟨tb, 0, none⟩, guc, some ⟨g, 0, none⟩, gsc, gp, gpc, gi, gic⟩ { s with ss := L } m) ∧ Blk (V9.setCell ⟨tb, j * 9 + 4, none⟩ (.int .i64 r)) W.heap.size (evA ⟨kind, user, session, address, ea, eb, ec, tick⟩) := ⟨by have := TD.blk qa; rwa [tdC_put (s := { s with ss := L })] at this, TD.ev (TD.unhold qa)⟩
  refine held_void 18 tee18 (V9.setCell ⟨tb, j * 9 + 4, none⟩ (.int .i64 r)) (by kernel_rfl) rfl (by rfl) (by go_simp <;> with_reducible rfl) hSa ?_
  simp only [Act.put, List.setIfInBounds_toArray, List.set_cons_zero, List.set_cons_succ]
  refine wpAnyH_done (by as_aux_lemma => kernel_rfl) ?_ _
  (try simp only [List.getElem_toArray, List.getElem_cons_succ, List.getElem_cons_zero, Act.put, List.setIfInBounds_toArray, List.set_cons_zero, List.set_cons_succ])
  generalize V9.setCell ⟨tb, j * 9 + 4, none⟩ (.int .i64 r) = V10 at *
  have HQ10 := Lib.hid qa
  have e10 := (TD.blk qa).cell
  have x10 := (TD.ev qa).cell
  have v10 := (TD.ev (TD.unhold qa)).cell
  clear q9 hS9 hSa qa fz u9
  go_wp2_with (first
      | (go_at_call 76; (with_reducible refine (tfree_no ((ownA_good _ _ _).star ((ownA_good _ _ _).star hC)) HQ10.out hfa hp).mono ?_); rintro e w8 ⟨rfl, q8⟩; have HQ8 := Lib.hid q8; clear q8))
  go_ret
  exact ⟨rfl, HQ8.out.drop.drop⟩
set_option maxRecDepth 100000 in
set_option maxHeartbeats 16000000 in
theorem tend_uy (hC : C.Good) (q : At w0 (TD p c h s m C) W) (hfu : s.us.length ≤ 1954687338263) (hfs : s.ss.length ≤ 4398046511099) (hfa : s.ad.length ≤ 5864062014800) {k : Nat} (hk : seAt s.ss session = some k) {x : Se} (hx : s.ss.getD k Se.none = x) {L : List Se} (hL : L = s.ss.take k ++ s.ss.drop (k + 1)) {j : Nat} (hj : usAt s.us x.u = some j) {u : Us} (hu : s.us.getD j Us.none = u) {r : Int} (hr : stSum u.used ea = r) (a0 : 0 ≤ ea) (a1 : ea ≤ 1073741823) (u0 : -9223372036854775808 ≤ u.used) (hp : pfOk s.ad x.a tick = true) :
    Calls Tryz.prog 59 #[.pointer (some ⟨p, 0, none⟩), .agg (evA ⟨kind, user, session, address, ea, eb, ec, tick⟩)] W fun e w' => e = .returned (.bool true) ∧ ∃ h m, At w0 (TD p c h { s with ad := s.ad.set x.a.toNat ⟨false, (s.ad.getD x.a.toNat .none).l, tick⟩, us := s.us.set j { u with used := r }, ss := L } m C) w' := by
  obtain ⟨gu, guc, gs, gsc, gp, gpc, gi, gic⟩ := h
  have hkl := seAt_lt hk
  obtain ⟨g, rfl, -, -⟩ : ∃ g, gs = some ⟨g, 0, none⟩ ∧ s.ss.length = s.ss.length ∧ s.ss.length ≤ gsc := se_big (q.imp TD.outS) (by omega)
  have hjl := usAt_lt hj
  obtain ⟨tb, rfl, -, -⟩ : ∃ g, gu = some ⟨g, 0, none⟩ ∧ s.us.length = s.us.length ∧ s.us.length ≤ guc := us_big (q.imp TD.outU) (by omega)
  have q1 := TD.hold hC q (evA ⟨kind, user, session, address, ea, eb, ec, tick⟩) TEv
  have k1 := TD.ev q1
  have HI := Lib.hid (tdixS (fun x => decide (x.s = session)) W.heap.size (cap := gsc) (TD.se q1 hfs) (fun W2 a hW => tdisS W.heap.size session a W2 ((k1.step hW).cell 2)))
  rw [show ixP (fun x : Se => decide (x.s = session)) s.ss 0 = some k from hk] at HI
  have HI := Lib.hid (show Calls Tryz.prog 82 #[.slice (some ⟨g, 0, none⟩) s.ss.length gsc, .func (.func 83) #[] #[.pointer (some ⟨W.heap.size, 0, none⟩)]] (W.alloc (.cells (evA ⟨kind, user, session, address, ea, eb, ec, tick⟩) TEv)) fun e w' => e = .returned (.int .i64 (k : Int)) ∧ Below (W.alloc (.cells (evA ⟨kind, user, session, address, ea, eb, ec, tick⟩) TEv)).heap.size (W.alloc (.cells (evA ⟨kind, user, session, address, ea, eb, ec, tick⟩) TEv)) w' from HI.out)
  have HJ : ixN (usAt s.us x.u) = (j : Int) := by rw [hj]; rfl
  have e1 := (TD.blk q1).cell
  have HQ := Lib.hid q1
  have hlw : L.length ≤ 4398046511099 := by rw [hL, List.length_append, List.length_take, List.length_drop]; omega
  have hkI : (k : Int) < (s.ss.length : Int) := by omega
  have hk0 : ¬ (k : Int) < 0 := by omega
  have hw1 : IntKind.i64.wrap ((k : Int) + 1) = (k : Int) + 1 := by rw [IntKind.wrap_i64]; omega
  have hjI : (j : Int) < (s.us.length : Int) := by omega
  have hj0 : (0 : Int) ≤ (j : Int) := by omega
  have HL := Lib.hid hL
  clear q q1 k1 hj hL
  go_enter Tryz.func59, Tryz.ntmps59
  go_wp2_with (first
    | (go_at_call 82; (with_reducible refine HI.out.mono ?_); rintro e w2 ⟨rfl, hb⟩; have q2 := HQ.out.lay (TD_good ((ownA_good _ _ _).star hC)) hb; have e2 := (TD.blk q2).cell; obtain ⟨x0, x1, x2, x3⟩ := seEl (q2.imp TD.outS) hkl hx; have HQ3 := Lib.hid (TD.hold ((ownA_good _ _ _).star hC) q2 #[.int .i64 x.s, .int .i64 x.u, .int .i64 x.a, .int .i64 x.t] TSe); have e3 := (TD.blk HQ3.out).cell; clear hb q2)
    | (go_at_call 84; (with_reducible refine (sdeleteT ((ownA_good _ _ _).star ((spA_good _ _).star ((rowE_good _ _ _ _ _).star ((rowE_good _ _ _ _ _).star ((rowE_good _ _ _ _ _).star ((ownA_good _ _ _).star ((ownA_good _ _ _).star hC))))))) hkl hfs HL.out (HQ3.out.imp TD.outS)).mono ?_); rintro e w4 ⟨rfl, q4⟩; have o4 := q4.drop.own; have e4 := o4.1; have f4 := o4.2.1; have l4 := o4.2.2; have HQ5 := Lib.hid (TD.newS ((ownA_good _ _ _).star ((ownA_good _ _ _).star hC)) rfl q4); have e5 := (TD.blk HQ5.out).cell; have x5 := (TD.ev HQ5.out).cell; clear o4 q4)
    | (go_at_call 77; (with_reducible refine (HJ ▸ tuserat (TD.blk HQ5.out) (TD.us HQ5.out hfu) x.u).mono ?_); rintro e w6 ⟨rfl, hb⟩; have q6 := HQ5.out.lay (TD_good ((ownA_good _ _ _).star ((ownA_good _ _ _).star hC))) hb; have e6 := (TD.blk q6).cell; have x6 := (TD.ev q6).cell; have v6 := (TD.ev (TD.unhold q6)).cell; have HQ6 := Lib.hid q6; clear q6 hb))
  refine region_held (S := fun V => Blk V p (tdC c ⟨some ⟨tb, 0, none⟩, guc, some ⟨g, 0, none⟩, gsc, gp, gpc, gi, gic⟩ { s with ss := L } m) ∧ Blk V W.heap.size (evA ⟨kind, user, session, address, ea, eb, ec, tick⟩)) 19 [false, false, false, false, false, false, false, false, false, false, false, false, false, false, false, false, false, false, false] rfl rfl (by as_aux_lemma => kernel_rfl) fun V9 hW => ?_
  have q9 : At w0 (TD p c ⟨some ⟨tb, 0, none⟩, guc, some ⟨g, 0, none⟩, gsc, gp, gpc, gi, gic⟩ { s with ss := L } m ((ownA w2.heap.size #[.int .i64 x.s, .int .i64 x.u, .int .i64 x.a, .int .i64 x.t] TSe).star ((ownA W.heap.size (evA ⟨kind, user, session, address, ea, eb, ec, tick⟩) TEv).star C))) V9 := by rw [hW]; exact At.drewn HQ6.out (TD_good ((ownA_good _ _ _).star ((ownA_good _ _ _).star hC)))
  have hS9 : Blk V9 p (tdC c ⟨some ⟨tb, 0, none⟩, guc, some ⟨g, 0, none⟩, gsc, gp, gpc, gi, gic⟩ { s with ss := L } m) ∧ Blk V9 W.heap.size (evA ⟨kind, user, session, address, ea, eb, ec, tick⟩) := ⟨TD.blk q9, TD.ev (TD.unhold q9)⟩
  clear hW
  refine run_go [(0, tee0, (some 44)), (1, tee1, (some 45)), (2, tee2, (some 46)), (3, tee3, (some 47)), (4, tee4, (some 48)), (5, tee5, (some 49)), (6, tee6, (some 50)), (7, tee7, (some 51)), (8, tee8, (some 52)), (9, tee9, (some 53)), (10, tee10, (some 54)), (11, tee11, (some 55)), (13, tee13, (some 57)), (14, tee14, (some 58))] (by as_aux_lemma => kernel_rfl) ?_
  iterate 14 (refine run_take ?_ rfl rfl (fun _ _ _ h => h) (Or.inl ⟨by rfl, ?_⟩) hS9 ?_; rotate_left; (· (intro w0' hy0; have k1 := hy0.1.cell; have k2 := hy0.2.cell; (go_simp <;> with_reducible rfl))); simp only [Act.put, List.setIfInBounds_toArray, List.set_cons_zero, List.set_cons_succ])
  refine run_end ?_
  have u9 := (TD.userCells (s := { s with ss := L }) rfl hjl hu q9).2.1
  refine held_one 12 tee12 (some 56) (.int .i64 u.used) (V9) (by as_aux_lemma => kernel_rfl) rfl rfl (by rfl) (by go_simp <;> with_reducible rfl) (hS9) ?_
  simp only [Act.put, List.setIfInBounds_toArray, List.set_cons_zero, List.set_cons_succ]
  refine held_callv 15 tee15 (some 59) (fun v Z => v = .int .i64 r ∧ V9 = Z) 85 #[.int .i64 u.used, .int .i64 ea] (by as_aux_lemma => kernel_rfl) rfl rfl (by rfl) (by go_simp <;> with_reducible rfl) ((tsum u.used ea r hr a0 a1 u0 _).mono fun _ _ ⟨e1, z⟩ => ⟨_, e1, rfl, z⟩) (fun v Z ⟨_, z⟩ => z ▸ hS9) ?_
  rintro v _ ⟨rfl, rfl⟩
  simp only [Act.put, List.setIfInBounds_toArray, List.set_cons_zero, List.set_cons_succ]
  refine run_go [(16, tee16, (some 60)), (17, tee17, (some 61))] (by as_aux_lemma => kernel_rfl) ?_
  iterate 2 (refine run_take ?_ rfl rfl (fun _ _ _ h => h) (Or.inl ⟨by rfl, ?_⟩) hS9 ?_; rotate_left; (· (intro w0' hy0; have k1 := hy0.1.cell; have k2 := hy0.2.cell; (go_simp <;> with_reducible rfl))); simp only [Act.put, List.setIfInBounds_toArray, List.set_cons_zero, List.set_cons_succ])
  refine run_end ?_
  have fz := (TD.userCells (s := { s with ss := L }) rfl hjl hu q9).2.2.2.2.2.2
  have u9 := (TD.userCells (s := { s with ss := L }) rfl hjl hu q9).2.1
  have qa := TD.putU ((ownA_good _ _ _).star ((ownA_good _ _ _).star hC)) (s := { s with ss := L }) rfl hjl (f := 4) (by decide) (y := { u with used := r }) (v := .int .i64 r) (by rw [hu]; rfl) q9
  have hSa : Blk (V9.setCell ⟨tb, j * 9 + 4, none⟩ (.int .i64 r)) p (tdC c ⟨some ⟨tb, 0, none⟩, guc, some ⟨g, 0, none⟩, gsc, gp, gpc, gi, gic⟩ { s with ss := L } m) ∧ Blk (V9.setCell ⟨tb, j * 9 + 4, none⟩ (.int .i64 r)) W.heap.size (evA ⟨kind, user, session, address, ea, eb, ec, tick⟩) := ⟨by have := TD.blk qa; rwa [tdC_put (s := { s with ss := L })] at this, TD.ev (TD.unhold qa)⟩
  refine held_void 18 tee18 (V9.setCell ⟨tb, j * 9 + 4, none⟩ (.int .i64 r)) (by kernel_rfl) rfl (by rfl) (by go_simp <;> with_reducible rfl) hSa ?_
  simp only [Act.put, List.setIfInBounds_toArray, List.set_cons_zero, List.set_cons_succ]
  refine wpAnyH_done (by as_aux_lemma => kernel_rfl) ?_ _
  (try simp only [List.getElem_toArray, List.getElem_cons_succ, List.getElem_cons_zero, Act.put, List.setIfInBounds_toArray, List.set_cons_zero, List.set_cons_succ])
  generalize V9.setCell ⟨tb, j * 9 + 4, none⟩ (.int .i64 r) = V10 at *
  have HQ10 := Lib.hid qa
  have e10 := (TD.blk qa).cell
  have x10 := (TD.ev qa).cell
  have v10 := (TD.ev (TD.unhold qa)).cell
  clear q9 hS9 hSa qa fz u9
  go_wp2_with (first
      | (go_at_call 76; (with_reducible refine (tfree_yes ((ownA_good _ _ _).star ((ownA_good _ _ _).star hC)) HQ10.out hfa hp rfl).mono ?_); rintro e w8 ⟨b8, c8, rfl, q8⟩; have HQ8 := Lib.hid q8; clear q8))
  go_ret
  exact ⟨rfl, _, _, TD.unhold (TD.unhold HQ8.out)⟩
end
end Go.Proofs.YtopkcaflmpjhgaaGreat

namespace Go.Proofs.YtopkcaflmpjhgaaGreat
open Go Go.RowKit Go.Maps

abbrev ttu0 : Oper := { dst := some 33, op := Op.move (Operand.tmp 6), type := 126, pos := "state.go:99", after := #[], guard := none }
abbrev ttu1 : Oper := { dst := some 34, op := Op.nilCheck (Operand.tmp 33), type := 0, pos := "state.go:99", after := #[{ on := 0, ground := Ground.data }], guard := none }
abbrev ttu2 : Oper := { dst := some 35, op := Op.fieldAddr 63 (Operand.tmp 34) 5, type := 0, pos := "state.go:99", after := #[{ on := 1, ground := Ground.data }], guard := none }
abbrev ttu3 : Oper := { dst := some 36, op := Op.load 61 (Operand.tmp 35), type := 61, pos := "state.go:99", after := #[{ on := 2, ground := Ground.data }], guard := none }
abbrev ttu4 : Oper := { dst := some 37, op := Op.fieldAddr 45 (Operand.tmp 3) 7, type := 0, pos := "state.go:99", after := #[], guard := none }
abbrev ttu5 : Oper := { dst := some 38, op := Op.load 3 (Operand.tmp 37), type := 3, pos := "state.go:99", after := #[{ on := 4, ground := Ground.data }], guard := none }
abbrev ttu6 : Oper := { dst := some 39, op := Op.move (Operand.tmp 0), type := 94, pos := "state.go:99", after := #[], guard := none }
abbrev ttu7 : Oper := { dst := some 40, op := Op.nilCheck (Operand.tmp 39), type := 0, pos := "state.go:99", after := #[{ on := 6, ground := Ground.data }], guard := none }
abbrev ttu8 : Oper := { dst := some 41, op := Op.fieldAddr 84 (Operand.tmp 40) 0, type := 0, pos := "state.go:99", after := #[{ on := 7, ground := Ground.data }], guard := none }
abbrev ttu9 : Oper := { dst := some 42, op := Op.fieldAddr 23 (Operand.tmp 41) 4, type := 0, pos := "state.go:99", after := #[{ on := 8, ground := Ground.data }], guard := none }
abbrev ttu10 : Oper := { dst := some 43, op := Op.load 3 (Operand.tmp 42), type := 3, pos := "state.go:99", after := #[{ on := 9, ground := Ground.data }], guard := none }
abbrev ttu11 : Oper := { dst := some 44, op := Op.move (Operand.tmp 0), type := 94, pos := "state.go:99", after := #[], guard := none }
abbrev ttu12 : Oper := { dst := some 45, op := Op.nilCheck (Operand.tmp 44), type := 0, pos := "state.go:99", after := #[{ on := 11, ground := Ground.data }], guard := none }
abbrev ttu13 : Oper := { dst := some 46, op := Op.fieldAddr 84 (Operand.tmp 45) 0, type := 0, pos := "state.go:99", after := #[{ on := 12, ground := Ground.data }], guard := none }
abbrev ttu14 : Oper := { dst := some 47, op := Op.fieldAddr 23 (Operand.tmp 46) 5, type := 0, pos := "state.go:99", after := #[{ on := 13, ground := Ground.data }], guard := none }
abbrev ttu15 : Oper := { dst := some 48, op := Op.load 3 (Operand.tmp 47), type := 3, pos := "state.go:99", after := #[{ on := 14, ground := Ground.data }], guard := none }
abbrev ttu16 : Oper := { dst := some 49, op := Op.call { callee := Callee.value (Operand.func 86), args := #[Operand.tmp 36, Operand.tmp 38, Operand.tmp 43, Operand.tmp 48], argTypes := #[61, 3, 3, 3] }, type := 127, pos := "state.go:99", after := #[{ on := 3, ground := Ground.data }, { on := 5, ground := Ground.data }, { on := 10, ground := Ground.data }, { on := 15, ground := Ground.data }], guard := none }
abbrev ttu17 : Oper := { dst := some 32, op := Op.move (Operand.tmp 49), type := 127, pos := "state.go:99", after := #[{ on := 16, ground := Ground.data }], guard := none }
abbrev ttu18 : Oper := { dst := some 50, op := Op.extract (Operand.tmp 32) 0, type := 61, pos := "state.go:99", after := #[{ on := 17, ground := Ground.data }], guard := none }
abbrev ttu19 : Oper := { dst := some 51, op := Op.extract (Operand.tmp 32) 1, type := 31, pos := "state.go:99", after := #[{ on := 17, ground := Ground.data }, { on := 21, ground := Ground.gcOnly Departure.lateStores }], guard := none }
abbrev ttu20 : Oper := { dst := some 7, op := Op.alloc 61, type := 0, pos := "state.go:99", after := #[], guard := none }
abbrev ttu21 : Oper := { dst := none, op := Op.store 61 (Operand.tmp 7) (Operand.tmp 50), type := 0, pos := "state.go:99", after := #[{ on := 20, ground := Ground.data }, { on := 18, ground := Ground.data }, { on := 16, ground := Ground.chain }, { on := 0, ground := Ground.phase }, { on := 1, ground := Ground.phase }, { on := 2, ground := Ground.phase }, { on := 3, ground := Ground.phase }, { on := 4, ground := Ground.phase }, { on := 5, ground := Ground.phase }, { on := 6, ground := Ground.phase }, { on := 7, ground := Ground.phase }, { on := 8, ground := Ground.phase }, { on := 9, ground := Ground.phase }, { on := 10, ground := Ground.phase }, { on := 11, ground := Ground.phase }, { on := 12, ground := Ground.phase }, { on := 13, ground := Ground.phase }, { on := 14, ground := Ground.phase }, { on := 15, ground := Ground.phase }, { on := 16, ground := Ground.phase }, { on := 17, ground := Ground.phase }, { on := 18, ground := Ground.phase }, { on := 19, ground := Ground.textOnly Departure.lateStores }, { on := 20, ground := Ground.phase }], guard := none }
abbrev ttu22 : Oper := { dst := some 8, op := Op.assign (Operand.tmp 51), type := 31, pos := "state.go:99", after := #[{ on := 19, ground := Ground.data }, { on := 21, ground := Ground.chain }, { on := 0, ground := Ground.phase }, { on := 1, ground := Ground.phase }, { on := 2, ground := Ground.phase }, { on := 3, ground := Ground.phase }, { on := 4, ground := Ground.phase }, { on := 5, ground := Ground.phase }, { on := 6, ground := Ground.phase }, { on := 7, ground := Ground.phase }, { on := 8, ground := Ground.phase }, { on := 9, ground := Ground.phase }, { on := 10, ground := Ground.phase }, { on := 11, ground := Ground.phase }, { on := 12, ground := Ground.phase }, { on := 13, ground := Ground.phase }, { on := 14, ground := Ground.phase }, { on := 15, ground := Ground.phase }, { on := 16, ground := Ground.phase }, { on := 17, ground := Ground.phase }, { on := 18, ground := Ground.phase }, { on := 19, ground := Ground.phase }, { on := 20, ground := Ground.phase }, { on := 21, ground := Ground.phase }], guard := none }
abbrev TLkS : TypeId := 61
section
variable {w0 W : World} {C : Ass} {p : Nat} {c : Cf} {h : Sv} {s : St} {m : Option Nat} {user session address ea eb ec tick : Int}
theorem getD_set {us : List Us} {k : Nat} (hk : k < us.length) (y : Us) : (us.set k y).getD k Us.none = y := by simp [List.getD, hk]
theorem TD.putL (hC : C.Good) {g : Nat} (hg : h.u = some ⟨g, 0, .none⟩) {k : Nat} (hk : k < s.us.length) {u : Us} (hu : s.us.getD k Us.none = u) {F U : Int} (q : At w0 (TD p c h s m C) W) :
    At w0 (TD p c h { s with us := s.us.set k { u with lf := F, lu := U } } m C) ((W.setCell ⟨g, k * 9 + 5, .none⟩ (.int .i64 F)).setCell ⟨g, k * 9 + 6, .none⟩ (.int .i64 U)) := by
  have q1 := TD.putU hC hg hk (f := 5) (by decide) (y := { u with lf := F }) (v := .int .i64 F) (by rw [hu]; rfl) q
  have q2 := TD.putU (s := { s with us := s.us.set k { u with lf := F } }) hC hg (by rw [List.length_set]; exact hk) (f := 6) (by decide) (y := { u with lf := F, lu := U }) (v := .int .i64 U) (by dsimp only; rw [getD_set hk]; rfl) q1
  dsimp only at q2
  rwa [List.set_set] at q2
set_option maxRecDepth 100000 in
set_option maxHeartbeats 8000000 in
theorem ttu_n (hC : C.Good) (q : At w0 (TD p c h s m C) W) (hfu : s.us.length ≤ 1954687338263) {kind : Int} (hj : usAt s.us user = none) :
    Calls Tryz.prog 62 #[.pointer (some ⟨p, 0, none⟩), .agg (evA ⟨kind, user, session, address, ea, eb, ec, tick⟩)] W fun e w' => e = .returned (.bool false) ∧ At w0 C w' := by
  have HJ : ixN (usAt s.us user) = -1 := by rw [hj]; rfl
  have HQ := Lib.hid (TD.hold hC q (evA ⟨kind, user, session, address, ea, eb, ec, tick⟩) TEv)
  have HU := Lib.hid (HJ ▸ tuserat (TD.blk HQ.out) (TD.us HQ.out hfu) user)
  clear q hj HJ
  go_enter Tryz.func62, Tryz.ntmps62
  go_wp2_with (go_at_call 77; (with_reducible refine HU.out.mono ?_); rintro e w1 ⟨rfl, hb⟩; have q1 := HQ.out.lay (TD_good ((ownA_good _ _ _).star hC)) hb; have HQ1 := Lib.hid q1; clear q1 hb)
  go_ret
  exact ⟨rfl, (TD.none HQ1.out).drop⟩
set_option maxRecDepth 100000 in
set_option maxHeartbeats 16000000 in
theorem ttu_4 (hC : C.Good) (q : At w0 (TD p c h s m C) W) (hfu : s.us.length ≤ 1954687338263) {j : Nat} (hj : usAt s.us user = some j) {u : Us} (hu : s.us.getD j Us.none = u)  :
    Calls Tryz.prog 62 #[.pointer (some ⟨p, 0, none⟩), .agg (evA ⟨4, user, session, address, ea, eb, ec, tick⟩)] W fun e w' => e = .returned (.bool true) ∧ ∃ h m, At w0 (TD p c h { s with us := s.us.set j { u with lf := 0, lu := 0 } } m C) w' := by
  obtain ⟨gu, guc, gs, gsc, gp, gpc, gi, gic⟩ := h
  have hjl := usAt_lt hj
  obtain ⟨tb, rfl, -, -⟩ : ∃ g, gu = some ⟨g, 0, none⟩ ∧ s.us.length = s.us.length ∧ s.us.length ≤ guc := us_big (q.imp TD.outU) (by omega)
  have HJ : ixN (usAt s.us user) = (j : Int) := by rw [hj]; rfl
  have HQ := Lib.hid (TD.hold hC q (evA ⟨4, user, session, address, ea, eb, ec, tick⟩) TEv)
  have HU := Lib.hid (HJ ▸ tuserat (TD.blk HQ.out) (TD.us HQ.out hfu) user)
  have hjI : (j : Int) < (s.us.length : Int) := by omega
  have hj0 : ¬ (j : Int) < 0 := by omega
  have HH := Lib.hid (And.intro hjl hu)
  clear q hj hu HJ hjl
  go_enter Tryz.func62, Tryz.ntmps62
  go_wp2_with (first
    | (go_at_call 77; (with_reducible refine HU.out.mono ?_); rintro e w1 ⟨rfl, hb⟩; have q1 := HQ.out.lay (TD_good ((ownA_good _ _ _).star hC)) hb; have e1 := (TD.blk q1).cell; have x1 := (TD.ev q1).cell; obtain ⟨v0, v4, v5, v6, v7, v8, vf⟩ := TD.userCells rfl HH.out.1 HH.out.2 q1; have vl := World.block_lt_of_cell? _ _ v4; have HQ1 := Lib.hid q1; clear q1 hb v0 v4))
  have HF := Lib.hid (TD.unhold (TD.putL ((ownA_good _ _ _).star hC) rfl HH.out.1 HH.out.2 (F := 0) (U := 0) HQ1.out))
  go_ret
  exact ⟨rfl, _, _, HF.out⟩
set_option maxRecDepth 100000 in
set_option maxHeartbeats 16000000 in
theorem ttu_7y (hC : C.Good) (q : At w0 (TD p c h s m C) W) (hfu : s.us.length ≤ 1954687338263) {j : Nat} (hj : usAt s.us user = some j) {u : Us} (hu : s.us.getD j Us.none = u) (g0 : 0 ≤ u.g) (g1 : u.g < 1073741823) :
    Calls Tryz.prog 62 #[.pointer (some ⟨p, 0, none⟩), .agg (evA ⟨7, user, session, address, ea, eb, ec, tick⟩)] W fun e w' => e = .returned (.bool true) ∧ ∃ h m, At w0 (TD p c h { s with us := s.us.set j { u with g := u.g + 1 } } m C) w' := by
  obtain ⟨gu, guc, gs, gsc, gp, gpc, gi, gic⟩ := h
  have hjl := usAt_lt hj
  obtain ⟨tb, rfl, -, -⟩ : ∃ g, gu = some ⟨g, 0, none⟩ ∧ s.us.length = s.us.length ∧ s.us.length ≤ guc := us_big (q.imp TD.outU) (by omega)
  have HJ : ixN (usAt s.us user) = (j : Int) := by rw [hj]; rfl
  have HQ := Lib.hid (TD.hold hC q (evA ⟨7, user, session, address, ea, eb, ec, tick⟩) TEv)
  have HU := Lib.hid (HJ ▸ tuserat (TD.blk HQ.out) (TD.us HQ.out hfu) user)
  have hjI : (j : Int) < (s.us.length : Int) := by omega
  have hj0 : ¬ (j : Int) < 0 := by omega
  have HH := Lib.hid (And.intro hjl hu)
  clear q hj hu HJ hjl
  go_enter Tryz.func62, Tryz.ntmps62
  go_wp2_with (first
    | (go_at_call 77; (with_reducible refine HU.out.mono ?_); rintro e w1 ⟨rfl, hb⟩; have q1 := HQ.out.lay (TD_good ((ownA_good _ _ _).star hC)) hb; have e1 := (TD.blk q1).cell; have x1 := (TD.ev q1).cell; obtain ⟨v0, v4, v5, v6, v7, v8, vf⟩ := TD.userCells rfl HH.out.1 HH.out.2 q1; have vl := World.block_lt_of_cell? _ _ v4; have HQ1 := Lib.hid q1; clear q1 hb v0 v4)
    | (go_at_call 60; (with_reducible refine (traise_yes v8 (vf _) g1 (by omega)).mono ?_); rintro e w2 ⟨rfl, rfl⟩))
  have HF := Lib.hid (TD.unhold (TD.putU ((ownA_good _ _ _).star hC) rfl HH.out.1 (f := 8) (by decide) (y := { u with g := u.g + 1 }) (v := .int .i64 (u.g + 1)) (by rw [HH.out.2]; rfl) HQ1.out))
  go_ret
  exact ⟨rfl, _, _, HF.out⟩
set_option maxRecDepth 100000 in
set_option maxHeartbeats 16000000 in
theorem ttu_7z (hC : C.Good) (q : At w0 (TD p c h s m C) W) (hfu : s.us.length ≤ 1954687338263) {j : Nat} (hj : usAt s.us user = some j) {u : Us} (hu : s.us.getD j Us.none = u) (g0 : 0 ≤ u.g) (g1 : ¬ u.g < 1073741823) :
    Calls Tryz.prog 62 #[.pointer (some ⟨p, 0, none⟩), .agg (evA ⟨7, user, session, address, ea, eb, ec, tick⟩)] W fun e w' => e = .returned (.bool false) ∧ At w0 C w' := by
  obtain ⟨gu, guc, gs, gsc, gp, gpc, gi, gic⟩ := h
  have hjl := usAt_lt hj
  obtain ⟨tb, rfl, -, -⟩ : ∃ g, gu = some ⟨g, 0, none⟩ ∧ s.us.length = s.us.length ∧ s.us.length ≤ guc := us_big (q.imp TD.outU) (by omega)
  have HJ : ixN (usAt s.us user) = (j : Int) := by rw [hj]; rfl
  have HQ := Lib.hid (TD.hold hC q (evA ⟨7, user, session, address, ea, eb, ec, tick⟩) TEv)
  have HU := Lib.hid (HJ ▸ tuserat (TD.blk HQ.out) (TD.us HQ.out hfu) user)
  have hjI : (j : Int) < (s.us.length : Int) := by omega
  have hj0 : ¬ (j : Int) < 0 := by omega
  have HH := Lib.hid (And.intro hjl hu)
  have HG := Lib.hid g1
  clear q hj hu HJ hjl
  go_enter Tryz.func62, Tryz.ntmps62
  go_wp2_with (first
    | (go_at_call 77; (with_reducible refine HU.out.mono ?_); rintro e w1 ⟨rfl, hb⟩; have q1 := HQ.out.lay (TD_good ((ownA_good _ _ _).star hC)) hb; have e1 := (TD.blk q1).cell; have x1 := (TD.ev q1).cell; obtain ⟨v0, v4, v5, v6, v7, v8, vf⟩ := TD.userCells rfl HH.out.1 HH.out.2 q1; have vl := World.block_lt_of_cell? _ _ v4; have HQ1 := Lib.hid q1; clear q1 hb v0 v4)
    | (go_at_call 60; (with_reducible refine (traise_no v8 (by have := HG.out; omega)).mono ?_); rintro e w2 ⟨rfl, rfl⟩))
  go_ret
  exact ⟨rfl, (TD.none HQ1.out).drop⟩
set_option maxRecDepth 100000 in
set_option maxHeartbeats 16000000 in
theorem ttu_7x (hC : C.Good) (q : At w0 (TD p c h s m C) W) (hfu : s.us.length ≤ 1954687338263) {j : Nat} (hj : usAt s.us user = some j) {u : Us} (hu : s.us.getD j Us.none = u) (g0 : ¬ 0 ≤ u.g) :
    Calls Tryz.prog 62 #[.pointer (some ⟨p, 0, none⟩), .agg (evA ⟨7, user, session, address, ea, eb, ec, tick⟩)] W fun e w' => e = .returned (.bool false) ∧ At w0 C w' := by
  obtain ⟨gu, guc, gs, gsc, gp, gpc, gi, gic⟩ := h
  have hjl := usAt_lt hj
  obtain ⟨tb, rfl, -, -⟩ : ∃ g, gu = some ⟨g, 0, none⟩ ∧ s.us.length = s.us.length ∧ s.us.length ≤ guc := us_big (q.imp TD.outU) (by omega)
  have HJ : ixN (usAt s.us user) = (j : Int) := by rw [hj]; rfl
  have HQ := Lib.hid (TD.hold hC q (evA ⟨7, user, session, address, ea, eb, ec, tick⟩) TEv)
  have HU := Lib.hid (HJ ▸ tuserat (TD.blk HQ.out) (TD.us HQ.out hfu) user)
  have hjI : (j : Int) < (s.us.length : Int) := by omega
  have hj0 : ¬ (j : Int) < 0 := by omega
  have HH := Lib.hid (And.intro hjl hu)
  clear q hj hu HJ hjl
  go_enter Tryz.func62, Tryz.ntmps62
  go_wp2_with (first
    | (go_at_call 77; (with_reducible refine HU.out.mono ?_); rintro e w1 ⟨rfl, hb⟩; have q1 := HQ.out.lay (TD_good ((ownA_good _ _ _).star hC)) hb; have e1 := (TD.blk q1).cell; have x1 := (TD.ev q1).cell; obtain ⟨v0, v4, v5, v6, v7, v8, vf⟩ := TD.userCells rfl HH.out.1 HH.out.2 q1; have vl := World.block_lt_of_cell? _ _ v4; have HQ1 := Lib.hid q1; clear q1 hb v0 v4)
    | fail)
  go_ret
  exact ⟨rfl, (TD.none HQ1.out).drop⟩
set_option maxRecDepth 100000 in
set_option maxHeartbeats 16000000 in
theorem ttu_3z (hC : C.Good) (q : At w0 (TD p c h s m C) W) (hfu : s.us.length ≤ 1954687338263) {j : Nat} (hj : usAt s.us user = some j) {u : Us} (hu : s.us.getD j Us.none = u) (hst : ea ≤ u.st) :
    Calls Tryz.prog 62 #[.pointer (some ⟨p, 0, none⟩), .agg (evA ⟨3, user, session, address, ea, eb, ec, tick⟩)] W fun e w' => e = .returned (.bool false) ∧ At w0 C w' := by
  obtain ⟨gu, guc, gs, gsc, gp, gpc, gi, gic⟩ := h
  have hjl := usAt_lt hj
  obtain ⟨tb, rfl, -, -⟩ : ∃ g, gu = some ⟨g, 0, none⟩ ∧ s.us.length = s.us.length ∧ s.us.length ≤ guc := us_big (q.imp TD.outU) (by omega)
  have HJ : ixN (usAt s.us user) = (j : Int) := by rw [hj]; rfl
  have HQ := Lib.hid (TD.hold hC q (evA ⟨3, user, session, address, ea, eb, ec, tick⟩) TEv)
  have HU := Lib.hid (HJ ▸ tuserat (TD.blk HQ.out) (TD.us HQ.out hfu) user)
  have hjI : (j : Int) < (s.us.length : Int) := by omega
  have hj0 : ¬ (j : Int) < 0 := by omega
  have HH := Lib.hid (And.intro hjl hu)
  clear q hj hu HJ hjl
  go_enter Tryz.func62, Tryz.ntmps62
  go_wp2_with (first
    | (go_at_call 77; (with_reducible refine HU.out.mono ?_); rintro e w1 ⟨rfl, hb⟩; have q1 := HQ.out.lay (TD_good ((ownA_good _ _ _).star hC)) hb; have e1 := (TD.blk q1).cell; have x1 := (TD.ev q1).cell; obtain ⟨v0, v4, v5, v6, v7, v8, vf⟩ := TD.userCells rfl HH.out.1 HH.out.2 q1; have vl := World.block_lt_of_cell? _ _ v4; have HQ1 := Lib.hid q1; clear q1 hb v0 v4))
  skip
  have f1 := fun z : Wl w1 => (TD.blk (HQ1.out.lay (TD_good ((ownA_good _ _ _).star hC)) z.h)).cell
  have f2 := fun z : Wl w1 => (TD.ev (HQ1.out.lay (TD_good ((ownA_good _ _ _).star hC)) z.h)).cell
  have f3 := fun z : Wl w1 => (TD.userCells rfl HH.out.1 HH.out.2 (HQ1.out.lay (TD_good ((ownA_good _ _ _).star hC)) z.h)).2.2.2.2.1
  refine wp_region_wl w1 (Below.refl _ _) (by kernel_rfl) (by kernel_rfl) ?_
  repeat (go_big_quiet_step (fail))
  refine wpQuiet_nil ?_
  rintro _ ⟨⟨Z, hZ⟩, rfl⟩
  have HQ2 := Lib.hid (HQ1.out.lay (TD_good ((ownA_good _ _ _).star hC)) hZ)
  clear f1 f2 f3 v5 v6 v7 v8 vf e1 x1 vl
  have e2 := (TD.blk HQ2.out).cell
  have x2 := (TD.ev HQ2.out).cell
  obtain ⟨v0, v4, v5, v6, v7, v8, vf⟩ := TD.userCells rfl HH.out.1 HH.out.2 HQ2.out
  have vl := World.block_lt_of_cell? _ _ v4
  clear v0 v4
  go_wp2
  go_ret
  exact ⟨rfl, (TD.none HQ2.out).drop⟩
set_option maxRecDepth 100000 in
set_option maxHeartbeats 16000000 in
theorem ttu_3y (hC : C.Good) (q : At w0 (TD p c h s m C) W) (hfu : s.us.length ≤ 1954687338263) {j : Nat} (hj : usAt s.us user = some j) {u : Us} (hu : s.us.getD j Us.none = u) (hst : ¬ ea ≤ u.st) :
    Calls Tryz.prog 62 #[.pointer (some ⟨p, 0, none⟩), .agg (evA ⟨3, user, session, address, ea, eb, ec, tick⟩)] W fun e w' => e = .returned (.bool true) ∧ ∃ h m, At w0 (TD p c h { s with us := s.us.set j { u with st := ea, lf := 0, lu := 0 } } m C) w' := by
  obtain ⟨gu, guc, gs, gsc, gp, gpc, gi, gic⟩ := h
  have hjl := usAt_lt hj
  obtain ⟨tb, rfl, -, -⟩ : ∃ g, gu = some ⟨g, 0, none⟩ ∧ s.us.length = s.us.length ∧ s.us.length ≤ guc := us_big (q.imp TD.outU) (by omega)
  have HJ : ixN (usAt s.us user) = (j : Int) := by rw [hj]; rfl
  have HQ := Lib.hid (TD.hold hC q (evA ⟨3, user, session, address, ea, eb, ec, tick⟩) TEv)
  have HU := Lib.hid (HJ ▸ tuserat (TD.blk HQ.out) (TD.us HQ.out hfu) user)
  have hjI : (j : Int) < (s.us.length : Int) := by omega
  have hj0 : ¬ (j : Int) < 0 := by omega
  have HH := Lib.hid (And.intro hjl hu)
  clear q hj hu HJ hjl
  go_enter Tryz.func62, Tryz.ntmps62
  go_wp2_with (first
    | (go_at_call 77; (with_reducible refine HU.out.mono ?_); rintro e w1 ⟨rfl, hb⟩; have q1 := HQ.out.lay (TD_good ((ownA_good _ _ _).star hC)) hb; have e1 := (TD.blk q1).cell; have x1 := (TD.ev q1).cell; obtain ⟨v0, v4, v5, v6, v7, v8, vf⟩ := TD.userCells rfl HH.out.1 HH.out.2 q1; have vl := World.block_lt_of_cell? _ _ v4; have HQ1 := Lib.hid q1; clear q1 hb v0 v4))
  skip
  have f1 := fun z : Wl w1 => (TD.blk (HQ1.out.lay (TD_good ((ownA_good _ _ _).star hC)) z.h)).cell
  have f2 := fun z : Wl w1 => (TD.ev (HQ1.out.lay (TD_good ((ownA_good _ _ _).star hC)) z.h)).cell
  have f3 := fun z : Wl w1 => (TD.userCells rfl HH.out.1 HH.out.2 (HQ1.out.lay (TD_good ((ownA_good _ _ _).star hC)) z.h)).2.2.2.2.1
  refine wp_region_wl w1 (Below.refl _ _) (by kernel_rfl) (by kernel_rfl) ?_
  repeat (go_big_quiet_step (fail))
  refine wpQuiet_nil ?_
  rintro _ ⟨⟨Z, hZ⟩, rfl⟩
  have HQ2 := Lib.hid (HQ1.out.lay (TD_good ((ownA_good _ _ _).star hC)) hZ)
  clear f1 f2 f3 v5 v6 v7 v8 vf e1 x1 vl
  have e2 := (TD.blk HQ2.out).cell
  have x2 := (TD.ev HQ2.out).cell
  obtain ⟨v0, v4, v5, v6, v7, v8, vf⟩ := TD.userCells rfl HH.out.1 HH.out.2 HQ2.out
  have vl := World.block_lt_of_cell? _ _ v4
  clear v0 v4
  go_wp2
  have qa := TD.putU ((ownA_good _ _ _).star hC) rfl HH.out.1 (f := 7) (by decide) (y := { u with st := ea }) (v := .int .i64 ea) (by rw [HH.out.2]; rfl) HQ2.out
  have qb := TD.putL (s := { s with us := s.us.set j { u with st := ea } }) ((ownA_good _ _ _).star hC) rfl (by rw [List.length_set]; exact HH.out.1) (getD_set HH.out.1 _) (F := 0) (U := 0) qa
  dsimp only at qb
  rw [List.set_set] at qb
  have HF := Lib.hid (TD.unhold qb)
  clear qa qb
  go_ret
  exact ⟨rfl, _, _, HF.out⟩
set_option maxRecDepth 100000 in
set_option maxHeartbeats 16000000 in
theorem ttu_2 (hC : C.Good) (q : At w0 (TD p c h s m C) W) (hfu : s.us.length ≤ 1954687338263) {j : Nat} (hj : usAt s.us user = some j) {u : Us} (hu : s.us.getD j Us.none = u) {F U E : Int} (hF : lkF u.lf u.lu tick c.fai c.loc = F) (hU : lkU u.lf u.lu tick c.fai c.loc = U) (hE : lkE u.lf u.lu tick c.fai c.loc = E) :
    Calls Tryz.prog 62 #[.pointer (some ⟨p, 0, none⟩), .agg (evA ⟨2, user, session, address, ea, eb, ec, tick⟩)] W fun e w' => e = .returned (.bool (decide (E = 0))) ∧ ∃ h m, At w0 (TD p c h { s with us := s.us.set j { u with lf := F, lu := U } } m C) w' := by
  obtain ⟨gu, guc, gs, gsc, gp, gpc, gi, gic⟩ := h
  have hjl := usAt_lt hj
  obtain ⟨tb, rfl, -, -⟩ : ∃ g, gu = some ⟨g, 0, none⟩ ∧ s.us.length = s.us.length ∧ s.us.length ≤ guc := us_big (q.imp TD.outU) (by omega)
  have HJ : ixN (usAt s.us user) = (j : Int) := by rw [hj]; rfl
  have HQ := Lib.hid (TD.hold hC q (evA ⟨2, user, session, address, ea, eb, ec, tick⟩) TEv)
  have HU := Lib.hid (HJ ▸ tuserat (TD.blk HQ.out) (TD.us HQ.out hfu) user)
  have hjI : (j : Int) < (s.us.length : Int) := by omega
  have hj0 : ¬ (j : Int) < 0 := by omega
  have HH := Lib.hid (And.intro hjl hu)
  have HL := Lib.hid (fun V => kfail u.lf u.lu tick c.fai c.loc V)
  rw [hF, hU, hE] at HL
  clear hF hU hE
  clear q hj hu HJ hjl
  go_enter Tryz.func62, Tryz.ntmps62
  go_wp2_with (first
    | (go_at_call 77; (with_reducible refine HU.out.mono ?_); rintro e w1 ⟨rfl, hb⟩; have q1 := HQ.out.lay (TD_good ((ownA_good _ _ _).star hC)) hb; have e1 := (TD.blk q1).cell; have x1 := (TD.ev q1).cell; obtain ⟨v0, v4, v5, v6, v7, v8, vf⟩ := TD.userCells rfl HH.out.1 HH.out.2 q1; have vl := World.block_lt_of_cell? _ _ v4; have HQ1 := Lib.hid q1; clear q1 hb v0 v4))
  refine region_held (S := fun V => At w0 (TD p c ⟨some ⟨tb, 0, none⟩, guc, gs, gsc, gp, gpc, gi, gic⟩ s m ((ownA W.heap.size (evA ⟨2, user, session, address, ea, eb, ec, tick⟩) TEv).star C)) V) 23 [false, false, false, false, false, false, false, false, false, false, false, false, false, false, false, false, false, false, false, false, false, false, false] rfl rfl (by as_aux_lemma => kernel_rfl) fun V2 hW => ?_
  have q2 : At w0 (TD p c ⟨some ⟨tb, 0, none⟩, guc, gs, gsc, gp, gpc, gi, gic⟩ s m ((ownA W.heap.size (evA ⟨2, user, session, address, ea, eb, ec, tick⟩) TEv).star C)) V2 := by rw [hW]; exact At.drewn HQ1.out (TD_good ((ownA_good _ _ _).star hC))
  clear hW v5 v6 v7 v8 vf e1 x1 vl
  refine run_go [(0, ttu0, (some 33)), (1, ttu1, (some 34)), (2, ttu2, (some 35)), (3, ttu3, (some 36)), (4, ttu4, (some 37)), (5, ttu5, (some 38)), (6, ttu6, (some 39)), (7, ttu7, (some 40)), (8, ttu8, (some 41)), (9, ttu9, (some 42)), (10, ttu10, (some 43)), (11, ttu11, (some 44)), (12, ttu12, (some 45)), (13, ttu13, (some 46)), (14, ttu14, (some 47)), (15, ttu15, (some 48))] (by as_aux_lemma => kernel_rfl) ?_
  iterate 16 (refine run_take ?_ rfl rfl (fun _ _ _ h => h) (Or.inl ⟨by rfl, ?_⟩) q2 ?_; rotate_left; (· (intro w0' hy0; have k1 := (TD.blk hy0).cell; have k2 := (TD.ev hy0).cell; obtain ⟨y0, y4, y5, y6, y7, y8, yf⟩ := TD.userCells rfl HH.out.1 HH.out.2 hy0; (go_simp <;> with_reducible rfl))); simp only [Act.put, List.setIfInBounds_toArray, List.set_cons_zero, List.set_cons_succ])
  refine run_end ?_
  refine jtwo 16 20 (by as_aux_lemma => kernel_rfl) ?_ ?_
  · refine jop_callv 16 ttu16 (some 49) (fun v Z => v = .tuple #[.agg #[.int .i64 F, .int .i64 U], .int .i64 E] ∧ At w0 (TD p c ⟨some ⟨tb, 0, none⟩, guc, gs, gsc, gp, gpc, gi, gic⟩ s m ((ownA W.heap.size (evA ⟨2, user, session, address, ea, eb, ec, tick⟩) TEv).star C)) Z) 86 #[.agg #[.int .i64 u.lf, .int .i64 u.lu], .int .i64 tick, .int .i64 c.fai, .int .i64 c.loc] rfl rfl (by rfl) (by go_simp <;> with_reducible rfl) ((HL.out _).mono fun _ _ ⟨e1, b⟩ => ⟨_, e1, rfl, q2.lay (TD_good ((ownA_good _ _ _).star hC)) b⟩) (fun v Z ⟨_, z⟩ => z) ?_
    rintro v V3 ⟨rfl, q3⟩
    simp only [Act.put, List.setIfInBounds_toArray, List.set_cons_zero, List.set_cons_succ]
    have hS3 := q3
    refine run_go [(17, ttu17, (some 32)), (18, ttu18, (some 50)), (19, ttu19, (some 51))] (by as_aux_lemma => kernel_rfl) ?_
    iterate 3 (refine run_take ?_ rfl rfl (fun _ _ _ h => h) (Or.inl ⟨by rfl, ?_⟩) hS3 ?_; rotate_left; (· (intro w0' hy0; have k1 := (TD.blk hy0).cell; have k2 := (TD.ev hy0).cell; obtain ⟨y0, y4, y5, y6, y7, y8, yf⟩ := TD.userCells rfl HH.out.1 HH.out.2 hy0; (go_simp <;> with_reducible rfl))); simp only [Act.put, List.setIfInBounds_toArray, List.set_cons_zero, List.set_cons_succ])
    refine run_end ?_
    have q4 := TD.hold ((ownA_good _ _ _).star hC) q3 #[.int .i64 0, .int .i64 0] TLkS
    refine held_one 20 ttu20 (some 7) (.pointer (some ⟨V3.heap.size, 0, none⟩)) (V3.alloc (.cells #[.int .i64 0, .int .i64 0] TLkS)) (by as_aux_lemma => kernel_rfl) rfl rfl (by rfl) (by go_simp <;> with_reducible rfl) ((TD.unhold q4)) ?_
    simp only [Act.put, List.setIfInBounds_toArray, List.set_cons_zero, List.set_cons_succ]
    generalize V3.alloc (.cells #[.int .i64 0, .int .i64 0] TLkS) = V4 at *
    generalize V3.heap.size = bl at *
    have hS4 := TD.unhold q4
    have kb := TD.ev q4
    have eb := kb.cell
    have fb := kb.froz
    have lb := kb.lt
    have q5 := ((((q4.imp TD.outof).poke (TD_good ((ownA_good _ _ _).star hC)) 0 (.int .i64 F)).poke (TD_good ((ownA_good _ _ _).star hC)) 1 (.int .i64 U)).imp TD.into)
    refine held_void 21 ttu21 ((V4.setCell ⟨bl, 0, none⟩ (.int .i64 F)).setCell ⟨bl, 1, none⟩ (.int .i64 U)) (by kernel_rfl) rfl (by rfl) (by go_simp <;> with_reducible rfl) (TD.unhold q5) ?_
    simp only [Act.put, List.setIfInBounds_toArray, List.set_cons_zero, List.set_cons_succ]
    clear kb eb fb lb
    generalize ((V4.setCell ⟨bl, 0, none⟩ (.int .i64 F)).setCell ⟨bl, 1, none⟩ (.int .i64 U)) = V5 at *
    have hS5 := TD.unhold q5
    refine run_go [(22, ttu22, (some 8))] (by as_aux_lemma => kernel_rfl) ?_
    iterate 1 (refine run_take ?_ rfl rfl (fun _ _ _ h => h) (Or.inl ⟨by rfl, ?_⟩) hS5 ?_; rotate_left; (· (intro w0' hy0; have k1 := (TD.blk hy0).cell; have k2 := (TD.ev hy0).cell; obtain ⟨y0, y4, y5, y6, y7, y8, yf⟩ := TD.userCells rfl HH.out.1 HH.out.2 hy0; (go_simp <;> with_reducible rfl))); simp only [Act.put, List.setIfInBounds_toArray, List.set_cons_zero, List.set_cons_succ])
    refine run_end ?_
    refine wpAnyH_done (by as_aux_lemma => kernel_rfl) ?_ _
    (try simp only [List.getElem_toArray, List.getElem_cons_succ, List.getElem_cons_zero, Act.put, List.setIfInBounds_toArray, List.set_cons_zero, List.set_cons_succ])
    have e3 := (TD.blk q5).cell
    have l3 := (TD.ev q5).cell
    obtain ⟨v0, v4, v5, v6, v7, v8, vf⟩ := TD.userCells rfl HH.out.1 HH.out.2 q5
    have vl := World.block_lt_of_cell? _ _ v4
    clear v0 v4
    have HF := Lib.hid (TD.unhold (TD.unhold (TD.putL ((ownA_good _ _ _).star ((ownA_good _ _ _).star hC)) rfl HH.out.1 HH.out.2 (F := F) (U := U) q5)))
    clear q5
    clear hS5
    go_wp2
    go_ret
    refine ⟨?_, ⟨some ⟨tb, 0, none⟩, guc, gs, gsc, gp, gpc, gi, gic⟩, m, HF.out⟩
    first | rfl | (simp; done) | trace_state
  · have q3 := TD.hold ((ownA_good _ _ _).star hC) q2 #[.int .i64 0, .int .i64 0] TLkS
    refine jop_one 20 ttu20 (some 7) (.pointer (some ⟨V2.heap.size, 0, none⟩)) (V2.alloc (.cells #[.int .i64 0, .int .i64 0] TLkS)) rfl rfl (by rfl) (by go_simp <;> with_reducible rfl) ((TD.unhold q3)) ?_
    simp only [Act.put, List.setIfInBounds_toArray, List.set_cons_zero, List.set_cons_succ]
    generalize V2.alloc (.cells #[.int .i64 0, .int .i64 0] TLkS) = V3 at *
    generalize V2.heap.size = bl at *
    have hS3 := TD.unhold q3
    refine held_callv 16 ttu16 (some 49) (fun v Z => v = .tuple #[.agg #[.int .i64 F, .int .i64 U], .int .i64 E] ∧ At w0 (TD p c ⟨some ⟨tb, 0, none⟩, guc, gs, gsc, gp, gpc, gi, gic⟩ s m ((ownA bl #[.int .i64 0, .int .i64 0] TLkS).star ((ownA W.heap.size (evA ⟨2, user, session, address, ea, eb, ec, tick⟩) TEv).star C))) Z) 86 #[.agg #[.int .i64 u.lf, .int .i64 u.lu], .int .i64 tick, .int .i64 c.fai, .int .i64 c.loc] (by as_aux_lemma => kernel_rfl) rfl rfl (by rfl) (by go_simp <;> with_reducible rfl) ((HL.out _).mono fun _ _ ⟨e1, b⟩ => ⟨_, e1, rfl, q3.lay (TD_good ((ownA_good _ _ _).star ((ownA_good _ _ _).star hC))) b⟩) (fun v Z ⟨_, z⟩ => (TD.unhold z)) ?_
    rintro v V4 ⟨rfl, q4⟩
    simp only [Act.put, List.setIfInBounds_toArray, List.set_cons_zero, List.set_cons_succ]
    have hS4 := (TD.unhold q4)
    refine run_go [(17, ttu17, (some 32)), (18, ttu18, (some 50)), (19, ttu19, (some 51))] (by as_aux_lemma => kernel_rfl) ?_
    iterate 3 (refine run_take ?_ rfl rfl (fun _ _ _ h => h) (Or.inl ⟨by rfl, ?_⟩) hS4 ?_; rotate_left; (· (intro w0' hy0; have k1 := (TD.blk hy0).cell; have k2 := (TD.ev hy0).cell; obtain ⟨y0, y4, y5, y6, y7, y8, yf⟩ := TD.userCells rfl HH.out.1 HH.out.2 hy0; (go_simp <;> with_reducible rfl))); simp only [Act.put, List.setIfInBounds_toArray, List.set_cons_zero, List.set_cons_succ])
    refine run_end ?_
    have kb := TD.ev q4
    have eb := kb.cell
    have fb := kb.froz
    have lb := kb.lt
    have q5 := ((((q4.imp TD.outof).poke (TD_good ((ownA_good _ _ _).star hC)) 0 (.int .i64 F)).poke (TD_good ((ownA_good _ _ _).star hC)) 1 (.int .i64 U)).imp TD.into)
    refine held_void 21 ttu21 ((V4.setCell ⟨bl, 0, none⟩ (.int .i64 F)).setCell ⟨bl, 1, none⟩ (.int .i64 U)) (by kernel_rfl) rfl (by rfl) (by go_simp <;> with_reducible rfl) (TD.unhold q5) ?_
    simp only [Act.put, List.setIfInBounds_toArray, List.set_cons_zero, List.set_cons_succ]
    clear kb eb fb lb
    generalize ((V4.setCell ⟨bl, 0, none⟩ (.int .i64 F)).setCell ⟨bl, 1, none⟩ (.int .i64 U)) = V5 at *
    have hS5 := TD.unhold q5
    refine run_go [(22, ttu22, (some 8))] (by as_aux_lemma => kernel_rfl) ?_
    iterate 1 (refine run_take ?_ rfl rfl (fun _ _ _ h => h) (Or.inl ⟨by rfl, ?_⟩) hS5 ?_; rotate_left; (· (intro w0' hy0; have k1 := (TD.blk hy0).cell; have k2 := (TD.ev hy0).cell; obtain ⟨y0, y4, y5, y6, y7, y8, yf⟩ := TD.userCells rfl HH.out.1 HH.out.2 hy0; (go_simp <;> with_reducible rfl))); simp only [Act.put, List.setIfInBounds_toArray, List.set_cons_zero, List.set_cons_succ])
    refine run_end ?_
    refine wpAnyH_done (by as_aux_lemma => kernel_rfl) ?_ _
    (try simp only [List.getElem_toArray, List.getElem_cons_succ, List.getElem_cons_zero, Act.put, List.setIfInBounds_toArray, List.set_cons_zero, List.set_cons_succ])
    have e3 := (TD.blk q5).cell
    have l3 := (TD.ev q5).cell
    obtain ⟨v0, v4, v5, v6, v7, v8, vf⟩ := TD.userCells rfl HH.out.1 HH.out.2 q5
    have vl := World.block_lt_of_cell? _ _ v4
    clear v0 v4
    have HF := Lib.hid (TD.unhold (TD.unhold (TD.putL ((ownA_good _ _ _).star ((ownA_good _ _ _).star hC)) rfl HH.out.1 HH.out.2 (F := F) (U := U) q5)))
    clear q5
    clear hS5
    go_wp2
    go_ret
    refine ⟨?_, ⟨some ⟨tb, 0, none⟩, guc, gs, gsc, gp, gpc, gi, gic⟩, m, HF.out⟩
    first | rfl | (simp; done) | trace_state
end
end Go.Proofs.YtopkcaflmpjhgaaGreat

