/- The reference's turned: an event of a user who is there. Condition: the rows' sizes. -/
import Derived.Test.YtopkcaflmpjhgaaGreatStr2
import Derived.Test.YtopkcaflmpjhgaaGreatBst
import Derived.Test.YtopkcaflmpjhgaaGreatBev
import Derived.Test.YtopkcaflmpjhgaaGreatBlo
namespace Go.Proofs.YtopkcaflmpjhgaaGreat
open Go Go.RowKit

abbrev evA (e : Ev) : Array Value := #[.int .i64 e.kind, .int .i64 e.user, .int .i64 e.session, .int .i64 e.address, .int .i64 e.a, .int .i64 e.b, .int .i64 e.c, .int .i64 e.tick]
/-- A state's zero value. -/
abbrev stZ : Array Value := #[.int .i64 0, .int .i64 0, .int .i64 0, .slice Option.none 0 0, .slice Option.none 0 0, .slice Option.none 0 0, .slice Option.none 0 0]
abbrev usA (x : Us) : Array Value := #[.int .i64 x.u, .int .i64 x.k, .int .i64 x.s, .int .i64 x.q, .int .i64 x.used, .int .i64 x.lf, .int .i64 x.lu, .int .i64 x.st, .int .i64 x.g]
theorem ob3 {w0 w : World} {R : Ass} (hR : R.Good) (h : At w0 R w) (c1 c2 c3 : Array Value) (T1 T2 T3 : TypeId) :
    At w0 (OB [(w.heap.size, c1, T1), (w.heap.size + 1, c2, T2), (w.heap.size + 1 + 1, c3, T3)] R) (((w.alloc (.cells c1 T1)).alloc (.cells c2 T2)).alloc (.cells c3 T3)) :=
  OB.hold hR (OB.hold hR (OB.hold hR (l := []) h c1 T1 rfl) c2 T2 (by simp)) c3 T3 (by simp)
theorem ob4 {w0 w : World} {R : Ass} (hR : R.Good) (h : At w0 R w) (c1 c2 c3 c4 : Array Value) (T1 T2 T3 T4 : TypeId) :
    At w0 (OB [(w.heap.size, c1, T1), (w.heap.size + 1, c2, T2), (w.heap.size + 1 + 1, c3, T3), (w.heap.size + 1 + 1 + 1, c4, T4)] R) ((((w.alloc (.cells c1 T1)).alloc (.cells c2 T2)).alloc (.cells c3 T3)).alloc (.cells c4 T4)) :=
  OB.hold hR (ob3 hR h c1 c2 c3 T1 T2 T3) c4 T4 (by simp)
/-- A user's cells in a row of one's own. -/
theorem usEl {w0 w : World} {C : Ass} {g n cap : Nat} {es : List Us} (h : At w0 ((rowE TUs 9 (.slice (some ⟨g, 0, Option.none⟩) n cap) es.length (usCells es)).star C) w) {k : Nat} (hk : k < es.length) {x : Us} (hx : es.getD k Us.none = x) :
    w.cell? ⟨g, k * 9, Option.none⟩ = some (.int .i64 x.u) ∧ w.cell? ⟨g, k * 9 + 1, Option.none⟩ = some (.int .i64 x.k) ∧ w.cell? ⟨g, k * 9 + 2, Option.none⟩ = some (.int .i64 x.s) ∧ w.cell? ⟨g, k * 9 + 3, Option.none⟩ = some (.int .i64 x.q) ∧ w.cell? ⟨g, k * 9 + 4, Option.none⟩ = some (.int .i64 x.used) ∧ w.cell? ⟨g, k * 9 + 5, Option.none⟩ = some (.int .i64 x.lf) ∧ w.cell? ⟨g, k * 9 + 6, Option.none⟩ = some (.int .i64 x.lu) ∧ w.cell? ⟨g, k * 9 + 7, Option.none⟩ = some (.int .i64 x.st) ∧ w.cell? ⟨g, k * 9 + 8, Option.none⟩ = some (.int .i64 x.g) ∧ (∀ j, w.frozen? ⟨g, j, Option.none⟩ = false) ∧ g < w.heap.size := by
  subst hx
  obtain ⟨h1, h2⟩ := usAt_row h
  have h3 := h1.elem hk
  simp only [Nat.zero_add] at h3
  obtain ⟨a0, a1, a2, a3, a4, a5, a6, a7, a8⟩ := h3
  have hr := h.erow
  obtain ⟨a3', c3, e3⟩ := rowE_shape hr
  obtain ⟨rfl, rfl, rfl⟩ : some ⟨g, 0, Option.none⟩ = a3' ∧ n = es.length ∧ cap = c3 := by simpa using e3
  exact ⟨a0, a1, a2, a3, a4, a5, a6, a7, a8, fun j => hr.frozenAt j, h2⟩
set_option maxRecDepth 100000 in
set_option maxHeartbeats 8000000 in
theorem rturned4 {w0 w : World} {C : Ass} (hC : C.Good) {c : Cf} {s : St} {user session address ea eb ec tick : Int} {g uc : Nat} {s1 s2 s3 : Option Addr} {sc pc ic : Nat} (hS : At w0 (StA ⟨some ⟨g, 0, Option.none⟩, uc, s1, sc, s2, pc, s3, ic⟩ s C) w) {k : Nat} (hk : k < s.us.length) {x : Us} (hx : s.us.getD k Us.none = x) :
    Calls Tryz.prog 52 #[.agg (cfC c), .agg (stC ⟨some ⟨g, 0, Option.none⟩, uc, s1, sc, s2, pc, s3, ic⟩ s), .int .i64 (k : Int), .agg (evA ⟨4, user, session, address, ea, eb, ec, tick⟩)] w fun r w' => r = .returned (.tuple #[.agg (stC ⟨some ⟨g, 0, Option.none⟩, uc, s1, sc, s2, pc, s3, ic⟩ { s with us := s.us.set k { x with lf := 0, lu := 0 } }), .bool true]) ∧ At w0 (StA ⟨some ⟨g, 0, Option.none⟩, uc, s1, sc, s2, pc, s3, ic⟩ { s with us := s.us.set k { x with lf := 0, lu := 0 } } C) w' := by
  have hq := ob4 (StA_good hC) hS (cfC c) (stC ⟨some ⟨g, 0, Option.none⟩, uc, s1, sc, s2, pc, s3, ic⟩ s) (evA ⟨4, user, session, address, ea, eb, ec, tick⟩) stZ TCf TSt 45 TSt
  obtain ⟨y0, y1, y2, y3, y4, y5, y6, y7, y8, fy, gy⟩ := usEl (OB.rest hq) hk hx
  have hkI : (k : Int) < (s.us.length : Int) := by omega
  have hk0 : ¬ (k : Int) < 0 := by omega
  have HG : ((rowE TSe 4 (.slice s1 s.ss.length sc) s.ss.length (seCells s.ss)).star ((rowE TPa 3 (.slice s2 s.ad.length pc) s.ad.length (paCells s.ad)).star ((rowE TIn 1 (.slice s3 s.sp.length ic) s.sp.length (inCells s.sp)).star C))).Good := (rowE_good _ _ _ _ _).star ((rowE_good _ _ _ _ _).star ((rowE_good _ _ _ _ _).star hC))
  have hq5 := OB.hold (StA_good hC) hq (usA { x with lf := 0, lu := 0 }) TUs (p := w.heap.size + 1 + 1 + 1 + 1) (by simp)
  have HQ := Lib.hid hq5
  clear hS hq hq5
  go_enter Tryz.func52, Tryz.ntmps52
  go_wp2_with (first
    | (refine us_storeC (OB.good HG) rfl _ _ rfl rfl rfl ({ x with lf := 0, lu := 0 } : Us) rfl (HQ.out.imp (OB.up _ _ _)) hk ?_; intro W7 hW7; have q7 := hW7.imp (OB.dn _ _ _); have kst := OB.at q7 (i := 1) rfl; have e1 := kst.cell; have kr := OB.at q7 (i := 3) rfl; have er := kr.cell; have gr := kr.froz; have lr := kr.lt))
  refine bodyPost_ret (v := .tuple #[.agg (stC ⟨some ⟨g, 0, Option.none⟩, uc, s1, sc, s2, pc, s3, ic⟩ { s with us := s.us.set k { x with lf := 0, lu := 0 } }), .bool true]) (by simp [*, results, Tryz.results52, go_sem]) rfl ⟨rfl, ?_⟩
  have q9 := OB.wr7 ((rowE_good _ _ _ _ _).star HG) q7 (i := 3) rfl (.int .i64 s.b) (.int .i64 s.e) (.int .i64 s.n) (.slice (some ⟨g, 0, Option.none⟩) s.us.length uc) (.slice s1 s.ss.length sc) (.slice s2 s.ad.length pc) (.slice s3 s.sp.length ic)
  simp only [StA, List.length_set] at q9 ⊢
  exact q9
set_option maxRecDepth 100000 in
set_option maxHeartbeats 8000000 in
theorem rturned3 {w0 w : World} {C : Ass} (hC : C.Good) {c : Cf} {s : St} {user session address ea eb ec tick : Int} {g uc : Nat} {s1 s2 s3 : Option Addr} {sc pc ic : Nat} (hS : At w0 (StA ⟨some ⟨g, 0, Option.none⟩, uc, s1, sc, s2, pc, s3, ic⟩ s C) w) {k : Nat} (hk : k < s.us.length) {x : Us} (hx : s.us.getD k Us.none = x) (hst : x.st < ea) :
    Calls Tryz.prog 52 #[.agg (cfC c), .agg (stC ⟨some ⟨g, 0, Option.none⟩, uc, s1, sc, s2, pc, s3, ic⟩ s), .int .i64 (k : Int), .agg (evA ⟨3, user, session, address, ea, eb, ec, tick⟩)] w fun r w' => r = .returned (.tuple #[.agg (stC ⟨some ⟨g, 0, Option.none⟩, uc, s1, sc, s2, pc, s3, ic⟩ { s with us := s.us.set k { x with st := ea, lf := 0, lu := 0 } }), .bool true]) ∧ At w0 (StA ⟨some ⟨g, 0, Option.none⟩, uc, s1, sc, s2, pc, s3, ic⟩ { s with us := s.us.set k { x with st := ea, lf := 0, lu := 0 } } C) w' := by
  have hq := ob4 (StA_good hC) hS (cfC c) (stC ⟨some ⟨g, 0, Option.none⟩, uc, s1, sc, s2, pc, s3, ic⟩ s) (evA ⟨3, user, session, address, ea, eb, ec, tick⟩) stZ TCf TSt 45 TSt
  obtain ⟨y0, y1, y2, y3, y4, y5, y6, y7, y8, fy, gy⟩ := usEl (OB.rest hq) hk hx
  have hkI : (k : Int) < (s.us.length : Int) := by omega
  have hk0 : ¬ (k : Int) < 0 := by omega
  have HG : ((rowE TSe 4 (.slice s1 s.ss.length sc) s.ss.length (seCells s.ss)).star ((rowE TPa 3 (.slice s2 s.ad.length pc) s.ad.length (paCells s.ad)).star ((rowE TIn 1 (.slice s3 s.sp.length ic) s.sp.length (inCells s.sp)).star C))).Good := (rowE_good _ _ _ _ _).star ((rowE_good _ _ _ _ _).star ((rowE_good _ _ _ _ _).star hC))
  have hq5 := OB.hold (StA_good hC) hq (usA { x with st := ea, lf := 0, lu := 0 }) TUs (p := w.heap.size + 1 + 1 + 1 + 1) (by simp)
  have HQ := Lib.hid hq5
  clear hS hq hq5
  go_enter Tryz.func52, Tryz.ntmps52
  go_wp2_with (first
    | (refine us_storeC (OB.good HG) rfl _ _ rfl rfl rfl ({ x with st := ea, lf := 0, lu := 0 } : Us) rfl (HQ.out.imp (OB.up _ _ _)) hk ?_; intro W7 hW7; have q7 := hW7.imp (OB.dn _ _ _); have kst := OB.at q7 (i := 1) rfl; have e1 := kst.cell; have kr := OB.at q7 (i := 3) rfl; have er := kr.cell; have gr := kr.froz; have lr := kr.lt))
  refine bodyPost_ret (v := .tuple #[.agg (stC ⟨some ⟨g, 0, Option.none⟩, uc, s1, sc, s2, pc, s3, ic⟩ { s with us := s.us.set k { x with st := ea, lf := 0, lu := 0 } }), .bool true]) (by simp [*, results, Tryz.results52, go_sem]) rfl ⟨rfl, ?_⟩
  have q9 := OB.wr7 ((rowE_good _ _ _ _ _).star HG) q7 (i := 3) rfl (.int .i64 s.b) (.int .i64 s.e) (.int .i64 s.n) (.slice (some ⟨g, 0, Option.none⟩) s.us.length uc) (.slice s1 s.ss.length sc) (.slice s2 s.ad.length pc) (.slice s3 s.sp.length ic)
  simp only [StA, List.length_set] at q9 ⊢
  exact q9
set_option maxRecDepth 100000 in
set_option maxHeartbeats 8000000 in
theorem rturned3n {w0 w : World} {C : Ass} (hC : C.Good) {c : Cf} {s : St} {user session address ea eb ec tick : Int} {g uc : Nat} {s1 s2 s3 : Option Addr} {sc pc ic : Nat} (hS : At w0 (StA ⟨some ⟨g, 0, Option.none⟩, uc, s1, sc, s2, pc, s3, ic⟩ s C) w) {k : Nat} (hk : k < s.us.length) {x : Us} (hx : s.us.getD k Us.none = x) (hst : ea ≤ x.st) :
    Calls Tryz.prog 52 #[.agg (cfC c), .agg (stC ⟨some ⟨g, 0, Option.none⟩, uc, s1, sc, s2, pc, s3, ic⟩ s), .int .i64 (k : Int), .agg (evA ⟨3, user, session, address, ea, eb, ec, tick⟩)] w fun r w' => r = .returned (.tuple #[.agg (stC ⟨some ⟨g, 0, Option.none⟩, uc, s1, sc, s2, pc, s3, ic⟩ s), .bool false]) ∧ At w0 (StA ⟨some ⟨g, 0, Option.none⟩, uc, s1, sc, s2, pc, s3, ic⟩ s C) w' := by
  have hq := ob4 (StA_good hC) hS (cfC c) (stC ⟨some ⟨g, 0, Option.none⟩, uc, s1, sc, s2, pc, s3, ic⟩ s) (evA ⟨3, user, session, address, ea, eb, ec, tick⟩) stZ TCf TSt 45 TSt
  obtain ⟨y0, y1, y2, y3, y4, y5, y6, y7, y8, fy, gy⟩ := usEl (OB.rest hq) hk hx
  have hkI : (k : Int) < (s.us.length : Int) := by omega
  have hk0 : ¬ (k : Int) < 0 := by omega
  have HG : ((rowE TSe 4 (.slice s1 s.ss.length sc) s.ss.length (seCells s.ss)).star ((rowE TPa 3 (.slice s2 s.ad.length pc) s.ad.length (paCells s.ad)).star ((rowE TIn 1 (.slice s3 s.sp.length ic) s.sp.length (inCells s.sp)).star C))).Good := (rowE_good _ _ _ _ _).star ((rowE_good _ _ _ _ _).star ((rowE_good _ _ _ _ _).star hC))
  have HS := Lib.hid hS
  clear hS hq
  go_enter Tryz.func52, Tryz.ntmps52
  go_wp2
  refine bodyPost_ret (v := .tuple #[.agg (stC ⟨some ⟨g, 0, Option.none⟩, uc, s1, sc, s2, pc, s3, ic⟩ s), .bool false]) (by simp [*, results, Tryz.results52, go_sem]) rfl ⟨rfl, ?_⟩
  exact ((((HS.out.lay1 (StA_good hC) _).lay1 (StA_good hC) _).lay1 (StA_good hC) _).lay1 (StA_good hC) _).lay1 (StA_good hC) _
set_option maxRecDepth 100000 in
set_option maxHeartbeats 8000000 in
theorem rturned7 {w0 w : World} {C : Ass} (hC : C.Good) {c : Cf} {s : St} {user session address ea eb ec tick : Int} {g uc : Nat} {s1 s2 s3 : Option Addr} {sc pc ic : Nat} (hS : At w0 (StA ⟨some ⟨g, 0, Option.none⟩, uc, s1, sc, s2, pc, s3, ic⟩ s C) w) {k : Nat} (hk : k < s.us.length) {x : Us} (hx : s.us.getD k Us.none = x) (hg0 : 0 ≤ x.g) (hg1 : x.g < 1073741823) :
    Calls Tryz.prog 52 #[.agg (cfC c), .agg (stC ⟨some ⟨g, 0, Option.none⟩, uc, s1, sc, s2, pc, s3, ic⟩ s), .int .i64 (k : Int), .agg (evA ⟨7, user, session, address, ea, eb, ec, tick⟩)] w fun r w' => r = .returned (.tuple #[.agg (stC ⟨some ⟨g, 0, Option.none⟩, uc, s1, sc, s2, pc, s3, ic⟩ { s with us := s.us.set k { x with g := x.g + 1 } }), .bool true]) ∧ At w0 (StA ⟨some ⟨g, 0, Option.none⟩, uc, s1, sc, s2, pc, s3, ic⟩ { s with us := s.us.set k { x with g := x.g + 1 } } C) w' := by
  have hq := ob4 (StA_good hC) hS (cfC c) (stC ⟨some ⟨g, 0, Option.none⟩, uc, s1, sc, s2, pc, s3, ic⟩ s) (evA ⟨7, user, session, address, ea, eb, ec, tick⟩) stZ TCf TSt 45 TSt
  obtain ⟨y0, y1, y2, y3, y4, y5, y6, y7, y8, fy, gy⟩ := usEl (OB.rest hq) hk hx
  have hkI : (k : Int) < (s.us.length : Int) := by omega
  have hk0 : ¬ (k : Int) < 0 := by omega
  have HG : ((rowE TSe 4 (.slice s1 s.ss.length sc) s.ss.length (seCells s.ss)).star ((rowE TPa 3 (.slice s2 s.ad.length pc) s.ad.length (paCells s.ad)).star ((rowE TIn 1 (.slice s3 s.sp.length ic) s.sp.length (inCells s.sp)).star C))).Good := (rowE_good _ _ _ _ _).star ((rowE_good _ _ _ _ _).star ((rowE_good _ _ _ _ _).star hC))
  have hw : IntKind.i64.wrap (x.g + 1) = x.g + 1 := by rw [IntKind.wrap_i64]; omega
  have h07 : ¬ x.g < 0 := by omega
  have h17 : ¬ 1073741823 ≤ x.g := by omega
  have hq5 := OB.hold (StA_good hC) hq (usA { x with g := x.g + 1 }) TUs (p := w.heap.size + 1 + 1 + 1 + 1) (by simp)
  have HQ := Lib.hid hq5
  clear hS hq hq5
  go_enter Tryz.func52, Tryz.ntmps52
  go_wp2_with (first
    | (refine us_storeC (OB.good HG) rfl _ _ rfl rfl rfl ({ x with g := x.g + 1 } : Us) rfl (HQ.out.imp (OB.up _ _ _)) hk ?_; intro W7 hW7; have q7 := hW7.imp (OB.dn _ _ _); have kst := OB.at q7 (i := 1) rfl; have e1 := kst.cell; have kr := OB.at q7 (i := 3) rfl; have er := kr.cell; have gr := kr.froz; have lr := kr.lt))
  refine bodyPost_ret (v := .tuple #[.agg (stC ⟨some ⟨g, 0, Option.none⟩, uc, s1, sc, s2, pc, s3, ic⟩ { s with us := s.us.set k { x with g := x.g + 1 } }), .bool true]) (by simp [*, results, Tryz.results52, go_sem]) rfl ⟨rfl, ?_⟩
  have q9 := OB.wr7 ((rowE_good _ _ _ _ _).star HG) q7 (i := 3) rfl (.int .i64 s.b) (.int .i64 s.e) (.int .i64 s.n) (.slice (some ⟨g, 0, Option.none⟩) s.us.length uc) (.slice s1 s.ss.length sc) (.slice s2 s.ad.length pc) (.slice s3 s.sp.length ic)
  simp only [StA, List.length_set] at q9 ⊢
  exact q9
set_option maxRecDepth 100000 in
set_option maxHeartbeats 8000000 in
theorem rturned7n {w0 w : World} {C : Ass} (hC : C.Good) {c : Cf} {s : St} {user session address ea eb ec tick : Int} {g uc : Nat} {s1 s2 s3 : Option Addr} {sc pc ic : Nat} (hS : At w0 (StA ⟨some ⟨g, 0, Option.none⟩, uc, s1, sc, s2, pc, s3, ic⟩ s C) w) {k : Nat} (hk : k < s.us.length) {x : Us} (hx : s.us.getD k Us.none = x) (hg0 : x.g < 0) :
    Calls Tryz.prog 52 #[.agg (cfC c), .agg (stC ⟨some ⟨g, 0, Option.none⟩, uc, s1, sc, s2, pc, s3, ic⟩ s), .int .i64 (k : Int), .agg (evA ⟨7, user, session, address, ea, eb, ec, tick⟩)] w fun r w' => r = .returned (.tuple #[.agg (stC ⟨some ⟨g, 0, Option.none⟩, uc, s1, sc, s2, pc, s3, ic⟩ s), .bool false]) ∧ At w0 (StA ⟨some ⟨g, 0, Option.none⟩, uc, s1, sc, s2, pc, s3, ic⟩ s C) w' := by
  have hq := ob4 (StA_good hC) hS (cfC c) (stC ⟨some ⟨g, 0, Option.none⟩, uc, s1, sc, s2, pc, s3, ic⟩ s) (evA ⟨7, user, session, address, ea, eb, ec, tick⟩) stZ TCf TSt 45 TSt
  obtain ⟨y0, y1, y2, y3, y4, y5, y6, y7, y8, fy, gy⟩ := usEl (OB.rest hq) hk hx
  have hkI : (k : Int) < (s.us.length : Int) := by omega
  have hk0 : ¬ (k : Int) < 0 := by omega
  have HG : ((rowE TSe 4 (.slice s1 s.ss.length sc) s.ss.length (seCells s.ss)).star ((rowE TPa 3 (.slice s2 s.ad.length pc) s.ad.length (paCells s.ad)).star ((rowE TIn 1 (.slice s3 s.sp.length ic) s.sp.length (inCells s.sp)).star C))).Good := (rowE_good _ _ _ _ _).star ((rowE_good _ _ _ _ _).star ((rowE_good _ _ _ _ _).star hC))
  have HS := Lib.hid hS
  clear hS hq
  go_enter Tryz.func52, Tryz.ntmps52
  go_wp2
  refine bodyPost_ret (v := .tuple #[.agg (stC ⟨some ⟨g, 0, Option.none⟩, uc, s1, sc, s2, pc, s3, ic⟩ s), .bool false]) (by simp [*, results, Tryz.results52, go_sem]) rfl ⟨rfl, ?_⟩
  exact ((((HS.out.lay1 (StA_good hC) _).lay1 (StA_good hC) _).lay1 (StA_good hC) _).lay1 (StA_good hC) _).lay1 (StA_good hC) _
set_option maxRecDepth 100000 in
set_option maxHeartbeats 8000000 in
theorem rturned7m {w0 w : World} {C : Ass} (hC : C.Good) {c : Cf} {s : St} {user session address ea eb ec tick : Int} {g uc : Nat} {s1 s2 s3 : Option Addr} {sc pc ic : Nat} (hS : At w0 (StA ⟨some ⟨g, 0, Option.none⟩, uc, s1, sc, s2, pc, s3, ic⟩ s C) w) {k : Nat} (hk : k < s.us.length) {x : Us} (hx : s.us.getD k Us.none = x) (hg1 : 1073741823 ≤ x.g) :
    Calls Tryz.prog 52 #[.agg (cfC c), .agg (stC ⟨some ⟨g, 0, Option.none⟩, uc, s1, sc, s2, pc, s3, ic⟩ s), .int .i64 (k : Int), .agg (evA ⟨7, user, session, address, ea, eb, ec, tick⟩)] w fun r w' => r = .returned (.tuple #[.agg (stC ⟨some ⟨g, 0, Option.none⟩, uc, s1, sc, s2, pc, s3, ic⟩ s), .bool false]) ∧ At w0 (StA ⟨some ⟨g, 0, Option.none⟩, uc, s1, sc, s2, pc, s3, ic⟩ s C) w' := by
  have hq := ob4 (StA_good hC) hS (cfC c) (stC ⟨some ⟨g, 0, Option.none⟩, uc, s1, sc, s2, pc, s3, ic⟩ s) (evA ⟨7, user, session, address, ea, eb, ec, tick⟩) stZ TCf TSt 45 TSt
  obtain ⟨y0, y1, y2, y3, y4, y5, y6, y7, y8, fy, gy⟩ := usEl (OB.rest hq) hk hx
  have hkI : (k : Int) < (s.us.length : Int) := by omega
  have hk0 : ¬ (k : Int) < 0 := by omega
  have HG : ((rowE TSe 4 (.slice s1 s.ss.length sc) s.ss.length (seCells s.ss)).star ((rowE TPa 3 (.slice s2 s.ad.length pc) s.ad.length (paCells s.ad)).star ((rowE TIn 1 (.slice s3 s.sp.length ic) s.sp.length (inCells s.sp)).star C))).Good := (rowE_good _ _ _ _ _).star ((rowE_good _ _ _ _ _).star ((rowE_good _ _ _ _ _).star hC))
  have h07 : ¬ x.g < 0 := by omega
  have HS := Lib.hid hS
  clear hS hq
  go_enter Tryz.func52, Tryz.ntmps52
  go_wp2
  refine bodyPost_ret (v := .tuple #[.agg (stC ⟨some ⟨g, 0, Option.none⟩, uc, s1, sc, s2, pc, s3, ic⟩ s), .bool false]) (by simp [*, results, Tryz.results52, go_sem]) rfl ⟨rfl, ?_⟩
  exact ((((HS.out.lay1 (StA_good hC) _).lay1 (StA_good hC) _).lay1 (StA_good hC) _).lay1 (StA_good hC) _).lay1 (StA_good hC) _
set_option maxRecDepth 100000 in
set_option maxHeartbeats 8000000 in
theorem rturned2 {w0 w : World} {C : Ass} (hC : C.Good) {c : Cf} {s : St} {user session address ea eb ec tick : Int} {g uc : Nat} {s1 s2 s3 : Option Addr} {sc pc ic : Nat} (hS : At w0 (StA ⟨some ⟨g, 0, Option.none⟩, uc, s1, sc, s2, pc, s3, ic⟩ s C) w) {k : Nat} (hk : k < s.us.length) {x : Us} (hx : s.us.getD k Us.none = x) (hok : lkOk x.lf x.lu tick c.fai c.loc) {nf nu : Int} (hnf : nf = lkF x.lf x.lu tick c.fai c.loc) (hnu : nu = lkU x.lf x.lu tick c.fai c.loc) :
    Calls Tryz.prog 52 #[.agg (cfC c), .agg (stC ⟨some ⟨g, 0, Option.none⟩, uc, s1, sc, s2, pc, s3, ic⟩ s), .int .i64 (k : Int), .agg (evA ⟨2, user, session, address, ea, eb, ec, tick⟩)] w fun r w' => r = .returned (.tuple #[.agg (stC ⟨some ⟨g, 0, Option.none⟩, uc, s1, sc, s2, pc, s3, ic⟩ { s with us := s.us.set k { x with lf := nf, lu := nu } }), .bool true]) ∧ At w0 (StA ⟨some ⟨g, 0, Option.none⟩, uc, s1, sc, s2, pc, s3, ic⟩ { s with us := s.us.set k { x with lf := nf, lu := nu } } C) w' := by
  have hq := ob4 (StA_good hC) hS (cfC c) (stC ⟨some ⟨g, 0, Option.none⟩, uc, s1, sc, s2, pc, s3, ic⟩ s) (evA ⟨2, user, session, address, ea, eb, ec, tick⟩) stZ TCf TSt 45 TSt
  obtain ⟨y0, y1, y2, y3, y4, y5, y6, y7, y8, fy, gy⟩ := usEl (OB.rest hq) hk hx
  have hkI : (k : Int) < (s.us.length : Int) := by omega
  have hk0 : ¬ (k : Int) < 0 := by omega
  have HG : ((rowE TSe 4 (.slice s1 s.ss.length sc) s.ss.length (seCells s.ss)).star ((rowE TPa 3 (.slice s2 s.ad.length pc) s.ad.length (paCells s.ad)).star ((rowE TIn 1 (.slice s3 s.sp.length ic) s.sp.length (inCells s.sp)).star C))).Good := (rowE_good _ _ _ _ _).star ((rowE_good _ _ _ _ _).star ((rowE_good _ _ _ _ _).star hC))
  have hq5 := OB.hold (StA_good hC) hq (usA x) TUs (p := w.heap.size + 1 + 1 + 1 + 1) (by simp)
  have HQ := Lib.hid hq5
  have HF := Lib.hid (fun W => by have hr := rfail x.lf x.lu tick c.fai c.loc W; rw [(lk_yes hok).1, ← hnf, ← hnu] at hr; exact hr)
  clear hS hq hq5 hok hnf hnu
  go_enter Tryz.func52, Tryz.ntmps52
  go_wp2_with (first
    | (go_at_call 67; (with_reducible refine (HF.out _).mono ?_); rintro r w1 ⟨rfl, hb⟩; have q1 := OB.lay (StA_good hC) HQ.out hb; clear hb; have k1 := OB.at q1 (i := 1) rfl; have e11 := k1.cell; have l11 := k1.lt; have k3 := OB.at q1 (i := 3) rfl; have e13 := k3.cell; have g13 := k3.froz; have l13 := k3.lt; have k4 := OB.at q1 (i := 4) rfl; have e14 := k4.cell; have g14 := k4.froz; have l14 := k4.lt; have q3 := OB.hold (StA_good hC) (OB.poke (StA_good hC) (OB.poke (StA_good hC) q1 4 rfl 5 (.int .i64 nf)) 4 rfl 6 (.int .i64 nu)) #[.int .i64 nf, .int .i64 nu] 61 (p := w1.heap.size) (by simp))
    | (refine us_storeC (OB.good HG) rfl _ _ rfl rfl rfl ({ x with lf := nf, lu := nu } : Us) rfl (q3.imp (OB.up _ _ _)) hk ?_; intro W7 hW7; have q7 := hW7.imp (OB.dn _ _ _); have kst := OB.at q7 (i := 1) rfl; have e1 := kst.cell; have kr := OB.at q7 (i := 3) rfl; have er := kr.cell; have gr := kr.froz; have lr := kr.lt))
  refine bodyPost_ret (v := .tuple #[.agg (stC ⟨some ⟨g, 0, Option.none⟩, uc, s1, sc, s2, pc, s3, ic⟩ { s with us := s.us.set k { x with lf := nf, lu := nu } }), .bool true]) (by simp [*, results, Tryz.results52, go_sem]) rfl ⟨rfl, ?_⟩
  have q9 := OB.wr7 ((rowE_good _ _ _ _ _).star HG) q7 (i := 3) rfl (.int .i64 s.b) (.int .i64 s.e) (.int .i64 s.n) (.slice (some ⟨g, 0, Option.none⟩) s.us.length uc) (.slice s1 s.ss.length sc) (.slice s2 s.ad.length pc) (.slice s3 s.sp.length ic)
  simp only [StA, List.length_set] at q9 ⊢
  exact q9
set_option maxRecDepth 100000 in
set_option maxHeartbeats 8000000 in
theorem rturned2n {w0 w : World} {C : Ass} (hC : C.Good) {c : Cf} {s : St} {user session address ea eb ec tick : Int} {g uc : Nat} {s1 s2 s3 : Option Addr} {sc pc ic : Nat} (hS : At w0 (StA ⟨some ⟨g, 0, Option.none⟩, uc, s1, sc, s2, pc, s3, ic⟩ s C) w) {k : Nat} (hk : k < s.us.length) {x : Us} (hx : s.us.getD k Us.none = x) (hok : ¬ lkOk x.lf x.lu tick c.fai c.loc) :
    Calls Tryz.prog 52 #[.agg (cfC c), .agg (stC ⟨some ⟨g, 0, Option.none⟩, uc, s1, sc, s2, pc, s3, ic⟩ s), .int .i64 (k : Int), .agg (evA ⟨2, user, session, address, ea, eb, ec, tick⟩)] w fun r w' => r = .returned (.tuple #[.agg (stC ⟨some ⟨g, 0, Option.none⟩, uc, s1, sc, s2, pc, s3, ic⟩ s), .bool false]) ∧ At w0 (StA ⟨some ⟨g, 0, Option.none⟩, uc, s1, sc, s2, pc, s3, ic⟩ s C) w' := by
  have hq := ob4 (StA_good hC) hS (cfC c) (stC ⟨some ⟨g, 0, Option.none⟩, uc, s1, sc, s2, pc, s3, ic⟩ s) (evA ⟨2, user, session, address, ea, eb, ec, tick⟩) stZ TCf TSt 45 TSt
  obtain ⟨y0, y1, y2, y3, y4, y5, y6, y7, y8, fy, gy⟩ := usEl (OB.rest hq) hk hx
  have hkI : (k : Int) < (s.us.length : Int) := by omega
  have hk0 : ¬ (k : Int) < 0 := by omega
  have HG : ((rowE TSe 4 (.slice s1 s.ss.length sc) s.ss.length (seCells s.ss)).star ((rowE TPa 3 (.slice s2 s.ad.length pc) s.ad.length (paCells s.ad)).star ((rowE TIn 1 (.slice s3 s.sp.length ic) s.sp.length (inCells s.sp)).star C))).Good := (rowE_good _ _ _ _ _).star ((rowE_good _ _ _ _ _).star ((rowE_good _ _ _ _ _).star hC))
  have hq5 := OB.hold (StA_good hC) hq (usA x) TUs (p := w.heap.size + 1 + 1 + 1 + 1) (by simp)
  have HQ := Lib.hid hq5
  have HF := Lib.hid (fun W => rfail_no x.lf x.lu tick c.fai c.loc hok W)
  clear hS hq hq5 hok
  go_enter Tryz.func52, Tryz.ntmps52
  go_wp2_with (first
    | (go_at_call 67; (with_reducible refine (HF.out _).mono ?_); rintro r w1 ⟨rfl, hb⟩; have q1 := OB.lay (StA_good hC) HQ.out hb; clear hb; have k1 := OB.at q1 (i := 1) rfl; have e11 := k1.cell; have l11 := k1.lt; have k3 := OB.at q1 (i := 3) rfl; have e13 := k3.cell; have g13 := k3.froz; have l13 := k3.lt; have k4 := OB.at q1 (i := 4) rfl; have e14 := k4.cell; have g14 := k4.froz; have l14 := k4.lt))
  refine bodyPost_ret (v := .tuple #[.agg (stC ⟨some ⟨g, 0, Option.none⟩, uc, s1, sc, s2, pc, s3, ic⟩ s), .bool false]) (by simp [*, results, Tryz.results52, go_sem]) rfl ⟨rfl, ?_⟩
  exact (OB.wr7 (StA_good hC) q1 (i := 3) rfl (.int .i64 s.b) (.int .i64 s.e) (.int .i64 s.n) (.slice (some ⟨g, 0, Option.none⟩) s.us.length uc) (.slice s1 s.ss.length sc) (.slice s2 s.ad.length pc) (.slice s3 s.sp.length ic)).lay1 (StA_good hC) _
end Go.Proofs.YtopkcaflmpjhgaaGreat
