/- Put together: Sti, Str, Str3. Conditions: each theorem's own. -/
import Derived.Test.YtopkcaflmpjhgaaGreatBpl
import Derived.Test.YtopkcaflmpjhgaaGreatBus
import Derived.Test.YtopkcaflmpjhgaaGreatBse
import Derived.Test.YtopkcaflmpjhgaaGreatBpa
import Derived.Test.YtopkcaflmpjhgaaGreatBin
import Derived.Test.YtopkcaflmpjhgaaGreatBsp
namespace Go.Proofs.YtopkcaflmpjhgaaGreat
open Go Go.RowKit

abbrev TSt : TypeId := 29
/-- Where a state's rows lie. -/
structure Sv where
  u : Option Addr
  uc : Nat
  s : Option Addr
  sc : Nat
  p : Option Addr
  pc : Nat
  i : Option Addr
  ic : Nat
abbrev Sv.none : Sv := ⟨Option.none, 0, Option.none, 0, Option.none, 0, Option.none, 0⟩
/-- A state's cells. -/
abbrev stC (h : Sv) (s : St) : Array Value := #[.int .i64 s.b, .int .i64 s.e, .int .i64 s.n, .slice h.u s.us.length h.uc, .slice h.s s.ss.length h.sc, .slice h.p s.ad.length h.pc, .slice h.i s.sp.length h.ic]
/-- One that is handed in. -/
structure StIn (w : World) (h : Sv) (s : St) : Prop where
  us : UsIn [] w h.u s.us.length s.us
  ss : SeIn [] w h.s s.ss.length s.ss
  ad : PaIn [] w h.p s.ad.length s.ad
  sp : InIn [] w h.i s.sp.length s.sp
  cu : h.u = none → h.uc = 0
  cs : h.s = none → h.sc = 0
  ca : h.p = none → h.pc = 0
  ci : h.i = none → h.ic = 0
  fu : s.us.length ≤ 1954687338263
  fs : s.ss.length ≤ 4398046511099
  fa : s.ad.length ≤ 5864062014800
  fi : s.sp.length ≤ 17592186044411
theorem StIn.on {w W : World} {h : Sv} {s : St} (q : StIn w h s) (hb : Below w.heap.size w W) : StIn W h s :=
  ⟨us_on q.us hb, se_on q.ss hb, pa_on q.ad hb, in_on q.sp hb, q.cu, q.cs, q.ca, q.ci, q.fu, q.fs, q.fa, q.fi⟩
theorem StIn.none (w : World) : StIn w .none .none := ⟨us_none, se_none, pa_none, in_none, fun _ => rfl, fun _ => rfl, fun _ => rfl, fun _ => rfl, by decide, by decide, by decide, by decide⟩
/-- One of one's own. -/
abbrev StA (h : Sv) (s : St) (C : Ass) : Ass :=
  (rowE TUs 9 (.slice h.u s.us.length h.uc) s.us.length (usCells s.us)).star ((rowE TSe 4 (.slice h.s s.ss.length h.sc) s.ss.length (seCells s.ss)).star ((rowE TPa 3 (.slice h.p s.ad.length h.pc) s.ad.length (paCells s.ad)).star ((rowE TIn 1 (.slice h.i s.sp.length h.ic) s.sp.length (inCells s.sp)).star C)))
theorem StA_good {h : Sv} {s : St} {C : Ass} (hC : C.Good) : (StA h s C).Good := (rowE_good _ _ _ _ _).star ((rowE_good _ _ _ _ _).star ((rowE_good _ _ _ _ _).star ((rowE_good _ _ _ _ _).star hC)))
theorem emp_left (C : Ass) : (emp.star C).imp C := by
  rintro w F ⟨F1, F2, rfl, h1, h2, h3⟩
  obtain rfl : F1 = [] := h1
  exact ⟨F2, h2, fun k => by simp⟩
theorem star_assoc (A B C : Ass) : ((A.star B).star C).imp (A.star (B.star C)) := by
  rintro w F ⟨_, F3, rfl, ⟨F1, F2, rfl, h1, h2, h3⟩, h4, h5⟩
  exact ⟨F1 ++ (F2 ++ F3), ⟨F1, F2 ++ F3, rfl, h1, ⟨F2, F3, rfl, h2, h4, fun k hk => h5 k (by simp [hk])⟩, fun k hk hc => by
    rcases List.mem_append.1 hc with c | c
    · exact h3 k hk c
    · exact h5 k (by simp [hk]) c⟩, fun k => by simp⟩
theorem st_front (h : Sv) (s : St) (C : Ass) : ((StA h s emp).star C).imp (StA h s C) :=
  (star_assoc _ _ _).trans (((star_assoc _ _ _).trans (((star_assoc _ _ _).trans (((star_assoc _ _ _).trans ((emp_left C).under _)).under _)).under _)).under _)
/-- A state that a call made. -/
def StNew (w : World) (h : Sv) (s : St) (w' : World) : Prop := At w (StA h s emp) w'
theorem StNew.bel {w w' : World} {h : Sv} {s : St} (q : StNew w h s w') : Below w.heap.size w w' := At.bel q
theorem StNew.front {w0 w w' : World} {h : Sv} {s : St} {C : Ass} (hC : C.Good) (hS : At w0 C w) (q : StNew w h s w') : At w0 (StA h s C) w' := (At.add hC hS (us_made q)).imp (st_front h s C)
theorem StNew.under {w w1 w' : World} {h : Sv} {s : St} (hb : Below w.heap.size w w1) (q : StNew w1 h s w') : StNew w h s w' := At.under hb q
theorem StNew.no {w w' : World} (hb : Below w.heap.size w w') : StNew w .none .none w' := At.erow0 TUs 9 (At.erow0 TSe 4 (At.erow0 TPa 3 (At.erow0 TIn 1 (At.none hb))))
theorem At.stIn {w0 w : World} {h : Sv} {s : St} {C : Ass} (q : At w0 (StA h s C) w) (fu : s.us.length ≤ 1954687338263) (fs : s.ss.length ≤ 4398046511099) (fa : s.ad.length ≤ 5864062014800) (fi : s.sp.length ≤ 17592186044411) : StIn w h s :=
  ⟨q.usI rfl rfl (by omega), q.drop.seI rfl rfl (by omega), q.drop.drop.paI rfl rfl (by omega), q.drop.drop.drop.inI rfl rfl (by omega), q.usCap, q.drop.seCap, q.drop.drop.paCap, q.drop.drop.drop.inCap, fu, fs, fa, fi⟩
theorem StNew.in {w w' : World} {h : Sv} {s : St} (q : StNew w h s w') (fu : s.us.length ≤ 1954687338263) (fs : s.ss.length ≤ 4398046511099) (fa : s.ad.length ≤ 5864062014800) (fi : s.sp.length ≤ 17592186044411) : StIn w' h s := At.stIn q fu fs fa fi
theorem At.stDrop {w0 w : World} {h : Sv} {s : St} {C : Ass} (q : At w0 (StA h s C) w) : At w0 C w := q.drop.drop.drop.drop
theorem stab {w W W' : World} (hb : Below w.heap.size w W) (h : Below W.heap.size W W') : Below w.heap.size w W' := hb.trans (h.mono hb.size)
theorem stal {w W : World} (hb : Below w.heap.size w W) (B : Obj) : Below w.heap.size w (W.alloc B) := hb.alloc hb.size B
set_option maxRecDepth 100000 in
set_option maxHeartbeats 8000000 in
/-- SameState. -/
theorem st_same {w : World} {h h' : Sv} {s s' : St} (h1 : StIn w h s) (h2 : StIn w h' s') :
    Calls Tryz.prog 9 #[.agg (stC h s), .agg (stC h' s')] w fun e w' => e = .returned (.bool (decide (s = s'))) ∧ Below w.heap.size w w' := by
  have ka := (Blk.new w (stC h s) TSt).alloc (.cells (stC h' s') TSt)
  have kb := Blk.new' (w.alloc (.cells (stC h s) TSt)) (w.heap.size + 1) (by simp) (stC h' s') TSt
  have hB := stal (stal (Below.refl w.heap.size w) (.cells (stC h s) TSt)) (.cells (stC h' s') TSt)
  have ea := ka.cell
  have eb := kb.cell
  obtain ⟨b, e, n, us, ss, ad, sp⟩ := s
  obtain ⟨b', e', n', us', ss', ad', sp'⟩ := s'
  have H1 := Lib.hid h1
  have H2 := Lib.hid h2
  clear h1 h2 ea eb
  by_cases q0 : b = b'
  · subst q0
    by_cases q1 : e = e'
    · subst q1
      by_cases q2 : n = n'
      · subst q2
        by_cases q3 : us = us'
        · have d3 : decide (us = us') = true := decide_eq_true q3
          by_cases q4 : ss = ss'
          · have d4 : decide (ss = ss') = true := decide_eq_true q4
            by_cases q5 : ad = ad'
            · have d5 : decide (ad = ad') = true := decide_eq_true q5
              by_cases q6 : sp = sp'
              · have d6 : decide (sp = sp') = true := decide_eq_true q6
                have hr : decide ((⟨b, e, n, us, ss, ad, sp⟩ : St) = ⟨b, e, n, us', ss', ad', sp'⟩) = true := decide_eq_true (by rw [q3, q4, q5, q6])
                rw [hr]
                clear hr q3 q4 q5 q6
                have ea := ka.cell
                have eb := kb.cell
                go_enter Tryz.func9, Tryz.ntmps9
                go_wp2_with (first
                    | (go_at_call 21; (with_reducible refine (us_same (us_on H1.out.us hB) (us_on H2.out.us hB)).mono ?_); rintro r w1 ⟨rfl, hb⟩; replace hB := stab hB hb; replace ka := ka.step hb; replace kb := kb.step hb; replace ea := ka.cell; replace eb := kb.cell; clear hb)
                    | (go_at_call 22; (with_reducible refine (se_same (se_on H1.out.ss hB) (se_on H2.out.ss hB)).mono ?_); rintro r w2 ⟨rfl, hb⟩; replace hB := stab hB hb; replace ka := ka.step hb; replace kb := kb.step hb; replace ea := ka.cell; replace eb := kb.cell; clear hb)
                    | (go_at_call 23; (with_reducible refine (pa_same (pa_on H1.out.ad hB) (pa_on H2.out.ad hB)).mono ?_); rintro r w3 ⟨rfl, hb⟩; replace hB := stab hB hb; replace ka := ka.step hb; replace kb := kb.step hb; replace ea := ka.cell; replace eb := kb.cell; clear hb)
                    | (go_at_call 24; (with_reducible refine (in_same (in_on H1.out.sp hB) (in_on H2.out.sp hB)).mono ?_); rintro r w4 ⟨rfl, hb⟩; replace hB := stab hB hb; clear hb))
                go_ret
                exact ⟨rfl, hB⟩
              · have hr : decide ((⟨b, e, n, us, ss, ad, sp⟩ : St) = ⟨b, e, n, us', ss', ad', sp'⟩) = false := decide_eq_false (fun c => q6 (by injection c))
                rw [hr]
                have d6 : decide (sp = sp') = false := decide_eq_false q6
                clear hr q6 q3 q4 q5
                have ea := ka.cell
                have eb := kb.cell
                go_enter Tryz.func9, Tryz.ntmps9
                go_wp2_with (first
                    | (go_at_call 21; (with_reducible refine (us_same (us_on H1.out.us hB) (us_on H2.out.us hB)).mono ?_); rintro r w1 ⟨rfl, hb⟩; replace hB := stab hB hb; replace ka := ka.step hb; replace kb := kb.step hb; replace ea := ka.cell; replace eb := kb.cell; clear hb)
                    | (go_at_call 22; (with_reducible refine (se_same (se_on H1.out.ss hB) (se_on H2.out.ss hB)).mono ?_); rintro r w2 ⟨rfl, hb⟩; replace hB := stab hB hb; replace ka := ka.step hb; replace kb := kb.step hb; replace ea := ka.cell; replace eb := kb.cell; clear hb)
                    | (go_at_call 23; (with_reducible refine (pa_same (pa_on H1.out.ad hB) (pa_on H2.out.ad hB)).mono ?_); rintro r w3 ⟨rfl, hb⟩; replace hB := stab hB hb; replace ka := ka.step hb; replace kb := kb.step hb; replace ea := ka.cell; replace eb := kb.cell; clear hb)
                    | (go_at_call 24; (with_reducible refine (in_same (in_on H1.out.sp hB) (in_on H2.out.sp hB)).mono ?_); rintro r w4 ⟨rfl, hb⟩; replace hB := stab hB hb; clear hb))
                go_ret
                exact ⟨rfl, hB⟩
            · have hr : decide ((⟨b, e, n, us, ss, ad, sp⟩ : St) = ⟨b, e, n, us', ss', ad', sp'⟩) = false := decide_eq_false (fun c => q5 (by injection c))
              rw [hr]
              have d5 : decide (ad = ad') = false := decide_eq_false q5
              clear hr q5 q3 q4
              have ea := ka.cell
              have eb := kb.cell
              go_enter Tryz.func9, Tryz.ntmps9
              go_wp2_with (first
                  | (go_at_call 21; (with_reducible refine (us_same (us_on H1.out.us hB) (us_on H2.out.us hB)).mono ?_); rintro r w1 ⟨rfl, hb⟩; replace hB := stab hB hb; replace ka := ka.step hb; replace kb := kb.step hb; replace ea := ka.cell; replace eb := kb.cell; clear hb)
                  | (go_at_call 22; (with_reducible refine (se_same (se_on H1.out.ss hB) (se_on H2.out.ss hB)).mono ?_); rintro r w2 ⟨rfl, hb⟩; replace hB := stab hB hb; replace ka := ka.step hb; replace kb := kb.step hb; replace ea := ka.cell; replace eb := kb.cell; clear hb)
                  | (go_at_call 23; (with_reducible refine (pa_same (pa_on H1.out.ad hB) (pa_on H2.out.ad hB)).mono ?_); rintro r w3 ⟨rfl, hb⟩; replace hB := stab hB hb; replace ka := ka.step hb; replace kb := kb.step hb; replace ea := ka.cell; replace eb := kb.cell; clear hb)
                  | (go_at_call 24; (with_reducible refine (in_same (in_on H1.out.sp hB) (in_on H2.out.sp hB)).mono ?_); rintro r w4 ⟨rfl, hb⟩; replace hB := stab hB hb; clear hb))
              go_ret
              exact ⟨rfl, hB⟩
          · have hr : decide ((⟨b, e, n, us, ss, ad, sp⟩ : St) = ⟨b, e, n, us', ss', ad', sp'⟩) = false := decide_eq_false (fun c => q4 (by injection c))
            rw [hr]
            have d4 : decide (ss = ss') = false := decide_eq_false q4
            clear hr q4 q3
            have ea := ka.cell
            have eb := kb.cell
            go_enter Tryz.func9, Tryz.ntmps9
            go_wp2_with (first
                | (go_at_call 21; (with_reducible refine (us_same (us_on H1.out.us hB) (us_on H2.out.us hB)).mono ?_); rintro r w1 ⟨rfl, hb⟩; replace hB := stab hB hb; replace ka := ka.step hb; replace kb := kb.step hb; replace ea := ka.cell; replace eb := kb.cell; clear hb)
                | (go_at_call 22; (with_reducible refine (se_same (se_on H1.out.ss hB) (se_on H2.out.ss hB)).mono ?_); rintro r w2 ⟨rfl, hb⟩; replace hB := stab hB hb; replace ka := ka.step hb; replace kb := kb.step hb; replace ea := ka.cell; replace eb := kb.cell; clear hb)
                | (go_at_call 23; (with_reducible refine (pa_same (pa_on H1.out.ad hB) (pa_on H2.out.ad hB)).mono ?_); rintro r w3 ⟨rfl, hb⟩; replace hB := stab hB hb; replace ka := ka.step hb; replace kb := kb.step hb; replace ea := ka.cell; replace eb := kb.cell; clear hb)
                | (go_at_call 24; (with_reducible refine (in_same (in_on H1.out.sp hB) (in_on H2.out.sp hB)).mono ?_); rintro r w4 ⟨rfl, hb⟩; replace hB := stab hB hb; clear hb))
            go_ret
            exact ⟨rfl, hB⟩
        · have hr : decide ((⟨b, e, n, us, ss, ad, sp⟩ : St) = ⟨b, e, n, us', ss', ad', sp'⟩) = false := decide_eq_false (fun c => q3 (by injection c))
          rw [hr]
          have d3 : decide (us = us') = false := decide_eq_false q3
          clear hr q3
          have ea := ka.cell
          have eb := kb.cell
          go_enter Tryz.func9, Tryz.ntmps9
          go_wp2_with (first
              | (go_at_call 21; (with_reducible refine (us_same (us_on H1.out.us hB) (us_on H2.out.us hB)).mono ?_); rintro r w1 ⟨rfl, hb⟩; replace hB := stab hB hb; replace ka := ka.step hb; replace kb := kb.step hb; replace ea := ka.cell; replace eb := kb.cell; clear hb)
              | (go_at_call 22; (with_reducible refine (se_same (se_on H1.out.ss hB) (se_on H2.out.ss hB)).mono ?_); rintro r w2 ⟨rfl, hb⟩; replace hB := stab hB hb; replace ka := ka.step hb; replace kb := kb.step hb; replace ea := ka.cell; replace eb := kb.cell; clear hb)
              | (go_at_call 23; (with_reducible refine (pa_same (pa_on H1.out.ad hB) (pa_on H2.out.ad hB)).mono ?_); rintro r w3 ⟨rfl, hb⟩; replace hB := stab hB hb; replace ka := ka.step hb; replace kb := kb.step hb; replace ea := ka.cell; replace eb := kb.cell; clear hb)
              | (go_at_call 24; (with_reducible refine (in_same (in_on H1.out.sp hB) (in_on H2.out.sp hB)).mono ?_); rintro r w4 ⟨rfl, hb⟩; replace hB := stab hB hb; clear hb))
          go_ret
          exact ⟨rfl, hB⟩
      · have hr : decide ((⟨b, e, n, us, ss, ad, sp⟩ : St) = ⟨b, e, n', us', ss', ad', sp'⟩) = false := decide_eq_false (fun c => q2 (by injection c))
        rw [hr]
        clear hr
        have ea := ka.cell
        have eb := kb.cell
        go_enter Tryz.func9, Tryz.ntmps9
        go_wp2_with (first
            | (go_at_call 21; (with_reducible refine (us_same (us_on H1.out.us hB) (us_on H2.out.us hB)).mono ?_); rintro r w1 ⟨rfl, hb⟩; replace hB := stab hB hb; replace ka := ka.step hb; replace kb := kb.step hb; replace ea := ka.cell; replace eb := kb.cell; clear hb)
            | (go_at_call 22; (with_reducible refine (se_same (se_on H1.out.ss hB) (se_on H2.out.ss hB)).mono ?_); rintro r w2 ⟨rfl, hb⟩; replace hB := stab hB hb; replace ka := ka.step hb; replace kb := kb.step hb; replace ea := ka.cell; replace eb := kb.cell; clear hb)
            | (go_at_call 23; (with_reducible refine (pa_same (pa_on H1.out.ad hB) (pa_on H2.out.ad hB)).mono ?_); rintro r w3 ⟨rfl, hb⟩; replace hB := stab hB hb; replace ka := ka.step hb; replace kb := kb.step hb; replace ea := ka.cell; replace eb := kb.cell; clear hb)
            | (go_at_call 24; (with_reducible refine (in_same (in_on H1.out.sp hB) (in_on H2.out.sp hB)).mono ?_); rintro r w4 ⟨rfl, hb⟩; replace hB := stab hB hb; clear hb))
        go_ret
        exact ⟨rfl, hB⟩
    · have hr : decide ((⟨b, e, n, us, ss, ad, sp⟩ : St) = ⟨b, e', n', us', ss', ad', sp'⟩) = false := decide_eq_false (fun c => q1 (by injection c))
      rw [hr]
      clear hr
      have ea := ka.cell
      have eb := kb.cell
      go_enter Tryz.func9, Tryz.ntmps9
      go_wp2_with (first
          | (go_at_call 21; (with_reducible refine (us_same (us_on H1.out.us hB) (us_on H2.out.us hB)).mono ?_); rintro r w1 ⟨rfl, hb⟩; replace hB := stab hB hb; replace ka := ka.step hb; replace kb := kb.step hb; replace ea := ka.cell; replace eb := kb.cell; clear hb)
          | (go_at_call 22; (with_reducible refine (se_same (se_on H1.out.ss hB) (se_on H2.out.ss hB)).mono ?_); rintro r w2 ⟨rfl, hb⟩; replace hB := stab hB hb; replace ka := ka.step hb; replace kb := kb.step hb; replace ea := ka.cell; replace eb := kb.cell; clear hb)
          | (go_at_call 23; (with_reducible refine (pa_same (pa_on H1.out.ad hB) (pa_on H2.out.ad hB)).mono ?_); rintro r w3 ⟨rfl, hb⟩; replace hB := stab hB hb; replace ka := ka.step hb; replace kb := kb.step hb; replace ea := ka.cell; replace eb := kb.cell; clear hb)
          | (go_at_call 24; (with_reducible refine (in_same (in_on H1.out.sp hB) (in_on H2.out.sp hB)).mono ?_); rintro r w4 ⟨rfl, hb⟩; replace hB := stab hB hb; clear hb))
      go_ret
      exact ⟨rfl, hB⟩
  · have hr : decide ((⟨b, e, n, us, ss, ad, sp⟩ : St) = ⟨b', e', n', us', ss', ad', sp'⟩) = false := decide_eq_false (fun c => q0 (by injection c))
    rw [hr]
    clear hr
    have ea := ka.cell
    have eb := kb.cell
    go_enter Tryz.func9, Tryz.ntmps9
    go_wp2_with (first
        | (go_at_call 21; (with_reducible refine (us_same (us_on H1.out.us hB) (us_on H2.out.us hB)).mono ?_); rintro r w1 ⟨rfl, hb⟩; replace hB := stab hB hb; replace ka := ka.step hb; replace kb := kb.step hb; replace ea := ka.cell; replace eb := kb.cell; clear hb)
        | (go_at_call 22; (with_reducible refine (se_same (se_on H1.out.ss hB) (se_on H2.out.ss hB)).mono ?_); rintro r w2 ⟨rfl, hb⟩; replace hB := stab hB hb; replace ka := ka.step hb; replace kb := kb.step hb; replace ea := ka.cell; replace eb := kb.cell; clear hb)
        | (go_at_call 23; (with_reducible refine (pa_same (pa_on H1.out.ad hB) (pa_on H2.out.ad hB)).mono ?_); rintro r w3 ⟨rfl, hb⟩; replace hB := stab hB hb; replace ka := ka.step hb; replace kb := kb.step hb; replace ea := ka.cell; replace eb := kb.cell; clear hb)
        | (go_at_call 24; (with_reducible refine (in_same (in_on H1.out.sp hB) (in_on H2.out.sp hB)).mono ?_); rintro r w4 ⟨rfl, hb⟩; replace hB := stab hB hb; clear hb))
    go_ret
    exact ⟨rfl, hB⟩
end Go.Proofs.YtopkcaflmpjhgaaGreat

namespace Go.Proofs.YtopkcaflmpjhgaaGreat
open Go Go.RowKit

theorem st_box (w : World) (h : Sv) (s : St) : Below w.heap.size w (w.alloc (.cells (stC h s) TSt)) := (Below.refl _ _).alloc (Nat.le_refl _) _
set_option maxRecDepth 100000 in
set_option maxHeartbeats 4000000 in
theorem ruserat {w : World} {h : Sv} {s : St} (hs : StIn w h s) (u : Int) : Calls Tryz.prog 51 #[.agg (stC h s), .int .i64 u] w fun e w' => e = .returned (.int .i64 (ixN (usAt s.us u))) ∧ Below w.heap.size w w' := by
  have HE := Lib.hid (fun k (hk : k < s.us.length) => us_el hs.us hk)
  have hfew := hs.fu
  have HB := Lib.hid (st_box w h s)
  clear hs
  unfold usAt
  go_enter Tryz.func51, Tryz.ntmps51
  go_wp2
  go_loopw [5] (fun i wr => ∃ k : Nat, k ≤ s.us.length ∧ i = .int .i64 (k : Int) ∧ ixP (fun x => decide (x.u = u)) (s.us.take k) 0 = none ∧ wr = w.alloc (.cells (stC h s) TSt)) (fun i _ => s.us.length - (intOf i).toNat)
  case atStart => exact ⟨0, Nat.zero_le _, rfl, rfl, rfl⟩
  case round =>
    obtain ⟨k, hk, rfl, hn, rfl⟩ := hrel
    by_cases hlt : k < s.us.length
    · obtain ⟨b, off, a, hpu, ha, hcell⟩ := HE.out k hlt
      obtain ⟨z0, -⟩ := hcell _ HB.out
      have hI : (k : Int) < (s.us.length : Int) := by omega
      have h0 : ¬ (k : Int) < 0 := by omega
      have hT := ixP_take (p := fun x : Us => decide (x.u = u)) hlt (z := Us.none) hn
      have hH := fun hp => ixP_hit (p := fun x : Us => decide (x.u = u)) hlt (z := Us.none) hn hp
      rw [ha] at hT hH
      have HN := Lib.hid (And.intro hT hH)
      clear hcell ha hn hT hH
      by_cases hu : a.u = u
      · rw [hu] at z0
        have HR := Lib.hid (HN.out.2 (by simpa using hu))
        clear HN hu
        go_wp2
        go_ret
        exact ⟨by rw [HR.out]; rfl, HB.out⟩
      · have HR := Lib.hid (HN.out.1.trans (if_neg (by simpa using hu)))
        clear HN
        go_wp2
        go_roundw
        case rel => exact ⟨k + 1, by omega, by go_num, HR.out, trivial⟩
        case measure => simp [intOf]; omega
    · obtain rfl : k = s.us.length := by omega
      have hI : ¬ (s.us.length : Int) < (s.us.length : Int) := by omega
      rw [List.take_length] at hn
      have HN := Lib.hid hn
      clear hn
      go_wp2
      go_ret
      exact ⟨by rw [HN.out]; rfl, HB.out⟩
set_option maxRecDepth 100000 in
set_option maxHeartbeats 4000000 in
theorem rsessat {w : World} {h : Sv} {s : St} (hs : StIn w h s) (u : Int) : Calls Tryz.prog 65 #[.agg (stC h s), .int .i64 u] w fun e w' => e = .returned (.int .i64 (ixN (seAt s.ss u))) ∧ Below w.heap.size w w' := by
  have HE := Lib.hid (fun k (hk : k < s.ss.length) => se_el hs.ss hk)
  have hfew := hs.fs
  have HB := Lib.hid (st_box w h s)
  clear hs
  unfold seAt
  go_enter Tryz.func65, Tryz.ntmps65
  go_wp2
  go_loopw [5] (fun i wr => ∃ k : Nat, k ≤ s.ss.length ∧ i = .int .i64 (k : Int) ∧ ixP (fun x => decide (x.s = u)) (s.ss.take k) 0 = none ∧ wr = w.alloc (.cells (stC h s) TSt)) (fun i _ => s.ss.length - (intOf i).toNat)
  case atStart => exact ⟨0, Nat.zero_le _, rfl, rfl, rfl⟩
  case round =>
    obtain ⟨k, hk, rfl, hn, rfl⟩ := hrel
    by_cases hlt : k < s.ss.length
    · obtain ⟨b, off, a, hpu, ha, hcell⟩ := HE.out k hlt
      obtain ⟨z0, -⟩ := hcell _ HB.out
      have hI : (k : Int) < (s.ss.length : Int) := by omega
      have h0 : ¬ (k : Int) < 0 := by omega
      have hT := ixP_take (p := fun x : Se => decide (x.s = u)) hlt (z := Se.none) hn
      have hH := fun hp => ixP_hit (p := fun x : Se => decide (x.s = u)) hlt (z := Se.none) hn hp
      rw [ha] at hT hH
      have HN := Lib.hid (And.intro hT hH)
      clear hcell ha hn hT hH
      by_cases hu : a.s = u
      · rw [hu] at z0
        have HR := Lib.hid (HN.out.2 (by simpa using hu))
        clear HN hu
        go_wp2
        go_ret
        exact ⟨by rw [HR.out]; rfl, HB.out⟩
      · have HR := Lib.hid (HN.out.1.trans (if_neg (by simpa using hu)))
        clear HN
        go_wp2
        go_roundw
        case rel => exact ⟨k + 1, by omega, by go_num, HR.out, trivial⟩
        case measure => simp [intOf]; omega
    · obtain rfl : k = s.ss.length := by omega
      have hI : ¬ (s.ss.length : Int) < (s.ss.length : Int) := by omega
      rw [List.take_length] at hn
      have HN := Lib.hid hn
      clear hn
      go_wp2
      go_ret
      exact ⟨by rw [HN.out]; rfl, HB.out⟩
theorem spent_take {sp : List Int} {k : Nat} (hk : k < sp.length) (u : Int) : (sp.take (k + 1)).contains u = ((sp.take k).contains u || (sp.getD k 0 == u)) := by
  have e : sp.getD k 0 = sp[k] := by simp [List.getD, hk]
  rw [List.take_succ_eq_append_getElem hk, e, Bool.eq_iff_iff, Bool.or_eq_true, List.contains_iff_mem, List.contains_iff_mem, List.mem_append, List.mem_singleton, beq_iff_eq]
  exact or_congr Iff.rfl ⟨fun c => c.symm, fun c => c.symm⟩
theorem spent_hit {sp : List Int} {k : Nat} (hk : k < sp.length) : sp.contains (sp.getD k 0) = true := by
  have e : sp.getD k 0 = sp[k] := by simp [List.getD, hk]
  rw [e, List.contains_iff_mem]
  exact List.getElem_mem hk
set_option maxRecDepth 100000 in
set_option maxHeartbeats 4000000 in
theorem rspent {w : World} {h : Sv} {s : St} (hs : StIn w h s) (u : Int) {r : Bool} (hr : s.sp.contains u = r) : Calls Tryz.prog 49 #[.agg (stC h s), .int .i64 u] w fun e w' => e = .returned (.bool r) ∧ Below w.heap.size w w' := by
  have HE := Lib.hid (fun k (hk : k < s.sp.length) => in_el hs.sp hk)
  have hfew := hs.fi
  have HB := Lib.hid (st_box w h s)
  clear hs
  have HQ := Lib.hid hr
  clear hr
  go_enter Tryz.func49, Tryz.ntmps49
  go_wp2
  go_loopw [5] (fun i wr => ∃ k : Nat, k ≤ s.sp.length ∧ i = .int .i64 (k : Int) ∧ (s.sp.take k).contains u = false ∧ wr = w.alloc (.cells (stC h s) TSt)) (fun i _ => s.sp.length - (intOf i).toNat)
  case atStart => exact ⟨0, Nat.zero_le _, rfl, rfl, rfl⟩
  case round =>
    obtain ⟨k, hk, rfl, hn, rfl⟩ := hrel
    by_cases hlt : k < s.sp.length
    · obtain ⟨b, off, a, hpu, ha, hcell⟩ := HE.out k hlt
      have z0 := hcell _ HB.out
      have hI : (k : Int) < (s.sp.length : Int) := by omega
      have h0 : ¬ (k : Int) < 0 := by omega
      have hT := spent_take hlt u
      have hH := spent_hit hlt
      rw [hn, ha, Bool.false_or] at hT
      rw [ha] at hH
      have HN := Lib.hid (And.intro hT hH)
      clear hcell ha hn hT hH
      by_cases hu : a = u
      · subst hu
        have HR := Lib.hid (HQ.out.symm.trans HN.out.2)
        clear HN
        go_wp2
        go_ret
        exact ⟨by rw [HR.out]; rfl, HB.out⟩
      · have HR := Lib.hid (HN.out.1.trans (beq_false_of_ne hu))
        clear HN
        go_wp2
        go_roundw
        case rel => exact ⟨k + 1, by omega, by go_num, HR.out, trivial⟩
        case measure => simp [intOf]; omega
    · obtain rfl : k = s.sp.length := by omega
      have hI : ¬ (s.sp.length : Int) < (s.sp.length : Int) := by omega
      rw [List.take_length] at hn
      have HN := Lib.hid (HQ.out.symm.trans hn)
      clear hn
      go_wp2
      go_ret
      exact ⟨by rw [HN.out]; rfl, HB.out⟩
theorem rsum (x y : Int) (hy : 0 ≤ y) (hy1 : y ≤ 1073741823) (hx0 : -9223372036854775808 ≤ x) (hx : x ≤ 9223372036854775807) (w : World) : Calls Tryz.prog 66 #[.int .i64 x, .int .i64 y] w fun e w' => e = .returned (.int .i64 (stSum x y)) ∧ w = w' := by
  have h1 : IntKind.i64.wrap (1073741823 - y) = 1073741823 - y := by rw [IntKind.wrap_i64]; omega
  unfold stSum
  by_cases c : 1073741823 - y < x
  · rw [if_pos c]
    go_enter Tryz.func66, Tryz.ntmps66
    go_wp2
    go_ret
    exact ⟨rfl, rfl⟩
  · rw [if_neg c]
    go_enter Tryz.func66, Tryz.ntmps66
    go_wp2
    go_ret
    exact ⟨rfl, rfl⟩
end Go.Proofs.YtopkcaflmpjhgaaGreat

namespace Go.Proofs.YtopkcaflmpjhgaaGreat
open Go Go.RowKit

theorem st_rev (A B D E C : Ass) : (A.star (B.star (D.star (E.star C)))).imp (E.star (D.star (B.star (A.star C)))) :=
  (Ass.imp.up3 A B D E C).trans ((Ass.imp.up2 A B D C).under E |>.trans (((Ass.imp.swap A B C).under D).under E))
set_option maxRecDepth 100000 in
set_option maxHeartbeats 8000000 in
theorem rcopystate {w : World} {h : Sv} {s : St} (hs : StIn w h s) : Calls Tryz.prog 33 #[.agg (stC h s)] w fun e w' => ∃ h' : Sv, e = .returned (.agg (stC h' s)) ∧ StNew w h' s w' := by
  have HS := Lib.hid hs
  clear hs
  have hS : At w (OB [(w.heap.size, stC h s, TSt), (w.heap.size + 1, stC .none .none, TSt)] emp) ((w.alloc (.cells (stC h s) TSt)).alloc (.cells (stC .none .none) TSt)) :=
    OB.hold emp_good (OB.hold emp_good (OB.start (Below.refl w.heap.size w)) (stC h s) TSt rfl) (stC .none .none) TSt (by simp)
  go_enter Tryz.func33, Tryz.ntmps33
  go_wp2_with (at_builtin; first
    | (refine us_dupC (OB.good emp_good) rfl _ _ rfl h.u s.us.length h.uc s.us rfl (by simp) rfl hS (us_on HS.out.us hS.bel) HS.out.cu HS.out.fu ?_; intro a0 c0 w0 hT0; have q0 := hT0.imp (OB.dn _ _ _); clear hT0; have ka := OB.at q0 (i := 0) rfl; have ea := ka.cell; have ga := ka.froz; have la := ka.lt; have kr := OB.at q0 (i := 1) rfl; have er := kr.cell; have gr := kr.froz; have lr := kr.lt; have hS1 := OB.poke ((rowE_good _ _ _ _ _).star emp_good) q0 0 rfl 3 (.slice a0 s.us.length c0))
    | (refine se_dupC (OB.good ((rowE_good _ _ _ _ _).star emp_good)) rfl _ _ rfl h.s s.ss.length h.sc s.ss rfl (by simp) rfl hS1 (se_on HS.out.ss hS1.bel) HS.out.cs HS.out.fs ?_; intro a1 c1 w1 hT1; have q1 := hT1.imp (OB.dn _ _ _); clear hT1; have ka := OB.at q1 (i := 0) rfl; have ea := ka.cell; have ga := ka.froz; have la := ka.lt; have kr := OB.at q1 (i := 1) rfl; have er := kr.cell; have gr := kr.froz; have lr := kr.lt; have hS2 := OB.poke ((rowE_good _ _ _ _ _).star ((rowE_good _ _ _ _ _).star emp_good)) q1 0 rfl 4 (.slice a1 s.ss.length c1))
    | (refine pa_dupC (OB.good ((rowE_good _ _ _ _ _).star ((rowE_good _ _ _ _ _).star emp_good))) rfl _ _ rfl h.p s.ad.length h.pc s.ad rfl (by simp) rfl hS2 (pa_on HS.out.ad hS2.bel) HS.out.ca HS.out.fa ?_; intro a2 c2 w2 hT2; have q2 := hT2.imp (OB.dn _ _ _); clear hT2; have ka := OB.at q2 (i := 0) rfl; have ea := ka.cell; have ga := ka.froz; have la := ka.lt; have kr := OB.at q2 (i := 1) rfl; have er := kr.cell; have gr := kr.froz; have lr := kr.lt; have hS3 := OB.poke ((rowE_good _ _ _ _ _).star ((rowE_good _ _ _ _ _).star ((rowE_good _ _ _ _ _).star emp_good))) q2 0 rfl 5 (.slice a2 s.ad.length c2))
    | (refine in_dupC (OB.good ((rowE_good _ _ _ _ _).star ((rowE_good _ _ _ _ _).star ((rowE_good _ _ _ _ _).star emp_good)))) rfl _ _ rfl h.i s.sp.length h.ic s.sp rfl (by simp) rfl hS3 (in_on HS.out.sp hS3.bel) HS.out.ci HS.out.fi ?_; intro a3 c3 w3 hT3; have q3 := hT3.imp (OB.dn _ _ _); clear hT3; have ka := OB.at q3 (i := 0) rfl; have ea := ka.cell; have ga := ka.froz; have la := ka.lt; have kr := OB.at q3 (i := 1) rfl; have er := kr.cell; have gr := kr.froz; have lr := kr.lt; have hS4 := OB.poke ((rowE_good _ _ _ _ _).star ((rowE_good _ _ _ _ _).star ((rowE_good _ _ _ _ _).star ((rowE_good _ _ _ _ _).star emp_good)))) q3 0 rfl 6 (.slice a3 s.sp.length c3)))
  refine bodyPost_ret (v := .agg (stC ⟨a0, c0, a1, c1, a2, c2, a3, c3⟩ s)) (by simp [*, results, Tryz.results33, go_sem]) rfl ⟨⟨a0, c0, a1, c1, a2, c2, a3, c3⟩, rfl, ?_⟩
  exact (OB.wr7 ((rowE_good _ _ _ _ _).star ((rowE_good _ _ _ _ _).star ((rowE_good _ _ _ _ _).star ((rowE_good _ _ _ _ _).star emp_good)))) hS4 (i := 1) rfl _ _ _ _ _ _ _).imp (st_rev _ _ _ _ _)
set_option maxRecDepth 100000 in
set_option maxHeartbeats 8000000 in
theorem lcopystate {w : World} {h : Sv} {s : St} (hs : StIn w h s) : Calls Tryz.prog 12 #[.agg (stC h s)] w fun e w' => ∃ h' : Sv, e = .returned (.agg (stC h' s)) ∧ StNew w h' s w' := by
  have HS := Lib.hid hs
  clear hs
  have hS : At w (OB [(w.heap.size, stC h s, TSt), (w.heap.size + 1, stC .none .none, TSt)] emp) ((w.alloc (.cells (stC h s) TSt)).alloc (.cells (stC .none .none) TSt)) :=
    OB.hold emp_good (OB.hold emp_good (OB.start (Below.refl w.heap.size w)) (stC h s) TSt rfl) (stC .none .none) TSt (by simp)
  go_enter Tryz.func12, Tryz.ntmps12
  go_wp2_with (at_builtin; first
    | (refine us_dupC (OB.good emp_good) rfl _ _ rfl h.u s.us.length h.uc s.us rfl (by simp) rfl hS (us_on HS.out.us hS.bel) HS.out.cu HS.out.fu ?_; intro a0 c0 w0 hT0; have q0 := hT0.imp (OB.dn _ _ _); clear hT0; have ka := OB.at q0 (i := 0) rfl; have ea := ka.cell; have ga := ka.froz; have la := ka.lt; have kr := OB.at q0 (i := 1) rfl; have er := kr.cell; have gr := kr.froz; have lr := kr.lt; have hS1 := OB.poke ((rowE_good _ _ _ _ _).star emp_good) q0 0 rfl 3 (.slice a0 s.us.length c0))
    | (refine se_dupC (OB.good ((rowE_good _ _ _ _ _).star emp_good)) rfl _ _ rfl h.s s.ss.length h.sc s.ss rfl (by simp) rfl hS1 (se_on HS.out.ss hS1.bel) HS.out.cs HS.out.fs ?_; intro a1 c1 w1 hT1; have q1 := hT1.imp (OB.dn _ _ _); clear hT1; have ka := OB.at q1 (i := 0) rfl; have ea := ka.cell; have ga := ka.froz; have la := ka.lt; have kr := OB.at q1 (i := 1) rfl; have er := kr.cell; have gr := kr.froz; have lr := kr.lt; have hS2 := OB.poke ((rowE_good _ _ _ _ _).star ((rowE_good _ _ _ _ _).star emp_good)) q1 0 rfl 4 (.slice a1 s.ss.length c1))
    | (refine pa_dupC (OB.good ((rowE_good _ _ _ _ _).star ((rowE_good _ _ _ _ _).star emp_good))) rfl _ _ rfl h.p s.ad.length h.pc s.ad rfl (by simp) rfl hS2 (pa_on HS.out.ad hS2.bel) HS.out.ca HS.out.fa ?_; intro a2 c2 w2 hT2; have q2 := hT2.imp (OB.dn _ _ _); clear hT2; have ka := OB.at q2 (i := 0) rfl; have ea := ka.cell; have ga := ka.froz; have la := ka.lt; have kr := OB.at q2 (i := 1) rfl; have er := kr.cell; have gr := kr.froz; have lr := kr.lt; have hS3 := OB.poke ((rowE_good _ _ _ _ _).star ((rowE_good _ _ _ _ _).star ((rowE_good _ _ _ _ _).star emp_good))) q2 0 rfl 5 (.slice a2 s.ad.length c2))
    | (refine in_dupC (OB.good ((rowE_good _ _ _ _ _).star ((rowE_good _ _ _ _ _).star ((rowE_good _ _ _ _ _).star emp_good)))) rfl _ _ rfl h.i s.sp.length h.ic s.sp rfl (by simp) rfl hS3 (in_on HS.out.sp hS3.bel) HS.out.ci HS.out.fi ?_; intro a3 c3 w3 hT3; have q3 := hT3.imp (OB.dn _ _ _); clear hT3; have ka := OB.at q3 (i := 0) rfl; have ea := ka.cell; have ga := ka.froz; have la := ka.lt; have kr := OB.at q3 (i := 1) rfl; have er := kr.cell; have gr := kr.froz; have lr := kr.lt; have hS4 := OB.poke ((rowE_good _ _ _ _ _).star ((rowE_good _ _ _ _ _).star ((rowE_good _ _ _ _ _).star ((rowE_good _ _ _ _ _).star emp_good)))) q3 0 rfl 6 (.slice a3 s.sp.length c3)))
  refine bodyPost_ret (v := .agg (stC ⟨a0, c0, a1, c1, a2, c2, a3, c3⟩ s)) (by simp [*, results, Tryz.results12, go_sem]) rfl ⟨⟨a0, c0, a1, c1, a2, c2, a3, c3⟩, rfl, ?_⟩
  exact (OB.wr7 ((rowE_good _ _ _ _ _).star ((rowE_good _ _ _ _ _).star ((rowE_good _ _ _ _ _).star ((rowE_good _ _ _ _ _).star emp_good)))) hS4 (i := 1) rfl _ _ _ _ _ _ _).imp (st_rev _ _ _ _ _)
end Go.Proofs.YtopkcaflmpjhgaaGreat

