
/- Put together: Sti, Str, Str3. Conditions: each theorem's own. -/
import Derived.Test.YtopkcaflmpjhgaaBpl
import Derived.Test.YtopkcaflmpjhgaaBus
import Derived.Test.YtopkcaflmpjhgaaBse
import Derived.Test.YtopkcaflmpjhgaaBpa
import Derived.Test.YtopkcaflmpjhgaaBin
import Derived.Test.YtopkcaflmpjhgaaBsp
namespace Go.Proofs.Ytopkcaflmpjhgaa
open Go Go.RowKit

abbrev TSt : TypeId := 32
/-- Where a state's rows lie. -/
structure Sv where
  u : Option Addr
  uc : Nat
  s : Option Addr
  sc : Nat
  p : Option Addr
  pc : Nat
  i : Option Addr
  ic : Nat
abbrev Sv.none : Sv := ⟨Option.none, 0, Option.none, 0, Option.none, 0, Option.none, 0⟩
/-- A state's cells. -/
abbrev stC (h : Sv) (s : St) : Array Value := #[.int .i64 s.b, .int .i64 s.e, .int .i64 s.n, .slice h.u s.us.length h.uc, .slice h.s s.ss.length h.sc, .slice h.p s.ad.length h.pc, .slice h.i s.sp.length h.ic]
/-- One that is handed in. -/
structure StIn (w : World) (h : Sv) (s : St) : Prop where
  us : UsIn [] w h.u s.us.length s.us
  ss : SeIn [] w h.s s.ss.length s.ss
  ad : PaIn [] w h.p s.ad.length s.ad
  sp : InIn [] w h.i s.sp.length s.sp
  cu : h.u = none → h.uc = 0
  cs : h.s = none → h.sc = 0
  ca : h.p = none → h.pc = 0
  ci : h.i = none → h.ic = 0
  fu : s.us.length ≤ 1954687338263
  fs : s.ss.length ≤ 4398046511099
  fa : s.ad.length ≤ 5864062014800
  fi : s.sp.length ≤ 17592186044411
theorem StIn.on {w W : World} {h : Sv} {s : St} (q : StIn w h s) (hb : Below w.heap.size w W) : StIn W h s :=
  ⟨us_on q.us hb, se_on q.ss hb, pa_on q.ad hb, in_on q.sp hb, q.cu, q.cs, q.ca, q.ci, q.fu, q.fs, q.fa, q.fi⟩
theorem StIn.none (w : World) : StIn w .none .none := ⟨us_none, se_none, pa_none, in_none, fun _ => rfl, fun _ => rfl, fun _ => rfl, fun _ => rfl, by decide, by decide, by decide, by decide⟩
/-- One of one's own. -/
abbrev StA (h : Sv) (s : St) (C : Ass) : Ass :=
  (rowE TUs 9 (.slice h.u s.us.length h.uc) s.us.length (usCells s.us)).star ((rowE TSe 4 (.slice h.s s.ss.length h.sc) s.ss.length (seCells s.ss)).star ((rowE TPa 3 (.slice h.p s.ad.length h.pc) s.ad.length (paCells s.ad)).star ((rowE TIn 1 (.slice h.i s.sp.length h.ic) s.sp.length (inCells s.sp)).star C)))
theorem StA_good {h : Sv} {s : St} {C : Ass} (hC : C.Good) : (StA h s C).Good := (rowE_good _ _ _ _ _).star ((rowE_good _ _ _ _ _).star ((rowE_good _ _ _ _ _).star ((rowE_good _ _ _ _ _).star hC)))
theorem emp_left (C : Ass) : (emp.star C).imp C := by
  rintro w F ⟨F1, F2, rfl, h1, h2, h3⟩
  obtain rfl : F1 = [] := h1
  exact ⟨F2, h2, fun k => by simp⟩
theorem star_assoc (A B C : Ass) : ((A.star B).star C).imp (A.star (B.star C)) := by
  rintro w F ⟨_, F3, rfl, ⟨F1, F2, rfl, h1, h2, h3⟩, h4, h5⟩
  exact ⟨F1 ++ (F2 ++ F3), ⟨F1, F2 ++ F3, rfl, h1, ⟨F2, F3, rfl, h2, h4, fun k hk => h5 k (by simp [hk])⟩, fun k hk hc => by
    rcases List.mem_append.1 hc with c | c
    · exact h3 k hk c
    · exact h5 k (by simp [hk]) c⟩, fun k => by simp⟩
theorem st_front (h : Sv) (s : St) (C : Ass) : ((StA h s emp).star C).imp (StA h s C) :=
  (star_assoc _ _ _).trans (((star_assoc _ _ _).trans (((star_assoc _ _ _).trans (((star_assoc _ _ _).trans ((emp_left C).under _)).under _)).under _)).under _)
/-- A state that a call made. -/
def StNew (w : World) (h : Sv) (s : St) (w' : World) : Prop := At w (StA h s emp) w'
theorem StNew.bel {w w' : World} {h : Sv} {s : St} (q : StNew w h s w') : Below w.heap.size w w' := At.bel q
theorem StNew.front {w0 w w' : World} {h : Sv} {s : St} {C : Ass} (hC : C.Good) (hS : At w0 C w) (q : StNew w h s w') : At w0 (StA h s C) w' := (At.add hC hS (us_made q)).imp (st_front h s C)
theorem StNew.under {w w1 w' : World} {h : Sv} {s : St} (hb : Below w.heap.size w w1) (q : StNew w1 h s w') : StNew w h s w' := At.under hb q
theorem StNew.no {w w' : World} (hb : Below w.heap.size w w') : StNew w .none .none w' := At.erow0 TUs 9 (At.erow0 TSe 4 (At.erow0 TPa 3 (At.erow0 TIn 1 (At.none hb))))
theorem At.stIn {w0 w : World} {h : Sv} {s : St} {C : Ass} (q : At w0 (StA h s C) w) (fu : s.us.length ≤ 1954687338263) (fs : s.ss.length ≤ 4398046511099) (fa : s.ad.length ≤ 5864062014800) (fi : s.sp.length ≤ 17592186044411) : StIn w h s :=
  ⟨q.usI rfl rfl (by omega), q.drop.seI rfl rfl (by omega), q.drop.drop.paI rfl rfl (by omega), q.drop.drop.drop.inI rfl rfl (by omega), q.usCap, q.drop.seCap, q.drop.drop.paCap, q.drop.drop.drop.inCap, fu, fs, fa, fi⟩
theorem StNew.in {w w' : World} {h : Sv} {s : St} (q : StNew w h s w') (fu : s.us.length ≤ 1954687338263) (fs : s.ss.length ≤ 4398046511099) (fa : s.ad.length ≤ 5864062014800) (fi : s.sp.length ≤ 17592186044411) : StIn w' h s := At.stIn q fu fs fa fi
theorem At.stDrop {w0 w : World} {h : Sv} {s : St} {C : Ass} (q : At w0 (StA h s C) w) : At w0 C w := q.drop.drop.drop.drop
theorem stab {w W W' : World} (hb : Below w.heap.size w W) (h : Below W.heap.size W W') : Below w.heap.size w W' := hb.trans (h.mono hb.size)
theorem stal {w W : World} (hb : Below w.heap.size w W) (B : Obj) : Below w.heap.size w (W.alloc B) := hb.alloc hb.size B
set_option maxRecDepth 100000 in
set_option maxHeartbeats 8000000 in
/-- SameState. -/
theorem st_same {w : World} {h h' : Sv} {s s' : St} (h1 : StIn w h s) (h2 : StIn w h' s') :
    Calls Try.prog 12 #[.agg (stC h s), .agg (stC h' s')] w fun e w' => e = .returned (.bool (decide (s = s'))) ∧ Below w.heap.size w w' := by
  have ka := (Blk.new w (stC h s) TSt).alloc (.cells (stC h' s') TSt)
  have kb := Blk.new' (w.alloc (.cells (stC h s) TSt)) (w.heap.size + 1) (by simp) (stC h' s') TSt
  have hB := stal (stal (Below.refl w.heap.size w) (.cells (stC h s) TSt)) (.cells (stC h' s') TSt)
  have ea := ka.cell
  have eb := kb.cell
  obtain ⟨b, e, n, us, ss, ad, sp⟩ := s
  obtain ⟨b', e', n', us', ss', ad', sp'⟩ := s'
  have H1 := Lib.hid h1
  have H2 := Lib.hid h2
  clear h1 h2 ea eb
  by_cases q0 : b = b'
  · subst q0
    by_cases q1 : e = e'
    · subst q1
      by_cases q2 : n = n'
      · subst q2
        by_cases q3 : us = us'
        · have d3 : decide (us = us') = true := decide_eq_true q3
          by_cases q4 : ss = ss'
          · have d4 : decide (ss = ss') = true := decide_eq_true q4
            by_cases q5 : ad = ad'
            · have d5 : decide (ad = ad') = true := decide_eq_true q5
              by_cases q6 : sp = sp'
              · have d6 : decide (sp = sp') = true := decide_eq_true q6
                have hr : decide ((⟨b, e, n, us, ss, ad, sp⟩ : St) = ⟨b, e, n, us', ss', ad', sp'⟩) = true := decide_eq_true (by rw [q3, q4, q5, q6])
                rw [hr]
                clear hr q3 q4 q5 q6
                have ea := ka.cell
                have eb := kb.cell
                go_enter Try.func12, Try.ntmps12
                go_wp2_with (first
                    | (go_at_call 18; (with_reducible refine (us_same (us_on H1.out.us hB) (us_on H2.out.us hB)).mono ?_); rintro r w1 ⟨rfl, hb⟩; replace hB := stab hB hb; replace ka := ka.step hb; replace kb := kb.step hb; replace ea := ka.cell; replace eb := kb.cell; clear hb)
                    | (go_at_call 16; (with_reducible refine (se_same (se_on H1.out.ss hB) (se_on H2.out.ss hB)).mono ?_); rintro r w2 ⟨rfl, hb⟩; replace hB := stab hB hb; replace ka := ka.step hb; replace kb := kb.step hb; replace ea := ka.cell; replace eb := kb.cell; clear hb)
                    | (go_at_call 17; (with_reducible refine (pa_same (pa_on H1.out.ad hB) (pa_on H2.out.ad hB)).mono ?_); rintro r w3 ⟨rfl, hb⟩; replace hB := stab hB hb; replace ka := ka.step hb; replace kb := kb.step hb; replace ea := ka.cell; replace eb := kb.cell; clear hb)
                    | (go_at_call 19; (with_reducible refine (in_same (in_on H1.out.sp hB) (in_on H2.out.sp hB)).mono ?_); rintro r w4 ⟨rfl, hb⟩; replace hB := stab hB hb; clear hb))
                go_ret
                exact ⟨rfl, hB⟩
              · have hr : decide ((⟨b, e, n, us, ss, ad, sp⟩ : St) = ⟨b, e, n, us', ss', ad', sp'⟩) = false := decide_eq_false (fun c => q6 (by injection c))
                rw [hr]
                have d6 : decide (sp = sp') = false := decide_eq_false q6
                clear hr q6 q3 q4 q5
                have ea := ka.cell
                have eb := kb.cell
                go_enter Try.func12, Try.ntmps12
                go_wp2_with (first
                    | (go_at_call 18; (with_reducible refine (us_same (us_on H1.out.us hB) (us_on H2.out.us hB)).mono ?_); rintro r w1 ⟨rfl, hb⟩; replace hB := stab hB hb; replace ka := ka.step hb; replace kb := kb.step hb; replace ea := ka.cell; replace eb := kb.cell; clear hb)
                    | (go_at_call 16; (with_reducible refine (se_same (se_on H1.out.ss hB) (se_on H2.out.ss hB)).mono ?_); rintro r w2 ⟨rfl, hb⟩; replace hB := stab hB hb; replace ka := ka.step hb; replace kb := kb.step hb; replace ea := ka.cell; replace eb := kb.cell; clear hb)
                    | (go_at_call 17; (with_reducible refine (pa_same (pa_on H1.out.ad hB) (pa_on H2.out.ad hB)).mono ?_); rintro r w3 ⟨rfl, hb⟩; replace hB := stab hB hb; replace ka := ka.step hb; replace kb := kb.step hb; replace ea := ka.cell; replace eb := kb.cell; clear hb)
                    | (go_at_call 19; (with_reducible refine (in_same (in_on H1.out.sp hB) (in_on H2.out.sp hB)).mono ?_); rintro r w4 ⟨rfl, hb⟩; replace hB := stab hB hb; clear hb))
                go_ret
                exact ⟨rfl, hB⟩
            · have hr : decide ((⟨b, e, n, us, ss, ad, sp⟩ : St) = ⟨b, e, n, us', ss', ad', sp'⟩) = false := decide_eq_false (fun c => q5 (by injection c))
              rw [hr]
              have d5 : decide (ad = ad') = false := decide_eq_false q5
              clear hr q5 q3 q4
              have ea := ka.cell
              have eb := kb.cell
              go_enter Try.func12, Try.ntmps12
              go_wp2_with (first
                  | (go_at_call 18; (with_reducible refine (us_same (us_on H1.out.us hB) (us_on H2.out.us hB)).mono ?_); rintro r w1 ⟨rfl, hb⟩; replace hB := stab hB hb; replace ka := ka.step hb; replace kb := kb.step hb; replace ea := ka.cell; replace eb := kb.cell; clear hb)
                  | (go_at_call 16; (with_reducible refine (se_same (se_on H1.out.ss hB) (se_on H2.out.ss hB)).mono ?_); rintro r w2 ⟨rfl, hb⟩; replace hB := stab hB hb; replace ka := ka.step hb; replace kb := kb.step hb; replace ea := ka.cell; replace eb := kb.cell; clear hb)
                  | (go_at_call 17; (with_reducible refine (pa_same (pa_on H1.out.ad hB) (pa_on H2.out.ad hB)).mono ?_); rintro r w3 ⟨rfl, hb⟩; replace hB := stab hB hb; replace ka := ka.step hb; replace kb := kb.step hb; replace ea := ka.cell; replace eb := kb.cell; clear hb)
                  | (go_at_call 19; (with_reducible refine (in_same (in_on H1.out.sp hB) (in_on H2.out.sp hB)).mono ?_); rintro r w4 ⟨rfl, hb⟩; replace hB := stab hB hb; clear hb))
              go_ret
              exact ⟨rfl, hB⟩
          · have hr : decide ((⟨b, e, n, us, ss, ad, sp⟩ : St) = ⟨b, e, n, us', ss', ad', sp'⟩) = false := decide_eq_false (fun c => q4 (by injection c))
            rw [hr]
            have d4 : decide (ss = ss') = false := decide_eq_false q4
            clear hr q4 q3
            have ea := ka.cell
            have eb := kb.cell
            go_enter Try.func12, Try.ntmps12
            go_wp2_with (first
                | (go_at_call 18; (with_reducible refine (us_same (us_on H1.out.us hB) (us_on H2.out.us hB)).mono ?_); rintro r w1 ⟨rfl, hb⟩; replace hB := stab hB hb; replace ka := ka.step hb; replace kb := kb.step hb; replace ea := ka.cell; replace eb := kb.cell; clear hb)
                | (go_at_call 16; (with_reducible refine (se_same (se_on H1.out.ss hB) (se_on H2.out.ss hB)).mono ?_); rintro r w2 ⟨rfl, hb⟩; replace hB := stab hB hb; replace ka := ka.step hb; replace kb := kb.step hb; replace ea := ka.cell; replace eb := kb.cell; clear hb)
                | (go_at_call 17; (with_reducible refine (pa_same (pa_on H1.out.ad hB) (pa_on H2.out.ad hB)).mono ?_); rintro r w3 ⟨rfl, hb⟩; replace hB := stab hB hb; replace ka := ka.step hb; replace kb := kb.step hb; replace ea := ka.cell; replace eb := kb.cell; clear hb)
                | (go_at_call 19; (with_reducible refine (in_same (in_on H1.out.sp hB) (in_on H2.out.sp hB)).mono ?_); rintro r w4 ⟨rfl, hb⟩; replace hB := stab hB hb; clear hb))
            go_ret
            exact ⟨rfl, hB⟩
        · have hr : decide ((⟨b, e, n, us, ss, ad, sp⟩ : St) = ⟨b, e, n, us', ss', ad', sp'⟩) = false := decide_eq_false (fun c => q3 (by injection c))
          rw [hr]
          have d3 : decide (us = us') = false := decide_eq_false q3
          clear hr q3
          have ea := ka.cell
          have eb := kb.cell
          go_enter Try.func12, Try.ntmps12
          go_wp2_with (first
              | (go_at_call 18; (with_reducible refine (us_same (us_on H1.out.us hB) (us_on H2.out.us hB)).mono ?_); rintro r w1 ⟨rfl, hb⟩; replace hB := stab hB hb; replace ka := ka.step hb; replace kb := kb.step hb; replace ea := ka.cell; replace eb := kb.cell; clear hb)
              | (go_at_call 16; (with_reducible refine (se_same (se_on H1.out.ss hB) (se_on H2.out.ss hB)).mono ?_); rintro r w2 ⟨rfl, hb⟩; replace hB := stab hB hb; replace ka := ka.step hb; replace kb := kb.step hb; replace ea := ka.cell; replace eb := kb.cell; clear hb)
              | (go_at_call 17; (with_reducible refine (pa_same (pa_on H1.out.ad hB) (pa_on H2.out.ad hB)).mono ?_); rintro r w3 ⟨rfl, hb⟩; replace hB := stab hB hb; replace ka := ka.step hb; replace kb := kb.step hb; replace ea := ka.cell; replace eb := kb.cell; clear hb)
              | (go_at_call 19; (with_reducible refine (in_same (in_on H1.out.sp hB) (in_on H2.out.sp hB)).mono ?_); rintro r w4 ⟨rfl, hb⟩; replace hB := stab hB hb; clear hb))
          go_ret
          exact ⟨rfl, hB⟩
      · have hr : decide ((⟨b, e, n, us, ss, ad, sp⟩ : St) = ⟨b, e, n', us', ss', ad', sp'⟩) = false := decide_eq_false (fun c => q2 (by injection c))
        rw [hr]
        clear hr
        have ea := ka.cell
        have eb := kb.cell
        go_enter Try.func12, Try.ntmps12
        go_wp2_with (first
            | (go_at_call 18; (with_reducible refine (us_same (us_on H1.out.us hB) (us_on H2.out.us hB)).mono ?_); rintro r w1 ⟨rfl, hb⟩; replace hB := stab hB hb; replace ka := ka.step hb; replace kb := kb.step hb; replace ea := ka.cell; replace eb := kb.cell; clear hb)
            | (go_at_call 16; (with_reducible refine (se_same (se_on H1.out.ss hB) (se_on H2.out.ss hB)).mono ?_); rintro r w2 ⟨rfl, hb⟩; replace hB := stab hB hb; replace ka := ka.step hb; replace kb := kb.step hb; replace ea := ka.cell; replace eb := kb.cell; clear hb)
            | (go_at_call 17; (with_reducible refine (pa_same (pa_on H1.out.ad hB) (pa_on H2.out.ad hB)).mono ?_); rintro r w3 ⟨rfl, hb⟩; replace hB := stab hB hb; replace ka := ka.step hb; replace kb := kb.step hb; replace ea := ka.cell; replace eb := kb.cell; clear hb)
            | (go_at_call 19; (with_reducible refine (in_same (in_on H1.out.sp hB) (in_on H2.out.sp hB)).mono ?_); rintro r w4 ⟨rfl, hb⟩; replace hB := stab hB hb; clear hb))
        go_ret
        exact ⟨rfl, hB⟩
    · have hr : decide ((⟨b, e, n, us, ss, ad, sp⟩ : St) = ⟨b, e', n', us', ss', ad', sp'⟩) = false := decide_eq_false (fun c => q1 (by injection c))
      rw [hr]
      clear hr
      have ea := ka.cell
      have eb := kb.cell
      go_enter Try.func12, Try.ntmps12
      go_wp2_with (first
          | (go_at_call 18; (with_reducible refine (us_same (us_on H1.out.us hB) (us_on H2.out.us hB)).mono ?_); rintro r w1 ⟨rfl, hb⟩; replace hB := stab hB hb; replace ka := ka.step hb; replace kb := kb.step hb; replace ea := ka.cell; replace eb := kb.cell; clear hb)
          | (go_at_call 16; (with_reducible refine (se_same (se_on H1.out.ss hB) (se_on H2.out.ss hB)).mono ?_); rintro r w2 ⟨rfl, hb⟩; replace hB := stab hB hb; replace ka := ka.step hb; replace kb := kb.step hb; replace ea := ka.cell; replace eb := kb.cell; clear hb)
          | (go_at_call 17; (with_reducible refine (pa_same (pa_on H1.out.ad hB) (pa_on H2.out.ad hB)).mono ?_); rintro r w3 ⟨rfl, hb⟩; replace hB := stab hB hb; replace ka := ka.step hb; replace kb := kb.step hb; replace ea := ka.cell; replace eb := kb.cell; clear hb)
          | (go_at_call 19; (with_reducible refine (in_same (in_on H1.out.sp hB) (in_on H2.out.sp hB)).mono ?_); rintro r w4 ⟨rfl, hb⟩; replace hB := stab hB hb; clear hb))
      go_ret
      exact ⟨rfl, hB⟩
  · have hr : decide ((⟨b, e, n, us, ss, ad, sp⟩ : St) = ⟨b', e', n', us', ss', ad', sp'⟩) = false := decide_eq_false (fun c => q0 (by injection c))
    rw [hr]
    clear hr
    have ea := ka.cell
    have eb := kb.cell
    go_enter Try.func12, Try.ntmps12
    go_wp2_with (first
        | (go_at_call 18; (with_reducible refine (us_same (us_on H1.out.us hB) (us_on H2.out.us hB)).mono ?_); rintro r w1 ⟨rfl, hb⟩; replace hB := stab hB hb; replace ka := ka.step hb; replace kb := kb.step hb; replace ea := ka.cell; replace eb := kb.cell; clear hb)
        | (go_at_call 16; (with_reducible refine (se_same (se_on H1.out.ss hB) (se_on H2.out.ss hB)).mono ?_); rintro r w2 ⟨rfl, hb⟩; replace hB := stab hB hb; replace ka := ka.step hb; replace kb := kb.step hb; replace ea := ka.cell; replace eb := kb.cell; clear hb)
        | (go_at_call 17; (with_reducible refine (pa_same (pa_on H1.out.ad hB) (pa_on H2.out.ad hB)).mono ?_); rintro r w3 ⟨rfl, hb⟩; replace hB := stab hB hb; replace ka := ka.step hb; replace kb := kb.step hb; replace ea := ka.cell; replace eb := kb.cell; clear hb)
        | (go_at_call 19; (with_reducible refine (in_same (in_on H1.out.sp hB) (in_on H2.out.sp hB)).mono ?_); rintro r w4 ⟨rfl, hb⟩; replace hB := stab hB hb; clear hb))
    go_ret
    exact ⟨rfl, hB⟩
end Go.Proofs.Ytopkcaflmpjhgaa

namespace Go.Proofs.Ytopkcaflmpjhgaa
open Go Go.RowKit

theorem st_box (w : World) (h : Sv) (s : St) : Below w.heap.size w (w.alloc (.cells (stC h s) TSt)) := (Below.refl _ _).alloc (Nat.le_refl _) _
theorem spent_take {sp : List Int} {k : Nat} (hk : k < sp.length) (u : Int) : (sp.take (k + 1)).contains u = ((sp.take k).contains u || (sp.getD k 0 == u)) := by
  have e : sp.getD k 0 = sp[k] := by simp [List.getD, hk]
  rw [List.take_succ_eq_append_getElem hk, e, Bool.eq_iff_iff, Bool.or_eq_true, List.contains_iff_mem, List.contains_iff_mem, List.mem_append, List.mem_singleton, beq_iff_eq]
  exact or_congr Iff.rfl ⟨fun c => c.symm, fun c => c.symm⟩
theorem spent_hit {sp : List Int} {k : Nat} (hk : k < sp.length) : sp.contains (sp.getD k 0) = true := by
  have e : sp.getD k 0 = sp[k] := by simp [List.getD, hk]
  rw [e, List.contains_iff_mem]
  exact List.getElem_mem hk
end Go.Proofs.Ytopkcaflmpjhgaa

namespace Go.Proofs.Ytopkcaflmpjhgaa
open Go Go.RowKit

theorem st_rev (A B D E C : Ass) : (A.star (B.star (D.star (E.star C)))).imp (E.star (D.star (B.star (A.star C)))) :=
  (Ass.imp.up3 A B D E C).trans ((Ass.imp.up2 A B D C).under E |>.trans (((Ass.imp.swap A B C).under D).under E))
end Go.Proofs.Ytopkcaflmpjhgaa

