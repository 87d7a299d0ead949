/- Package record's read: what it answers, at any text. Conditions: the text's size, and the handle of the type error. -/
import Derived.Test.YtiebpjkppjollaaDoorRcp7
import Derived.Test.YtiebpjkppjollaaDoorFtext
import Derived.Test.YtiebpjkppjollaaDoorBfg
namespace Go.Proofs.YtiebpjkppjollaaDoor
open Go Go.RowKit

/-- The record and the number that stand in s, whether or not it is such a sector. -/
def rdP (s : ByteArray) : Option (Rc × Int) :=
  if getE s 0 = 0 then
    if getE s (getTo s 0) = 0 then
      if getE s (getTo s (getTo s 0)) = 0 then
        if txtE s (getTo s (getTo s (getTo s 0))) = 0 then
          match Ev.get (txtS s (getTo s (getTo s (getTo s 0)))) with
          | some v => if getE s (txtTo s (getTo s (getTo s (getTo s 0)))) = 0 then some (⟨getX s 0, getX s (getTo s 0), getX s (getTo s (getTo s 0)), v⟩, getX s (txtTo s (getTo s (getTo s (getTo s 0))))) else none
          | none => none
        else none
      else none
    else none
  else none
theorem rdP_of {s : ByteArray} {r : Rc} {own : Int} (h : rcRd s = some (r, own)) : rdP s = some (r, own) := by
  unfold rcRd at h
  unfold rdP
  by_cases e1 : getE s 0 = 0
  · by_cases e2 : getE s (getTo s 0) = 0
    · by_cases e3 : getE s (getTo s (getTo s 0)) = 0
      · by_cases e4 : txtE s (getTo s (getTo s (getTo s 0))) = 0
        · by_cases e5 : getE s (txtTo s (getTo s (getTo s (getTo s 0)))) = 0
          · simp only [rdL, if_pos e1, if_pos e2, if_pos e3, if_pos e4, if_pos e5, Option.map_some, Option.bind_some, rcMk] at h
            rw [if_pos e1, if_pos e2, if_pos e3, if_pos e4]
            cases hv : Ev.get (txtS s (getTo s (getTo s (getTo s 0)))) with
            | none => rw [hv] at h; cases h
            | some v =>
              rw [hv] at h
              simp only at h ⊢
              rw [if_pos e5]
              split at h
              · exact h
              · cases h
          · simp only [rdL, if_pos e1, if_pos e2, if_pos e3, if_pos e4, if_neg e5, Option.map_none, Option.bind_none] at h; cases h
        · simp only [rdL, if_pos e1, if_pos e2, if_pos e3, if_neg e4, Option.map_none, Option.bind_none] at h; cases h
      · simp only [rdL, if_pos e1, if_pos e2, if_neg e3, Option.map_none, Option.bind_none] at h; cases h
    · simp only [rdL, if_pos e1, if_neg e2, Option.map_none, Option.bind_none] at h; cases h
  · simp only [rdL, if_neg e1, Option.bind_none] at h; cases h
theorem rdP_num {s : ByteArray} {r : Rc} {own : Int} (h : rdP s = some (r, own)) : okNum own = true := by
  unfold rdP at h
  split at h
  · split at h
    · split at h
      · split at h
        · split at h
          · split at h
            · rename_i e5
              obtain ⟨b0, b1, _⟩ := get_bd e5
              simp only [Option.some.injEq, Prod.mk.injEq] at h
              rw [← h.2]
              exact (okNum_iff _).2 ⟨b0, b1⟩
            · cases h
          · cases h
        · cases h
      · cases h
    · cases h
  · cases h
/-- What is found, by what is read: it may be, its name is its own hash's, and it is put so. -/
theorem find_P (ts : List ByteArray) (s : ByteArray) : rcFind ts s = (rdP s).bind fun x => if x.1.may && ckI ts true x.1.tm x.2 && decide (x.1.sec x.2 = s) then some x else none := by
  cases hp : rdP s with
  | none =>
    cases hf : rcFind ts s with
    | none => rfl
    | some y =>
      obtain ⟨r, own⟩ := y
      obtain ⟨a, b, c, _⟩ := (rcFind_iff ts s r own).1 hf
      have := rdP_of (c ▸ rcRd_back r own a b)
      rw [hp] at this; cases this
  | some x =>
    obtain ⟨r, own⟩ := x
    show _ = if r.may && ckI ts true r.tm own && decide (r.sec own = s) then some (r, own) else none
    split
    · rename_i hc
      simp only [Bool.and_eq_true, decide_eq_true_eq] at hc
      exact (rcFind_iff ts s r own).2 ⟨hc.1.1, rdP_num hp, hc.2.symm, hc.1.2⟩
    · rename_i hc
      cases hf : rcFind ts s with
      | none => rfl
      | some y =>
        obtain ⟨q, o⟩ := y
        obtain ⟨a, b, c, d⟩ := (rcFind_iff ts s q o).1 hf
        have := rdP_of (c ▸ rcRd_back q o a b)
        rw [hp] at this
        cases this
        refine absurd ?_ hc
        simp only [Bool.and_eq_true, decide_eq_true_eq]
        exact ⟨⟨a, d⟩, c.symm⟩
theorem fgettE {s : ByteArray} {a : Int} (e : txtE s a = 0) (hs : s.size ≤ 9223372036854770000) (ha0 : -9223372036854775808 ≤ a) (ha1 : a ≤ 9223372036854775807) (w : World) (hg : Gd w) :
    Calls Tryd.prog 62 #[.string s, .int .i64 a] w fun e w' => e = .returned (.tuple #[.string (txtS s a), .int .i64 (txtTo s a), .int .i64 0]) ∧ Below w.heap.size w w' := by
  have := fgett s a w hs ha0 ha1 hg
  rw [e] at this
  exact this
def rdV (s : ByteArray) : Ending := match rdP s with
  | some x => .returned (.tuple #[x.1.val, .int .i64 x.2, .bool true])
  | none => .returned (.tuple #[Rc.zero.val, .int .i64 0, .bool false])
theorem pread (s : ByteArray) (w : World) (hs : s.size ≤ 9223372036854770000) (hg : Gd w) : Calls Tryd.prog 42 #[.string s] w fun e w' => e = rdV s ∧ Below w.heap.size w w' := by
  have hN : rdP s = none → rdV s = .returned (.tuple #[.agg #[.int .i64 0, .int .i64 0, .int .i64 0, .int .i64 0, .int .i64 0, .int .i64 0, .int .i64 0, .int .i64 0, .int .i64 0, .int .i64 0, .int .i64 0], .int .i64 0, .bool false]) := fun h => by unfold rdV; rw [h]; rfl
  by_cases e1 : getE s 0 = 0
  · obtain ⟨_, _, b2, b3, b4⟩ := get_bd e1
    by_cases e2 : getE s (getTo s 0) = 0
    · obtain ⟨_, _, c2, c3, c4⟩ := get_bd e2
      by_cases e3 : getE s (getTo s (getTo s 0)) = 0
      · obtain ⟨_, _, d2, d3, d4⟩ := get_bd e3
        by_cases e4 : txtE s (getTo s (getTo s (getTo s 0))) = 0
        · obtain ⟨m, hm⟩ : ∃ m : Nat, getTo s (getTo s (getTo s 0)) = m := ⟨(getTo s (getTo s (getTo s 0))).toNat, by omega⟩
          have e4' := e4
          rw [hm] at e4'
          obtain ⟨m2, hm2, f1, f2, f3, _⟩ := txt_back e4'
          rw [← hm] at hm2 f3
          have hsz : (txtS s (getTo s (getTo s (getTo s 0)))).size ≤ 9223372036854770000 := by omega
          have PE := fun w hg => epget (txtS s (getTo s (getTo s (getTo s 0)))) w hsz hg
          cases hv : Ev.get (txtS s (getTo s (getTo s (getTo s 0)))) with
          | none =>
            rw [hN (by unfold rdP; rw [if_pos e1, if_pos e2, if_pos e3, if_pos e4, hv])]
            rw [show Ev.getE (txtS s (getTo s (getTo s (getTo s 0)))) = 700 by unfold Ev.getE; rw [hv]; rfl] at PE
            exact pread5 s _ _ _ _ _ _ _ _ _ _ _ _ _ _ _ _ w hg (fgetE e1 hs (by omega) (by omega)) (fgetE e2 hs (by omega) (by omega)) (fgetE e3 hs (by omega) (by omega)) (fgettE e4 hs (by omega) (by omega)) PE
          | some v =>
            rw [show Ev.getE (txtS s (getTo s (getTo s (getTo s 0)))) = 0 by unfold Ev.getE; rw [hv]; rfl, show Ev.getP (txtS s (getTo s (getTo s (getTo s 0)))) = v by unfold Ev.getP; rw [hv]; rfl] at PE
            by_cases e5 : getE s (txtTo s (getTo s (getTo s (getTo s 0)))) = 0
            · rw [show rdV s = .returned (.tuple #[(Rc.mk (getX s 0) (getX s (getTo s 0)) (getX s (getTo s (getTo s 0))) v).val, .int .i64 (getX s (txtTo s (getTo s (getTo s (getTo s 0))))), .bool true]) by unfold rdV rdP; rw [if_pos e1, if_pos e2, if_pos e3, if_pos e4, hv]; simp only; rw [if_pos e5]]
              obtain ⟨k, u, q, a, x, y, z, t⟩ := v
              exact pread7 s _ _ _ _ _ _ _ _ _ _ _ _ _ _ _ _ _ _ w hg (fgetE e1 hs (by omega) (by omega)) (fgetE e2 hs (by omega) (by omega)) (fgetE e3 hs (by omega) (by omega)) (fgettE e4 hs (by omega) (by omega)) PE (fgetE e5 hs (by omega) (by omega))
            · rw [hN (by unfold rdP; rw [if_pos e1, if_pos e2, if_pos e3, if_pos e4, hv]; simp only; rw [if_neg e5])]
              obtain ⟨k, u, q, a, x, y, z, t⟩ := v
              exact pread6 s _ _ _ _ _ _ _ _ _ _ _ _ _ _ _ _ _ _ _ w hg (fgetE e1 hs (by omega) (by omega)) (fgetE e2 hs (by omega) (by omega)) (fgetE e3 hs (by omega) (by omega)) (fgettE e4 hs (by omega) (by omega)) PE (fun w hg => fget s _ w hs (by omega) (by omega) hg) e5
        · rw [hN (by unfold rdP; rw [if_pos e1, if_pos e2, if_pos e3, if_neg e4])]
          exact pread4 s _ _ _ _ _ _ _ _ _ w hg (fgetE e1 hs (by omega) (by omega)) (fgetE e2 hs (by omega) (by omega)) (fgetE e3 hs (by omega) (by omega)) (fun w hg => fgett s _ w hs (by omega) (by omega) hg) e4
      · rw [hN (by unfold rdP; rw [if_pos e1, if_pos e2, if_neg e3])]
        exact pread3 s _ _ _ _ _ _ _ w hg (fgetE e1 hs (by omega) (by omega)) (fgetE e2 hs (by omega) (by omega)) (fun w hg => fget s _ w hs (by omega) (by omega) hg) e3
    · rw [hN (by unfold rdP; rw [if_pos e1, if_neg e2])]
      exact pread2 s _ _ _ _ _ w hg (fgetE e1 hs (by omega) (by omega)) (fun w hg => fget s _ w hs (by omega) (by omega) hg) e2
  · rw [hN (by unfold rdP; rw [if_neg e1])]
    exact pread1 s _ _ _ w hg (fun w hg => fget s 0 w hs (by omega) (by omega) hg) e1
end Go.Proofs.YtiebpjkppjollaaDoor
