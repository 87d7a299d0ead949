/- Package record's Get (and, imported, Put): what it answers and leaves. Conditions: the text's size, the handle of the type error. -/
import Derived.Test.YtiebpjkppjollaaDoorRcp10
namespace Go.Proofs.YtiebpjkppjollaaDoor
open Go Go.RowKit

theorem dpgetR (p : Nat) (most : Int) (ts : List ByteArray) (s : ByteArray) (seq prev : Int) (hs : s.size ≤ 9223372036854770000) : ReadsG Tryd.prog (bookA p most ts) 17 #[.pointer (some ⟨p, 0, none⟩), .string s, .int .i64 seq, .int .i64 prev]
    (.returned (.tuple #[(rgR ts s seq prev).val, .int .i64 (rgN ts s seq prev), .int .i64 (rgE ts s seq prev)])) := by
  have hR := fun w hg => pread s w hs hg
  have hf := find_P ts s
  cases hp : rdP s with
  | none =>
    rw [hp] at hf
    obtain ⟨q1, q2, q3⟩ := find_no hf seq prev
    rw [q1, q2, q3]
    rw [show rdV s = .returned (.tuple #[.agg Z11, .int .i64 0, .bool false]) by unfold rdV; rw [hp]; rfl] at hR
    exact pget_none p most ts s seq prev hR
  | some x =>
    obtain ⟨r, own⟩ := x
    have ho := rdP_num hp
    rw [hp] at hf
    replace hf : rcFind ts s = if r.may && ckI ts true r.tm own && decide (r.sec own = s) then some (r, own) else none := hf
    rw [show rdV s = .returned (.tuple #[r.val, .int .i64 own, .bool true]) by unfold rdV; rw [hp]] at hR
    cases hm : r.may with
    | false =>
      rw [hm, Bool.false_and, Bool.false_and] at hf
      obtain ⟨q1, q2, q3⟩ := find_no hf seq prev
      rw [q1, q2, q3]
      have hj := fun w => pjoin_no r hm w
      obtain ⟨x1, x2, x3, ⟨k, u, q, a, x, y, z, t⟩⟩ := r
      exact pget_w0 p most ts s seq prev _ _ _ _ _ _ _ _ _ _ _ own hR hj
    | true =>
      rw [hm, Bool.true_and] at hf
      have hj := fun w => pjoin_yes r hm w
      have hsm := r.body_small
      by_cases hc : r.sec own = s
      · have hi := sis_yes p most ts s markR r.body own ho (by decide) hsm hc
        rw [decide_eq_true hc, Bool.and_true] at hf
        rw [show tmK cH none (markR ++ r.body) = r.tm from rfl] at hi
        cases hk : ckI ts true r.tm own with
        | false =>
          rw [hk] at hf hi
          obtain ⟨q1, q2, q3⟩ := find_no hf seq prev
          rw [q1, q2, q3]
          generalize r.body = BO at *
          obtain ⟨x1, x2, x3, ⟨k, u, q, a, x, y, z, t⟩⟩ := r
          exact pget_w1 p most ts s seq prev _ _ _ _ _ _ _ _ _ _ _ own BO hR hj hi
        | true =>
          rw [hk] at hi
          obtain ⟨_, f1, f2⟩ := find_of hm ho hk seq prev
          rw [hc] at f1 f2
          by_cases h1 : r.seq = seq
          · by_cases h2 : r.prev = prev
            · obtain ⟨q1, q2, q3⟩ := f1 ⟨h1, h2⟩
              rw [q1, q2, q3]
              generalize r.body = BO at *
              obtain ⟨x1, x2, x3, ⟨k, u, q, a, x, y, z, t⟩⟩ := r
              simp only at h1 h2
              subst h1 h2
              exact pget_w4 p most ts s _ _ _ _ _ _ _ _ _ _ _ own BO hR hj hi
            · obtain ⟨q1, q2, q3⟩ := f2 (fun c => h2 c.2)
              rw [q1, q2, q3]
              generalize r.body = BO at *
              obtain ⟨x1, x2, x3, ⟨k, u, q, a, x, y, z, t⟩⟩ := r
              simp only at h1 h2
              subst h1
              exact pget_w3 p most ts s _ prev _ _ _ _ _ _ _ _ _ _ own BO h2 hR hj hi
          · obtain ⟨q1, q2, q3⟩ := f2 (fun c => h1 c.1)
            rw [q1, q2, q3]
            generalize r.body = BO at *
            obtain ⟨x1, x2, x3, ⟨k, u, q, a, x, y, z, t⟩⟩ := r
            exact pget_w2 p most ts s seq prev _ _ _ _ _ _ _ _ _ _ _ own BO h1 hR hj hi
      · have hi := sis_no p most ts s markR r.body own ho hsm hc
        rw [decide_eq_false hc, Bool.and_false] at hf
        obtain ⟨q1, q2, q3⟩ := find_no hf seq prev
        rw [q1, q2, q3]
        generalize r.body = BO at *
        obtain ⟨x1, x2, x3, ⟨k, u, q, a, x, y, z, t⟩⟩ := r
        exact pget_w1 p most ts s seq prev _ _ _ _ _ _ _ _ _ _ _ own BO hR hj hi
theorem dpget (p : Nat) (most : Int) (ts : List ByteArray) (s : ByteArray) (seq prev : Int) (hs : s.size ≤ 9223372036854770000) : DoesG Tryd.prog (bookA p most ts) 17 #[.pointer (some ⟨p, 0, none⟩), .string s, .int .i64 seq, .int .i64 prev]
    (.returned (.tuple #[(rgR ts s seq prev).val, .int .i64 (rgN ts s seq prev), .int .i64 (rgE ts s seq prev)])) (bookA p most ts) := (dpgetR p most ts s seq prev hs).does (bookA_good _ _ _)
end Go.Proofs.YtiebpjkppjollaaDoor
