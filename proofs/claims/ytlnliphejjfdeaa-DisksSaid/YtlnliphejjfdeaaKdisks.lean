/- The walk of Disks: under any calls the disk answers as the reference's. No condition. -/
import Derived.Test.YtlnliphejjfdeaaKaw
import Derived.Test.YtlnliphejjfdeaaOwnA
import Derived.IntWalk
namespace Go.Proofs.Ytlnliphejjfdeaa
open Go Go.RowKit

/-- An act of the statement's. -/
structure Act8 where
  k : Int
  i : Int
  s : ByteArray
  b : Bool
  m : Int
  t : Int
abbrev Act8.none : Act8 := ⟨0, 0, ⟨#[]⟩, false, 0, 0⟩
/-- A row of acts that came in: so many, each in its cells. -/
structure AArg (w : World) (ao : Option Addr) (cs : List Act8) : Prop where
  cell : ∀ j, j < cs.length → ∃ b off, ao = some ⟨b, off, Option.none⟩ ∧ w.cell? ⟨b, off + j * 6, Option.none⟩ = some (.int .i64 (cs.getD j .none).k) ∧ w.cell? ⟨b, off + j * 6 + 1, Option.none⟩ = some (.int .i64 (cs.getD j .none).i) ∧
    w.cell? ⟨b, off + j * 6 + 2, Option.none⟩ = some (.string (cs.getD j .none).s) ∧ w.cell? ⟨b, off + j * 6 + 3, Option.none⟩ = some (.bool (cs.getD j .none).b) ∧ w.cell? ⟨b, off + j * 6 + 4, Option.none⟩ = some (.int .i64 (cs.getD j .none).m) ∧ w.cell? ⟨b, off + j * 6 + 5, Option.none⟩ = some (.int .i64 (cs.getD j .none).t)
  bd : ∀ j, j < cs.length → (cs.getD j .none).s.size ≤ 9223372036854770000 ∧ (cs.getD j .none).m ≤ 9223372036854775807 ∧ (cs.getD j .none).t ≤ 9223372036854775807
  few : cs.length ≤ 9223372036854770000
theorem AArg.below {w w' : World} {ao : Option Addr} {cs : List Act8} (h : AArg w ao cs) (hb : Below w.heap.size w w') : AArg w' ao cs := by
  refine ⟨fun j hj => ?_, h.bd, h.few⟩
  obtain ⟨b, off, e, c0, c1, c2, c3, c4, c5⟩ := h.cell j hj
  have hl := World.block_lt_of_cell? w ⟨b, off + j * 6, Option.none⟩ c0
  have hk := fun i => World.cell?_of_block (a := ⟨b, i, Option.none⟩) (hb.block b hl)
  exact ⟨b, off, e, (hk _).trans c0, (hk _).trans c1, (hk _).trans c2, (hk _).trans c3, (hk _).trans c4, (hk _).trans c5⟩
/-- The two disks. -/
abbrev duo (p q : Nat) (d : Dk) : Ass := (dkA TR q d).star ((dpA p d).star emp)
theorem duo1 (p : Nat) (d : Dk) : ((dpA p d).star emp).Good := (dpA_good _ _).star emp_good
theorem duo_good (p q : Nat) (d : Dk) : (duo p q d).Good := (dkA_good _ _ _).star (duo1 _ _)
/-- The two disks, and the act that is at hand. -/
abbrev trio (b : Nat) (c : Array Value) (T : TypeId) (p q : Nat) (d : Dk) : Ass := (ownA b c T).star (duo p q d)
theorem trio_good (b : Nat) (c : Array Value) (T : TypeId) (p q : Nat) (d : Dk) : (trio b c T p q d).Good := (ownA_good _ _ _).star (duo_good _ _ _)
theorem At.q1 {b : Nat} {c : Array Value} {T : TypeId} {p q : Nat} {d d' : Dk} {f : FuncId} {args : Array Value} {v : Ending} (hd : Does Try.prog (dpA p d) f args v (dpA p d')) {w0 w : World} (h : At w0 (trio b c T p q d) w) : Calls Try.prog f args w fun e w' => e = v ∧ At w0 ((ownA b c T).star ((dkA TR q d).star ((dpA p d').star emp))) w' := At.op2 hd (ownA_good _ _ _) (dkA_good _ _ _) emp_good h
theorem At.q2 {b : Nat} {c : Array Value} {T : TypeId} {p q : Nat} {d d' d2 : Dk} {f : FuncId} {args : Array Value} {v : Ending} (hd : Does Try.prog (dkA TR q d) f args v (dkA TR q d')) {w0 w : World} (h : At w0 ((ownA b c T).star ((dkA TR q d).star ((dpA p d2).star emp))) w) : Calls Try.prog f args w fun e w' => e = v ∧ At w0 ((ownA b c T).star ((dkA TR q d').star ((dpA p d2).star emp))) w' := At.op1 hd (ownA_good _ _ _) (duo1 _ _) h
set_option maxRecDepth 100000 in
set_option maxHeartbeats 8000000 in
theorem disks_ok (n : Nat) (ao : Option Addr) (cap : Nat) (cs : List Act8) (w : World) (hA : AArg w ao cs) (h1 : 1 ≤ n) (h2 : n ≤ 256) :
    Calls Try.prog 3 #[.int .i64 n, .slice ao cs.length cap] w fun e w' => e = .returned (.bool true) ∧ Below w.heap.size w w' := by
  have hfew := hA.few
  have HA := Lib.hid hA
  clear hA
  go_enter Try.func3, Try.ntmps3
  go_wp2_with (first
    | (go_at_call 7; (with_reducible refine (kpnew_ok n _ h1 h2).mono ?_); rintro e w1 ⟨p, rfl, hb⟩; have hS : At w ((dpA p (Dk.new n)).star emp) w1 := At.add emp_good (At.none (Below.refl _ _)) hb; clear hb)
    | (go_at_call 8; (with_reducible refine (krnew_ok n _ h1 h2).mono ?_); rintro e w1 ⟨q, rfl, hb⟩; replace hS : At w (duo p q (Dk.new n)) w1 := At.add (duo1 _ _) hS hb; clear hb)
    | (go_at_call 9; (with_reducible refine (lnum _ _).mono ?_); rintro e w1 ⟨rfl, rfl⟩))
  have hd0 : (Dk.new n).waits.length ≤ 0 ∧ (Dk.new n).kept.length = n := ⟨Nat.le_refl _, by simp [Dk.new]⟩
  go_loopw [9] (fun x wr => ∃ (k : Nat) (d : Dk), k ≤ cs.length ∧ x = .int .i64 (k : Int) ∧ d.waits.length ≤ k ∧ d.kept.length = n ∧ At w (duo p q d) wr) (fun x _ => cs.length - (intOf x).toNat)
  case atStart => exact ⟨0, _, Nat.zero_le _, rfl, hd0.1, hd0.2, hS⟩
  case round =>
    clear hS hd0
    obtain ⟨k, d, hk, rfl, hdw, hdk, hS⟩ := hrel
    by_cases hlt : k < cs.length
    · by_cases h80 : k < 80
      · obtain ⟨b, off, rfl, c0, c1, c2, c3, c4, c5⟩ := (HA.out.below hS.bel).cell k hlt
        obtain ⟨bd1, bd2, bd3⟩ := HA.out.bd k hlt
        obtain ⟨a, ha⟩ : ∃ a, cs.getD k .none = a := ⟨_, rfl⟩
        rw [ha] at c0 c1 c2 c3 c4 c5 bd1 bd2 bd3
        clear ha
        obtain ⟨ak, ai, as_, ab, am, at_⟩ := a
        simp only at c0 c1 c2 c3 c4 c5 bd1 bd2 bd3
        replace hS := hS.hold (duo_good _ _ _) #[.int .i64 ak, .int .i64 ai, .string as_, .bool ab, .int .i64 am, .int .i64 at_] 33
        obtain ⟨e1, g1, l1⟩ := hS.own
        cases ab
        · by_cases k1 : ak < 5
          · clear e1 g1
            obtain ⟨e1, g1, l1⟩ := hS.own
            have HP := Lib.hid (kpwrite p d ai as_ (by omega))
            have HQ := Lib.hid (krwrite q d ai as_ (by omega))
            have hw2 : (d.wr ai as_).waits.length ≤ k + 1 := by first | exact Dk.waits_wr hdw | exact Dk.waits_fl hdw | exact Dk.waits_cr hdw | exact Dk.waits_rs hdw | omega
            have hk2 : (d.wr ai as_).kept.length = n := by first | exact (Dk.len_wr _ _ _).trans hdk | exact (Dk.len_fl _).trans hdk | exact (Dk.len_cr _ _ _).trans hdk | exact hdk
            generalize d.wrE ai as_ = E at *
            generalize d.wr ai as_ = d2 at *
            clear hdw hdk bd2 bd3
            go_wp2_with (first
              | (go_at_call 12; (with_reducible refine (At.q1 HP.out hS).mono ?_); rintro e w1 ⟨rfl, hS1⟩; replace hS := hS1; clear hS1; obtain ⟨e1, g1, l1⟩ := hS.own)
              | (go_at_call 13; (with_reducible refine (At.q2 HQ.out hS).mono ?_); rintro e w1 ⟨rfl, hS1⟩; replace hS := hS1; clear hS1; obtain ⟨e1, g1, l1⟩ := hS.own)
              | (go_at_call 20; (with_reducible refine (At.q1 (kpwaits _ _) hS).mono ?_); rintro e w1 ⟨rfl, hS1⟩; replace hS := hS1; clear hS1; obtain ⟨e1, g1, l1⟩ := hS.own)
              | (go_at_call 21; (with_reducible refine (At.q2 (krwaits _ _) hS).mono ?_); rintro e w1 ⟨rfl, hS1⟩; replace hS := hS1; clear hS1; obtain ⟨e1, g1, l1⟩ := hS.own)
              | (go_at_call 9; (with_reducible refine (lnum _ _).mono ?_); rintro e w1 ⟨rfl, rfl⟩))
            go_loopw [18] (fun x wr2 => ∃ j : Nat, j ≤ 8 ∧ x = .int .i64 ((j : Int) - 1) ∧ At w (trio wr.heap.size #[.int .i64 ak, .int .i64 ai, .string as_, .bool false, .int .i64 am, .int .i64 at_] 33 p q d2) wr2) (fun x _ => (8 - intOf x).toNat)
            case atStart => exact ⟨0, by omega, rfl, hS⟩
            case round =>
              clear hS e1 g1 l1
              obtain ⟨j, hj, rfl, hS⟩ := hrel
              by_cases n6 : n ≤ 6
              · have n6' : (n : Int) ≤ 6 := by omega
                by_cases hle : (j : Int) - 1 ≤ n
                · go_wp2_with (first
                    | (go_at_call 22; (with_reducible refine (At.q1 (kpread _ _ _) hS).mono ?_); rintro e w1 ⟨rfl, hS1⟩; replace hS := hS1; clear hS1)
                    | (go_at_call 23; (with_reducible refine (At.q2 (krread _ _ _) hS).mono ?_); rintro e w1 ⟨rfl, hS1⟩; replace hS := hS1; clear hS1)
                    | (go_at_call 9; (with_reducible refine (lnum _ _).mono ?_); rintro e w1 ⟨rfl, rfl⟩))
                  go_round
                  case rel => exact ⟨j + 1, by omega, by go_num, hS⟩
                  case measure => simp [intOf]; omega
                · go_wp2
                  go_round
                  case rel => exact ⟨k + 1, d2, by omega, by go_num, hw2, hk2, hS.drop⟩
                  case measure => simp [intOf]; omega
              · have n6' : (6 : Int) < n := by omega
                by_cases hle : (j : Int) - 1 ≤ 6
                · go_wp2_with (first
                    | (go_at_call 22; (with_reducible refine (At.q1 (kpread _ _ _) hS).mono ?_); rintro e w1 ⟨rfl, hS1⟩; replace hS := hS1; clear hS1)
                    | (go_at_call 23; (with_reducible refine (At.q2 (krread _ _ _) hS).mono ?_); rintro e w1 ⟨rfl, hS1⟩; replace hS := hS1; clear hS1)
                    | (go_at_call 9; (with_reducible refine (lnum _ _).mono ?_); rintro e w1 ⟨rfl, rfl⟩))
                  go_round
                  case rel => exact ⟨j + 1, by omega, by go_num, hS⟩
                  case measure => simp [intOf]; omega
                · go_wp2
                  go_round
                  case rel => exact ⟨k + 1, d2, by omega, by go_num, hw2, hk2, hS.drop⟩
                  case measure => simp [intOf]; omega
          by_cases k5 : ak = 5
          · subst k5
            have HP := Lib.hid (kpflush p d)
            have HQ := Lib.hid (krflush q d)
            have hw2 : (d.fl).waits.length ≤ k + 1 := by first | exact Dk.waits_wr hdw | exact Dk.waits_fl hdw | exact Dk.waits_cr hdw | exact Dk.waits_rs hdw | omega
            have hk2 : (d.fl).kept.length = n := by first | exact (Dk.len_wr _ _ _).trans hdk | exact (Dk.len_fl _).trans hdk | exact (Dk.len_cr _ _ _).trans hdk | exact hdk
            generalize d.flE = E at *
            generalize d.fl = d2 at *
            clear hdw hdk bd2 bd3
            go_wp2_with (first
              | (go_at_call 14; (with_reducible refine (At.q1 HP.out hS).mono ?_); rintro e w1 ⟨rfl, hS1⟩; replace hS := hS1; clear hS1; obtain ⟨e1, g1, l1⟩ := hS.own)
              | (go_at_call 15; (with_reducible refine (At.q2 HQ.out hS).mono ?_); rintro e w1 ⟨rfl, hS1⟩; replace hS := hS1; clear hS1; obtain ⟨e1, g1, l1⟩ := hS.own)
              | (go_at_call 20; (with_reducible refine (At.q1 (kpwaits _ _) hS).mono ?_); rintro e w1 ⟨rfl, hS1⟩; replace hS := hS1; clear hS1; obtain ⟨e1, g1, l1⟩ := hS.own)
              | (go_at_call 21; (with_reducible refine (At.q2 (krwaits _ _) hS).mono ?_); rintro e w1 ⟨rfl, hS1⟩; replace hS := hS1; clear hS1; obtain ⟨e1, g1, l1⟩ := hS.own)
              | (go_at_call 9; (with_reducible refine (lnum _ _).mono ?_); rintro e w1 ⟨rfl, rfl⟩))
            go_loopw [18] (fun x wr2 => ∃ j : Nat, j ≤ 8 ∧ x = .int .i64 ((j : Int) - 1) ∧ At w (trio wr.heap.size #[.int .i64 5, .int .i64 ai, .string as_, .bool false, .int .i64 am, .int .i64 at_] 33 p q d2) wr2) (fun x _ => (8 - intOf x).toNat)
            case atStart => exact ⟨0, by omega, rfl, hS⟩
            case round =>
              clear hS e1 g1 l1
              obtain ⟨j, hj, rfl, hS⟩ := hrel
              by_cases n6 : n ≤ 6
              · have n6' : (n : Int) ≤ 6 := by omega
                by_cases hle : (j : Int) - 1 ≤ n
                · go_wp2_with (first
                    | (go_at_call 22; (with_reducible refine (At.q1 (kpread _ _ _) hS).mono ?_); rintro e w1 ⟨rfl, hS1⟩; replace hS := hS1; clear hS1)
                    | (go_at_call 23; (with_reducible refine (At.q2 (krread _ _ _) hS).mono ?_); rintro e w1 ⟨rfl, hS1⟩; replace hS := hS1; clear hS1)
                    | (go_at_call 9; (with_reducible refine (lnum _ _).mono ?_); rintro e w1 ⟨rfl, rfl⟩))
                  go_round
                  case rel => exact ⟨j + 1, by omega, by go_num, hS⟩
                  case measure => simp [intOf]; omega
                · go_wp2
                  go_round
                  case rel => exact ⟨k + 1, d2, by omega, by go_num, hw2, hk2, hS.drop⟩
                  case measure => simp [intOf]; omega
              · have n6' : (6 : Int) < n := by omega
                by_cases hle : (j : Int) - 1 ≤ 6
                · go_wp2_with (first
                    | (go_at_call 22; (with_reducible refine (At.q1 (kpread _ _ _) hS).mono ?_); rintro e w1 ⟨rfl, hS1⟩; replace hS := hS1; clear hS1)
                    | (go_at_call 23; (with_reducible refine (At.q2 (krread _ _ _) hS).mono ?_); rintro e w1 ⟨rfl, hS1⟩; replace hS := hS1; clear hS1)
                    | (go_at_call 9; (with_reducible refine (lnum _ _).mono ?_); rintro e w1 ⟨rfl, rfl⟩))
                  go_round
                  case rel => exact ⟨j + 1, by omega, by go_num, hS⟩
                  case measure => simp [intOf]; omega
                · go_wp2
                  go_round
                  case rel => exact ⟨k + 1, d2, by omega, by go_num, hw2, hk2, hS.drop⟩
                  case measure => simp [intOf]; omega
          by_cases k8 : ak = 8
          · subst k8
            have HP := Lib.hid (kpcrash p d am at_ bd2 bd3)
            have HQ := Lib.hid (krcrash q d am at_ bd2 bd3)
            have hw2 : (d.cr am at_).waits.length ≤ k + 1 := by first | exact Dk.waits_wr hdw | exact Dk.waits_fl hdw | exact Dk.waits_cr hdw | exact Dk.waits_rs hdw | omega
            have hk2 : (d.cr am at_).kept.length = n := by first | exact (Dk.len_wr _ _ _).trans hdk | exact (Dk.len_fl _).trans hdk | exact (Dk.len_cr _ _ _).trans hdk | exact hdk
            generalize d.crE am at_ = E at *
            generalize d.cr am at_ = d2 at *
            clear hdw hdk bd2 bd3
            go_wp2_with (first
              | (go_at_call 16; (with_reducible refine (At.q1 HP.out hS).mono ?_); rintro e w1 ⟨rfl, hS1⟩; replace hS := hS1; clear hS1; obtain ⟨e1, g1, l1⟩ := hS.own)
              | (go_at_call 17; (with_reducible refine (At.q2 HQ.out hS).mono ?_); rintro e w1 ⟨rfl, hS1⟩; replace hS := hS1; clear hS1; obtain ⟨e1, g1, l1⟩ := hS.own)
              | (go_at_call 20; (with_reducible refine (At.q1 (kpwaits _ _) hS).mono ?_); rintro e w1 ⟨rfl, hS1⟩; replace hS := hS1; clear hS1; obtain ⟨e1, g1, l1⟩ := hS.own)
              | (go_at_call 21; (with_reducible refine (At.q2 (krwaits _ _) hS).mono ?_); rintro e w1 ⟨rfl, hS1⟩; replace hS := hS1; clear hS1; obtain ⟨e1, g1, l1⟩ := hS.own)
              | (go_at_call 9; (with_reducible refine (lnum _ _).mono ?_); rintro e w1 ⟨rfl, rfl⟩))
            go_loopw [18] (fun x wr2 => ∃ j : Nat, j ≤ 8 ∧ x = .int .i64 ((j : Int) - 1) ∧ At w (trio wr.heap.size #[.int .i64 8, .int .i64 ai, .string as_, .bool false, .int .i64 am, .int .i64 at_] 33 p q d2) wr2) (fun x _ => (8 - intOf x).toNat)
            case atStart => exact ⟨0, by omega, rfl, hS⟩
            case round =>
              clear hS e1 g1 l1
              obtain ⟨j, hj, rfl, hS⟩ := hrel
              by_cases n6 : n ≤ 6
              · have n6' : (n : Int) ≤ 6 := by omega
                by_cases hle : (j : Int) - 1 ≤ n
                · go_wp2_with (first
                    | (go_at_call 22; (with_reducible refine (At.q1 (kpread _ _ _) hS).mono ?_); rintro e w1 ⟨rfl, hS1⟩; replace hS := hS1; clear hS1)
                    | (go_at_call 23; (with_reducible refine (At.q2 (krread _ _ _) hS).mono ?_); rintro e w1 ⟨rfl, hS1⟩; replace hS := hS1; clear hS1)
                    | (go_at_call 9; (with_reducible refine (lnum _ _).mono ?_); rintro e w1 ⟨rfl, rfl⟩))
                  go_round
                  case rel => exact ⟨j + 1, by omega, by go_num, hS⟩
                  case measure => simp [intOf]; omega
                · go_wp2
                  go_round
                  case rel => exact ⟨k + 1, d2, by omega, by go_num, hw2, hk2, hS.drop⟩
                  case measure => simp [intOf]; omega
              · have n6' : (6 : Int) < n := by omega
                by_cases hle : (j : Int) - 1 ≤ 6
                · go_wp2_with (first
                    | (go_at_call 22; (with_reducible refine (At.q1 (kpread _ _ _) hS).mono ?_); rintro e w1 ⟨rfl, hS1⟩; replace hS := hS1; clear hS1)
                    | (go_at_call 23; (with_reducible refine (At.q2 (krread _ _ _) hS).mono ?_); rintro e w1 ⟨rfl, hS1⟩; replace hS := hS1; clear hS1)
                    | (go_at_call 9; (with_reducible refine (lnum _ _).mono ?_); rintro e w1 ⟨rfl, rfl⟩))
                  go_round
                  case rel => exact ⟨j + 1, by omega, by go_num, hS⟩
                  case measure => simp [intOf]; omega
                · go_wp2
                  go_round
                  case rel => exact ⟨k + 1, d2, by omega, by go_num, hw2, hk2, hS.drop⟩
                  case measure => simp [intOf]; omega
          by_cases k9 : ak = 9
          · subst k9
            have HP := Lib.hid (kprestart p d)
            have HQ := Lib.hid (krrestart q d)
            have hw2 : (d.rs).waits.length ≤ k + 1 := by first | exact Dk.waits_wr hdw | exact Dk.waits_fl hdw | exact Dk.waits_cr hdw | exact Dk.waits_rs hdw | omega
            have hk2 : (d.rs).kept.length = n := by first | exact (Dk.len_wr _ _ _).trans hdk | exact (Dk.len_fl _).trans hdk | exact (Dk.len_cr _ _ _).trans hdk | exact hdk
            generalize d.rsE = E at *
            generalize d.rs = d2 at *
            clear hdw hdk bd2 bd3
            go_wp2_with (first
              | (go_at_call 18; (with_reducible refine (At.q1 HP.out hS).mono ?_); rintro e w1 ⟨rfl, hS1⟩; replace hS := hS1; clear hS1; obtain ⟨e1, g1, l1⟩ := hS.own)
              | (go_at_call 19; (with_reducible refine (At.q2 HQ.out hS).mono ?_); rintro e w1 ⟨rfl, hS1⟩; replace hS := hS1; clear hS1; obtain ⟨e1, g1, l1⟩ := hS.own)
              | (go_at_call 20; (with_reducible refine (At.q1 (kpwaits _ _) hS).mono ?_); rintro e w1 ⟨rfl, hS1⟩; replace hS := hS1; clear hS1; obtain ⟨e1, g1, l1⟩ := hS.own)
              | (go_at_call 21; (with_reducible refine (At.q2 (krwaits _ _) hS).mono ?_); rintro e w1 ⟨rfl, hS1⟩; replace hS := hS1; clear hS1; obtain ⟨e1, g1, l1⟩ := hS.own)
              | (go_at_call 9; (with_reducible refine (lnum _ _).mono ?_); rintro e w1 ⟨rfl, rfl⟩))
            go_loopw [18] (fun x wr2 => ∃ j : Nat, j ≤ 8 ∧ x = .int .i64 ((j : Int) - 1) ∧ At w (trio wr.heap.size #[.int .i64 9, .int .i64 ai, .string as_, .bool false, .int .i64 am, .int .i64 at_] 33 p q d2) wr2) (fun x _ => (8 - intOf x).toNat)
            case atStart => exact ⟨0, by omega, rfl, hS⟩
            case round =>
              clear hS e1 g1 l1
              obtain ⟨j, hj, rfl, hS⟩ := hrel
              by_cases n6 : n ≤ 6
              · have n6' : (n : Int) ≤ 6 := by omega
                by_cases hle : (j : Int) - 1 ≤ n
                · go_wp2_with (first
                    | (go_at_call 22; (with_reducible refine (At.q1 (kpread _ _ _) hS).mono ?_); rintro e w1 ⟨rfl, hS1⟩; replace hS := hS1; clear hS1)
                    | (go_at_call 23; (with_reducible refine (At.q2 (krread _ _ _) hS).mono ?_); rintro e w1 ⟨rfl, hS1⟩; replace hS := hS1; clear hS1)
                    | (go_at_call 9; (with_reducible refine (lnum _ _).mono ?_); rintro e w1 ⟨rfl, rfl⟩))
                  go_round
                  case rel => exact ⟨j + 1, by omega, by go_num, hS⟩
                  case measure => simp [intOf]; omega
                · go_wp2
                  go_round
                  case rel => exact ⟨k + 1, d2, by omega, by go_num, hw2, hk2, hS.drop⟩
                  case measure => simp [intOf]; omega
              · have n6' : (6 : Int) < n := by omega
                by_cases hle : (j : Int) - 1 ≤ 6
                · go_wp2_with (first
                    | (go_at_call 22; (with_reducible refine (At.q1 (kpread _ _ _) hS).mono ?_); rintro e w1 ⟨rfl, hS1⟩; replace hS := hS1; clear hS1)
                    | (go_at_call 23; (with_reducible refine (At.q2 (krread _ _ _) hS).mono ?_); rintro e w1 ⟨rfl, hS1⟩; replace hS := hS1; clear hS1)
                    | (go_at_call 9; (with_reducible refine (lnum _ _).mono ?_); rintro e w1 ⟨rfl, rfl⟩))
                  go_round
                  case rel => exact ⟨j + 1, by omega, by go_num, hS⟩
                  case measure => simp [intOf]; omega
                · go_wp2
                  go_round
                  case rel => exact ⟨k + 1, d2, by omega, by go_num, hw2, hk2, hS.drop⟩
                  case measure => simp [intOf]; omega
          have j5 : (ak == 5) = false := by simpa using k5
          have j8 : (ak == 8) = false := by simpa using k8
          have j9 : (ak == 9) = false := by simpa using k9
          clear k5 k8 k9
          have hw2 : (d).waits.length ≤ k + 1 := by first | exact Dk.waits_wr hdw | exact Dk.waits_fl hdw | exact Dk.waits_cr hdw | exact Dk.waits_rs hdw | omega
          have hk2 : (d).kept.length = n := by first | exact (Dk.len_wr _ _ _).trans hdk | exact (Dk.len_fl _).trans hdk | exact (Dk.len_cr _ _ _).trans hdk | exact hdk
          obtain ⟨d2, rfl⟩ : ∃ x, x = d := ⟨_, rfl⟩
          clear hdw hdk bd2 bd3
          go_wp2_with (first
            | (go_at_call 20; (with_reducible refine (At.q1 (kpwaits _ _) hS).mono ?_); rintro e w1 ⟨rfl, hS1⟩; replace hS := hS1; clear hS1; obtain ⟨e1, g1, l1⟩ := hS.own)
            | (go_at_call 21; (with_reducible refine (At.q2 (krwaits _ _) hS).mono ?_); rintro e w1 ⟨rfl, hS1⟩; replace hS := hS1; clear hS1; obtain ⟨e1, g1, l1⟩ := hS.own)
            | (go_at_call 9; (with_reducible refine (lnum _ _).mono ?_); rintro e w1 ⟨rfl, rfl⟩))
          go_loopw [18] (fun x wr2 => ∃ j : Nat, j ≤ 8 ∧ x = .int .i64 ((j : Int) - 1) ∧ At w (trio wr.heap.size #[.int .i64 ak, .int .i64 ai, .string as_, .bool false, .int .i64 am, .int .i64 at_] 33 p q d2) wr2) (fun x _ => (8 - intOf x).toNat)
          case atStart => exact ⟨0, by omega, rfl, hS⟩
          case round =>
            clear hS e1 g1 l1
            obtain ⟨j, hj, rfl, hS⟩ := hrel
            by_cases n6 : n ≤ 6
            · have n6' : (n : Int) ≤ 6 := by omega
              by_cases hle : (j : Int) - 1 ≤ n
              · go_wp2_with (first
                  | (go_at_call 22; (with_reducible refine (At.q1 (kpread _ _ _) hS).mono ?_); rintro e w1 ⟨rfl, hS1⟩; replace hS := hS1; clear hS1)
                  | (go_at_call 23; (with_reducible refine (At.q2 (krread _ _ _) hS).mono ?_); rintro e w1 ⟨rfl, hS1⟩; replace hS := hS1; clear hS1)
                  | (go_at_call 9; (with_reducible refine (lnum _ _).mono ?_); rintro e w1 ⟨rfl, rfl⟩))
                go_round
                case rel => exact ⟨j + 1, by omega, by go_num, hS⟩
                case measure => simp [intOf]; omega
              · go_wp2
                go_round
                case rel => exact ⟨k + 1, d2, by omega, by go_num, hw2, hk2, hS.drop⟩
                case measure => simp [intOf]; omega
            · have n6' : (6 : Int) < n := by omega
              by_cases hle : (j : Int) - 1 ≤ 6
              · go_wp2_with (first
                  | (go_at_call 22; (with_reducible refine (At.q1 (kpread _ _ _) hS).mono ?_); rintro e w1 ⟨rfl, hS1⟩; replace hS := hS1; clear hS1)
                  | (go_at_call 23; (with_reducible refine (At.q2 (krread _ _ _) hS).mono ?_); rintro e w1 ⟨rfl, hS1⟩; replace hS := hS1; clear hS1)
                  | (go_at_call 9; (with_reducible refine (lnum _ _).mono ?_); rintro e w1 ⟨rfl, rfl⟩))
                go_round
                case rel => exact ⟨j + 1, by omega, by go_num, hS⟩
                case measure => simp [intOf]; omega
              · go_wp2
                go_round
                case rel => exact ⟨k + 1, d2, by omega, by go_num, hw2, hk2, hS.drop⟩
                case measure => simp [intOf]; omega
        · by_cases k1 : ak < 5
          · clear e1 g1
            obtain ⟨e1, g1, l1⟩ := hS.own
            have HP := Lib.hid (kpwrite p d ai (secOf as_) (by omega))
            have HQ := Lib.hid (krwrite q d ai (secOf as_) (by omega))
            have hw2 : (d.wr ai (secOf as_)).waits.length ≤ k + 1 := by first | exact Dk.waits_wr hdw | exact Dk.waits_fl hdw | exact Dk.waits_cr hdw | exact Dk.waits_rs hdw | omega
            have hk2 : (d.wr ai (secOf as_)).kept.length = n := by first | exact (Dk.len_wr _ _ _).trans hdk | exact (Dk.len_fl _).trans hdk | exact (Dk.len_cr _ _ _).trans hdk | exact hdk
            generalize d.wrE ai (secOf as_) = E at *
            generalize d.wr ai (secOf as_) = d2 at *
            clear hdw hdk bd2 bd3
            go_wp2_with (first
              | (go_at_call 11; (with_reducible refine (lsector _ _ bd1).mono ?_); rintro e w1 ⟨rfl, hb⟩; replace hS := hS.lay (trio_good _ _ _ _ _ _) hb; clear hb; obtain ⟨e1, g1, l1⟩ := hS.own)
              | (go_at_call 12; (with_reducible refine (At.q1 HP.out hS).mono ?_); rintro e w1 ⟨rfl, hS1⟩; replace hS := hS1; clear hS1; obtain ⟨e1, g1, l1⟩ := hS.own)
              | (go_at_call 13; (with_reducible refine (At.q2 HQ.out hS).mono ?_); rintro e w1 ⟨rfl, hS1⟩; replace hS := hS1; clear hS1; obtain ⟨e1, g1, l1⟩ := hS.own)
              | (go_at_call 20; (with_reducible refine (At.q1 (kpwaits _ _) hS).mono ?_); rintro e w1 ⟨rfl, hS1⟩; replace hS := hS1; clear hS1; obtain ⟨e1, g1, l1⟩ := hS.own)
              | (go_at_call 21; (with_reducible refine (At.q2 (krwaits _ _) hS).mono ?_); rintro e w1 ⟨rfl, hS1⟩; replace hS := hS1; clear hS1; obtain ⟨e1, g1, l1⟩ := hS.own)
              | (go_at_call 9; (with_reducible refine (lnum _ _).mono ?_); rintro e w1 ⟨rfl, rfl⟩))
            go_loopw [18] (fun x wr2 => ∃ j : Nat, j ≤ 8 ∧ x = .int .i64 ((j : Int) - 1) ∧ At w (trio wr.heap.size #[.int .i64 ak, .int .i64 ai, .string as_, .bool true, .int .i64 am, .int .i64 at_] 33 p q d2) wr2) (fun x _ => (8 - intOf x).toNat)
            case atStart => exact ⟨0, by omega, rfl, hS⟩
            case round =>
              clear hS e1 g1 l1
              obtain ⟨j, hj, rfl, hS⟩ := hrel
              by_cases n6 : n ≤ 6
              · have n6' : (n : Int) ≤ 6 := by omega
                by_cases hle : (j : Int) - 1 ≤ n
                · go_wp2_with (first
                    | (go_at_call 22; (with_reducible refine (At.q1 (kpread _ _ _) hS).mono ?_); rintro e w1 ⟨rfl, hS1⟩; replace hS := hS1; clear hS1)
                    | (go_at_call 23; (with_reducible refine (At.q2 (krread _ _ _) hS).mono ?_); rintro e w1 ⟨rfl, hS1⟩; replace hS := hS1; clear hS1)
                    | (go_at_call 9; (with_reducible refine (lnum _ _).mono ?_); rintro e w1 ⟨rfl, rfl⟩))
                  go_round
                  case rel => exact ⟨j + 1, by omega, by go_num, hS⟩
                  case measure => simp [intOf]; omega
                · go_wp2
                  go_round
                  case rel => exact ⟨k + 1, d2, by omega, by go_num, hw2, hk2, hS.drop⟩
                  case measure => simp [intOf]; omega
              · have n6' : (6 : Int) < n := by omega
                by_cases hle : (j : Int) - 1 ≤ 6
                · go_wp2_with (first
                    | (go_at_call 22; (with_reducible refine (At.q1 (kpread _ _ _) hS).mono ?_); rintro e w1 ⟨rfl, hS1⟩; replace hS := hS1; clear hS1)
                    | (go_at_call 23; (with_reducible refine (At.q2 (krread _ _ _) hS).mono ?_); rintro e w1 ⟨rfl, hS1⟩; replace hS := hS1; clear hS1)
                    | (go_at_call 9; (with_reducible refine (lnum _ _).mono ?_); rintro e w1 ⟨rfl, rfl⟩))
                  go_round
                  case rel => exact ⟨j + 1, by omega, by go_num, hS⟩
                  case measure => simp [intOf]; omega
                · go_wp2
                  go_round
                  case rel => exact ⟨k + 1, d2, by omega, by go_num, hw2, hk2, hS.drop⟩
                  case measure => simp [intOf]; omega
          by_cases k5 : ak = 5
          · subst k5
            have HP := Lib.hid (kpflush p d)
            have HQ := Lib.hid (krflush q d)
            have hw2 : (d.fl).waits.length ≤ k + 1 := by first | exact Dk.waits_wr hdw | exact Dk.waits_fl hdw | exact Dk.waits_cr hdw | exact Dk.waits_rs hdw | omega
            have hk2 : (d.fl).kept.length = n := by first | exact (Dk.len_wr _ _ _).trans hdk | exact (Dk.len_fl _).trans hdk | exact (Dk.len_cr _ _ _).trans hdk | exact hdk
            generalize d.flE = E at *
            generalize d.fl = d2 at *
            clear hdw hdk bd2 bd3
            go_wp2_with (first
              | (go_at_call 11; (with_reducible refine (lsector _ _ bd1).mono ?_); rintro e w1 ⟨rfl, hb⟩; replace hS := hS.lay (trio_good _ _ _ _ _ _) hb; clear hb; obtain ⟨e1, g1, l1⟩ := hS.own)
              | (go_at_call 14; (with_reducible refine (At.q1 HP.out hS).mono ?_); rintro e w1 ⟨rfl, hS1⟩; replace hS := hS1; clear hS1; obtain ⟨e1, g1, l1⟩ := hS.own)
              | (go_at_call 15; (with_reducible refine (At.q2 HQ.out hS).mono ?_); rintro e w1 ⟨rfl, hS1⟩; replace hS := hS1; clear hS1; obtain ⟨e1, g1, l1⟩ := hS.own)
              | (go_at_call 20; (with_reducible refine (At.q1 (kpwaits _ _) hS).mono ?_); rintro e w1 ⟨rfl, hS1⟩; replace hS := hS1; clear hS1; obtain ⟨e1, g1, l1⟩ := hS.own)
              | (go_at_call 21; (with_reducible refine (At.q2 (krwaits _ _) hS).mono ?_); rintro e w1 ⟨rfl, hS1⟩; replace hS := hS1; clear hS1; obtain ⟨e1, g1, l1⟩ := hS.own)
              | (go_at_call 9; (with_reducible refine (lnum _ _).mono ?_); rintro e w1 ⟨rfl, rfl⟩))
            go_loopw [18] (fun x wr2 => ∃ j : Nat, j ≤ 8 ∧ x = .int .i64 ((j : Int) - 1) ∧ At w (trio wr.heap.size #[.int .i64 5, .int .i64 ai, .string as_, .bool true, .int .i64 am, .int .i64 at_] 33 p q d2) wr2) (fun x _ => (8 - intOf x).toNat)
            case atStart => exact ⟨0, by omega, rfl, hS⟩
            case round =>
              clear hS e1 g1 l1
              obtain ⟨j, hj, rfl, hS⟩ := hrel
              by_cases n6 : n ≤ 6
              · have n6' : (n : Int) ≤ 6 := by omega
                by_cases hle : (j : Int) - 1 ≤ n
                · go_wp2_with (first
                    | (go_at_call 22; (with_reducible refine (At.q1 (kpread _ _ _) hS).mono ?_); rintro e w1 ⟨rfl, hS1⟩; replace hS := hS1; clear hS1)
                    | (go_at_call 23; (with_reducible refine (At.q2 (krread _ _ _) hS).mono ?_); rintro e w1 ⟨rfl, hS1⟩; replace hS := hS1; clear hS1)
                    | (go_at_call 9; (with_reducible refine (lnum _ _).mono ?_); rintro e w1 ⟨rfl, rfl⟩))
                  go_round
                  case rel => exact ⟨j + 1, by omega, by go_num, hS⟩
                  case measure => simp [intOf]; omega
                · go_wp2
                  go_round
                  case rel => exact ⟨k + 1, d2, by omega, by go_num, hw2, hk2, hS.drop⟩
                  case measure => simp [intOf]; omega
              · have n6' : (6 : Int) < n := by omega
                by_cases hle : (j : Int) - 1 ≤ 6
                · go_wp2_with (first
                    | (go_at_call 22; (with_reducible refine (At.q1 (kpread _ _ _) hS).mono ?_); rintro e w1 ⟨rfl, hS1⟩; replace hS := hS1; clear hS1)
                    | (go_at_call 23; (with_reducible refine (At.q2 (krread _ _ _) hS).mono ?_); rintro e w1 ⟨rfl, hS1⟩; replace hS := hS1; clear hS1)
                    | (go_at_call 9; (with_reducible refine (lnum _ _).mono ?_); rintro e w1 ⟨rfl, rfl⟩))
                  go_round
                  case rel => exact ⟨j + 1, by omega, by go_num, hS⟩
                  case measure => simp [intOf]; omega
                · go_wp2
                  go_round
                  case rel => exact ⟨k + 1, d2, by omega, by go_num, hw2, hk2, hS.drop⟩
                  case measure => simp [intOf]; omega
          by_cases k8 : ak = 8
          · subst k8
            have HP := Lib.hid (kpcrash p d am at_ bd2 bd3)
            have HQ := Lib.hid (krcrash q d am at_ bd2 bd3)
            have hw2 : (d.cr am at_).waits.length ≤ k + 1 := by first | exact Dk.waits_wr hdw | exact Dk.waits_fl hdw | exact Dk.waits_cr hdw | exact Dk.waits_rs hdw | omega
            have hk2 : (d.cr am at_).kept.length = n := by first | exact (Dk.len_wr _ _ _).trans hdk | exact (Dk.len_fl _).trans hdk | exact (Dk.len_cr _ _ _).trans hdk | exact hdk
            generalize d.crE am at_ = E at *
            generalize d.cr am at_ = d2 at *
            clear hdw hdk bd2 bd3
            go_wp2_with (first
              | (go_at_call 11; (with_reducible refine (lsector _ _ bd1).mono ?_); rintro e w1 ⟨rfl, hb⟩; replace hS := hS.lay (trio_good _ _ _ _ _ _) hb; clear hb; obtain ⟨e1, g1, l1⟩ := hS.own)
              | (go_at_call 16; (with_reducible refine (At.q1 HP.out hS).mono ?_); rintro e w1 ⟨rfl, hS1⟩; replace hS := hS1; clear hS1; obtain ⟨e1, g1, l1⟩ := hS.own)
              | (go_at_call 17; (with_reducible refine (At.q2 HQ.out hS).mono ?_); rintro e w1 ⟨rfl, hS1⟩; replace hS := hS1; clear hS1; obtain ⟨e1, g1, l1⟩ := hS.own)
              | (go_at_call 20; (with_reducible refine (At.q1 (kpwaits _ _) hS).mono ?_); rintro e w1 ⟨rfl, hS1⟩; replace hS := hS1; clear hS1; obtain ⟨e1, g1, l1⟩ := hS.own)
              | (go_at_call 21; (with_reducible refine (At.q2 (krwaits _ _) hS).mono ?_); rintro e w1 ⟨rfl, hS1⟩; replace hS := hS1; clear hS1; obtain ⟨e1, g1, l1⟩ := hS.own)
              | (go_at_call 9; (with_reducible refine (lnum _ _).mono ?_); rintro e w1 ⟨rfl, rfl⟩))
            go_loopw [18] (fun x wr2 => ∃ j : Nat, j ≤ 8 ∧ x = .int .i64 ((j : Int) - 1) ∧ At w (trio wr.heap.size #[.int .i64 8, .int .i64 ai, .string as_, .bool true, .int .i64 am, .int .i64 at_] 33 p q d2) wr2) (fun x _ => (8 - intOf x).toNat)
            case atStart => exact ⟨0, by omega, rfl, hS⟩
            case round =>
              clear hS e1 g1 l1
              obtain ⟨j, hj, rfl, hS⟩ := hrel
              by_cases n6 : n ≤ 6
              · have n6' : (n : Int) ≤ 6 := by omega
                by_cases hle : (j : Int) - 1 ≤ n
                · go_wp2_with (first
                    | (go_at_call 22; (with_reducible refine (At.q1 (kpread _ _ _) hS).mono ?_); rintro e w1 ⟨rfl, hS1⟩; replace hS := hS1; clear hS1)
                    | (go_at_call 23; (with_reducible refine (At.q2 (krread _ _ _) hS).mono ?_); rintro e w1 ⟨rfl, hS1⟩; replace hS := hS1; clear hS1)
                    | (go_at_call 9; (with_reducible refine (lnum _ _).mono ?_); rintro e w1 ⟨rfl, rfl⟩))
                  go_round
                  case rel => exact ⟨j + 1, by omega, by go_num, hS⟩
                  case measure => simp [intOf]; omega
                · go_wp2
                  go_round
                  case rel => exact ⟨k + 1, d2, by omega, by go_num, hw2, hk2, hS.drop⟩
                  case measure => simp [intOf]; omega
              · have n6' : (6 : Int) < n := by omega
                by_cases hle : (j : Int) - 1 ≤ 6
                · go_wp2_with (first
                    | (go_at_call 22; (with_reducible refine (At.q1 (kpread _ _ _) hS).mono ?_); rintro e w1 ⟨rfl, hS1⟩; replace hS := hS1; clear hS1)
                    | (go_at_call 23; (with_reducible refine (At.q2 (krread _ _ _) hS).mono ?_); rintro e w1 ⟨rfl, hS1⟩; replace hS := hS1; clear hS1)
                    | (go_at_call 9; (with_reducible refine (lnum _ _).mono ?_); rintro e w1 ⟨rfl, rfl⟩))
                  go_round
                  case rel => exact ⟨j + 1, by omega, by go_num, hS⟩
                  case measure => simp [intOf]; omega
                · go_wp2
                  go_round
                  case rel => exact ⟨k + 1, d2, by omega, by go_num, hw2, hk2, hS.drop⟩
                  case measure => simp [intOf]; omega
          by_cases k9 : ak = 9
          · subst k9
            have HP := Lib.hid (kprestart p d)
            have HQ := Lib.hid (krrestart q d)
            have hw2 : (d.rs).waits.length ≤ k + 1 := by first | exact Dk.waits_wr hdw | exact Dk.waits_fl hdw | exact Dk.waits_cr hdw | exact Dk.waits_rs hdw | omega
            have hk2 : (d.rs).kept.length = n := by first | exact (Dk.len_wr _ _ _).trans hdk | exact (Dk.len_fl _).trans hdk | exact (Dk.len_cr _ _ _).trans hdk | exact hdk
            generalize d.rsE = E at *
            generalize d.rs = d2 at *
            clear hdw hdk bd2 bd3
            go_wp2_with (first
              | (go_at_call 11; (with_reducible refine (lsector _ _ bd1).mono ?_); rintro e w1 ⟨rfl, hb⟩; replace hS := hS.lay (trio_good _ _ _ _ _ _) hb; clear hb; obtain ⟨e1, g1, l1⟩ := hS.own)
              | (go_at_call 18; (with_reducible refine (At.q1 HP.out hS).mono ?_); rintro e w1 ⟨rfl, hS1⟩; replace hS := hS1; clear hS1; obtain ⟨e1, g1, l1⟩ := hS.own)
              | (go_at_call 19; (with_reducible refine (At.q2 HQ.out hS).mono ?_); rintro e w1 ⟨rfl, hS1⟩; replace hS := hS1; clear hS1; obtain ⟨e1, g1, l1⟩ := hS.own)
              | (go_at_call 20; (with_reducible refine (At.q1 (kpwaits _ _) hS).mono ?_); rintro e w1 ⟨rfl, hS1⟩; replace hS := hS1; clear hS1; obtain ⟨e1, g1, l1⟩ := hS.own)
              | (go_at_call 21; (with_reducible refine (At.q2 (krwaits _ _) hS).mono ?_); rintro e w1 ⟨rfl, hS1⟩; replace hS := hS1; clear hS1; obtain ⟨e1, g1, l1⟩ := hS.own)
              | (go_at_call 9; (with_reducible refine (lnum _ _).mono ?_); rintro e w1 ⟨rfl, rfl⟩))
            go_loopw [18] (fun x wr2 => ∃ j : Nat, j ≤ 8 ∧ x = .int .i64 ((j : Int) - 1) ∧ At w (trio wr.heap.size #[.int .i64 9, .int .i64 ai, .string as_, .bool true, .int .i64 am, .int .i64 at_] 33 p q d2) wr2) (fun x _ => (8 - intOf x).toNat)
            case atStart => exact ⟨0, by omega, rfl, hS⟩
            case round =>
              clear hS e1 g1 l1
              obtain ⟨j, hj, rfl, hS⟩ := hrel
              by_cases n6 : n ≤ 6
              · have n6' : (n : Int) ≤ 6 := by omega
                by_cases hle : (j : Int) - 1 ≤ n
                · go_wp2_with (first
                    | (go_at_call 22; (with_reducible refine (At.q1 (kpread _ _ _) hS).mono ?_); rintro e w1 ⟨rfl, hS1⟩; replace hS := hS1; clear hS1)
                    | (go_at_call 23; (with_reducible refine (At.q2 (krread _ _ _) hS).mono ?_); rintro e w1 ⟨rfl, hS1⟩; replace hS := hS1; clear hS1)
                    | (go_at_call 9; (with_reducible refine (lnum _ _).mono ?_); rintro e w1 ⟨rfl, rfl⟩))
                  go_round
                  case rel => exact ⟨j + 1, by omega, by go_num, hS⟩
                  case measure => simp [intOf]; omega
                · go_wp2
                  go_round
                  case rel => exact ⟨k + 1, d2, by omega, by go_num, hw2, hk2, hS.drop⟩
                  case measure => simp [intOf]; omega
              · have n6' : (6 : Int) < n := by omega
                by_cases hle : (j : Int) - 1 ≤ 6
                · go_wp2_with (first
                    | (go_at_call 22; (with_reducible refine (At.q1 (kpread _ _ _) hS).mono ?_); rintro e w1 ⟨rfl, hS1⟩; replace hS := hS1; clear hS1)
                    | (go_at_call 23; (with_reducible refine (At.q2 (krread _ _ _) hS).mono ?_); rintro e w1 ⟨rfl, hS1⟩; replace hS := hS1; clear hS1)
                    | (go_at_call 9; (with_reducible refine (lnum _ _).mono ?_); rintro e w1 ⟨rfl, rfl⟩))
                  go_round
                  case rel => exact ⟨j + 1, by omega, by go_num, hS⟩
                  case measure => simp [intOf]; omega
                · go_wp2
                  go_round
                  case rel => exact ⟨k + 1, d2, by omega, by go_num, hw2, hk2, hS.drop⟩
                  case measure => simp [intOf]; omega
          have j5 : (ak == 5) = false := by simpa using k5
          have j8 : (ak == 8) = false := by simpa using k8
          have j9 : (ak == 9) = false := by simpa using k9
          clear k5 k8 k9
          have hw2 : (d).waits.length ≤ k + 1 := by first | exact Dk.waits_wr hdw | exact Dk.waits_fl hdw | exact Dk.waits_cr hdw | exact Dk.waits_rs hdw | omega
          have hk2 : (d).kept.length = n := by first | exact (Dk.len_wr _ _ _).trans hdk | exact (Dk.len_fl _).trans hdk | exact (Dk.len_cr _ _ _).trans hdk | exact hdk
          obtain ⟨d2, rfl⟩ : ∃ x, x = d := ⟨_, rfl⟩
          clear hdw hdk bd2 bd3
          go_wp2_with (first
            | (go_at_call 11; (with_reducible refine (lsector _ _ bd1).mono ?_); rintro e w1 ⟨rfl, hb⟩; replace hS := hS.lay (trio_good _ _ _ _ _ _) hb; clear hb; obtain ⟨e1, g1, l1⟩ := hS.own)
            | (go_at_call 20; (with_reducible refine (At.q1 (kpwaits _ _) hS).mono ?_); rintro e w1 ⟨rfl, hS1⟩; replace hS := hS1; clear hS1; obtain ⟨e1, g1, l1⟩ := hS.own)
            | (go_at_call 21; (with_reducible refine (At.q2 (krwaits _ _) hS).mono ?_); rintro e w1 ⟨rfl, hS1⟩; replace hS := hS1; clear hS1; obtain ⟨e1, g1, l1⟩ := hS.own)
            | (go_at_call 9; (with_reducible refine (lnum _ _).mono ?_); rintro e w1 ⟨rfl, rfl⟩))
          go_loopw [18] (fun x wr2 => ∃ j : Nat, j ≤ 8 ∧ x = .int .i64 ((j : Int) - 1) ∧ At w (trio wr.heap.size #[.int .i64 ak, .int .i64 ai, .string as_, .bool true, .int .i64 am, .int .i64 at_] 33 p q d2) wr2) (fun x _ => (8 - intOf x).toNat)
          case atStart => exact ⟨0, by omega, rfl, hS⟩
          case round =>
            clear hS e1 g1 l1
            obtain ⟨j, hj, rfl, hS⟩ := hrel
            by_cases n6 : n ≤ 6
            · have n6' : (n : Int) ≤ 6 := by omega
              by_cases hle : (j : Int) - 1 ≤ n
              · go_wp2_with (first
                  | (go_at_call 22; (with_reducible refine (At.q1 (kpread _ _ _) hS).mono ?_); rintro e w1 ⟨rfl, hS1⟩; replace hS := hS1; clear hS1)
                  | (go_at_call 23; (with_reducible refine (At.q2 (krread _ _ _) hS).mono ?_); rintro e w1 ⟨rfl, hS1⟩; replace hS := hS1; clear hS1)
                  | (go_at_call 9; (with_reducible refine (lnum _ _).mono ?_); rintro e w1 ⟨rfl, rfl⟩))
                go_round
                case rel => exact ⟨j + 1, by omega, by go_num, hS⟩
                case measure => simp [intOf]; omega
              · go_wp2
                go_round
                case rel => exact ⟨k + 1, d2, by omega, by go_num, hw2, hk2, hS.drop⟩
                case measure => simp [intOf]; omega
            · have n6' : (6 : Int) < n := by omega
              by_cases hle : (j : Int) - 1 ≤ 6
              · go_wp2_with (first
                  | (go_at_call 22; (with_reducible refine (At.q1 (kpread _ _ _) hS).mono ?_); rintro e w1 ⟨rfl, hS1⟩; replace hS := hS1; clear hS1)
                  | (go_at_call 23; (with_reducible refine (At.q2 (krread _ _ _) hS).mono ?_); rintro e w1 ⟨rfl, hS1⟩; replace hS := hS1; clear hS1)
                  | (go_at_call 9; (with_reducible refine (lnum _ _).mono ?_); rintro e w1 ⟨rfl, rfl⟩))
                go_round
                case rel => exact ⟨j + 1, by omega, by go_num, hS⟩
                case measure => simp [intOf]; omega
              · go_wp2
                go_round
                case rel => exact ⟨k + 1, d2, by omega, by go_num, hw2, hk2, hS.drop⟩
                case measure => simp [intOf]; omega
      · have h80' : ¬ (k : Int) < 80 := by omega
        go_wp2_with (go_at_call 10; (with_reducible refine (awake8 _).mono ?_); rintro e w1 ⟨rfl, hb⟩; replace hS := hS.lay (duo_good _ _ _) hb; clear hb)
        go_ret
        exact ⟨rfl, hS.bel⟩
    · go_wp2_with (go_at_call 10; (with_reducible refine (awake8 _).mono ?_); rintro e w1 ⟨rfl, hb⟩; replace hS := hS.lay (duo_good _ _ _) hb; clear hb)
      go_ret
      exact ⟨rfl, hS.bel⟩
end Go.Proofs.Ytlnliphejjfdeaa
