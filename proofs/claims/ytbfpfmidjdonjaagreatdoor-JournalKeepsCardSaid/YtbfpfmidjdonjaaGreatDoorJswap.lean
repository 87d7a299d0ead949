/- The walk of JournalSwap. Condition: the handle of the type error. (Written by tools/genjswap.py.) -/
import Derived.Test.YtbfpfmidjdonjaaGreatDoorBjc
import Derived.Test.YtbfpfmidjdonjaaGreatDoorBpk
namespace Go.Proofs.YtbfpfmidjdonjaaGreatDoor
open Go Go.RowKit

theorem mask15 (z : Int) : bits .and .i64 z 15 = z % 16 := by
  have := i64_mask z 4 (by omega)
  simpa using this
theorem EsIn.take {F : List Nat} {w : World} {ao : Option Addr} {n m : Nat} {es : List Ev} (h : EsIn F w ao n es) (hm : m ≤ n) : EsIn F w ao m (es.take m) := by
  refine ⟨by rw [List.length_take, ← h.len]; omega, ?_, Nat.le_trans hm h.few⟩
  rcases h.row with c | ⟨b, off, e, h1, h2, h3⟩
  · exact .inl (by omega)
  · refine .inr ⟨b, off, e, fun i u hu => h1 i u ?_, h2, h3⟩
    rw [← List.take_append_drop m es, ecells_app, List.getElem?_append_left (List.getElem?_eq_some_iff.1 hu).1]
    exact hu
theorem row_big {w0 w : World} {C : Ass} {ao : Option Addr} {k cap : Nat} {es : List Ev} (h : At w0 ((rowE TE 8 (.slice ao k cap) es.length (ecells es)).star C) w) (hk : 1 ≤ es.length) : ∃ g, ao = some ⟨g, 0, none⟩ ∧ k = es.length ∧ k ≤ cap := by
  obtain ⟨_, ⟨F1, F2, rfl, ⟨h1, rfl⟩, _, _⟩, _⟩ := h
  rcases h1.2 with ⟨e, h0⟩ | ⟨g, c, cur, e, _, hg, hle, _⟩
  · omega
  · obtain ⟨rfl, rfl, rfl⟩ : ao = some ⟨g, 0, none⟩ ∧ k = es.length ∧ cap = c := by simpa using e
    exact ⟨g, rfl, rfl, hle⟩
theorem spL_next (k : Nat) : spL 0 (k + 1) = spL 0 k ++ [spE (k : Int)] := by rw [spL, Int.zero_add]
/-- One Append of the laws'. -/
theorem one_step {most : Int} {T : List ByteArray} {D : Dk} {J : Jn} (h : Safe T D J) (hb : J.boot = 1) {i n : Nat} (ha : J.all = spL 0 i) (hk : D.kept.length = n) (hin : i + 3 ≤ n) (hT : T.length ≤ 1 + i) (hmost : most = 65536) (hi : i ≤ 60) :
    jpE most T J D [spE (i : Int)] = 0 ∧ Safe (jpT most T J D [spE (i : Int)]) (apD most T J D [spE (i : Int)]) (apJ most T J D [spE (i : Int)]) ∧ (apJ most T J D [spE (i : Int)]).boot = 1 ∧ (apJ most T J D [spE (i : Int)]).all = spL 0 (i + 1) ∧ (apD most T J D [spE (i : Int)]).kept.length = n ∧ (jpT most T J D [spE (i : Int)]).length ≤ 1 + (i + 1) := by
  have hal : J.all.length = i := by rw [ha]; exact spL_len _ _
  obtain ⟨e1, e2, e3, e4, e5, e6, _⟩ := h.append (most := most) [spE (i : Int)] (fun e he => by simp at he; subst he; exact spE_may (by omega) (by omega)) (by rw [hal, hk]; show 2 + i + 1 ≤ n; omega) (by subst hmost; show ((T.length + 1 : Nat) : Int) ≤ 65536; omega) (by show T.length + 1 ≤ _; omega) (by omega)
  exact ⟨e1, e6, by rw [e3, hb], by rw [e2, ha, spL_next], by rw [e4, hk], by rw [e5]; show T.length + 1 ≤ _; omega⟩
abbrev jsa0 : Oper := { dst := some 145, op := Op.move (Operand.tmp 24), type := 32, pos := "deep.go:99", after := #[], guard := none }
abbrev jsa1 : Oper := { dst := some 146, op := Op.call { callee := Callee.value (Operand.func 26), args := #[Operand.tmp 145], argTypes := #[32] }, type := 36, pos := "deep.go:99", after := #[{ on := 0, ground := Ground.data }], guard := none }
abbrev jsa2 : Oper := { dst := some 147, op := Op.move (Operand.tmp 14), type := 36, pos := "deep.go:99", after := #[], guard := none }
abbrev jsa3 : Oper := { dst := some 148, op := Op.move (Operand.tmp 26), type := 3, pos := "deep.go:99", after := #[], guard := none }
abbrev jsa4 : Oper := { dst := some 149, op := Op.slice 36 (Operand.tmp 147) none (some (Operand.tmp 148)) none, type := 36, pos := "deep.go:99", after := #[{ on := 2, ground := Ground.data }, { on := 3, ground := Ground.data }], guard := none }
abbrev jsa5 : Oper := { dst := some 150, op := Op.call { callee := Callee.value (Operand.func 28), args := #[Operand.tmp 146, Operand.tmp 149], argTypes := #[36, 36] }, type := 4, pos := "deep.go:99", after := #[{ on := 1, ground := Ground.data }, { on := 4, ground := Ground.data }, { on := 1, ground := Ground.chain }], guard := none }
abbrev jsa6 : Oper := { dst := some 151, op := Op.unOp UnOp.not 4 (Operand.tmp 150), type := 4, pos := "deep.go:99", after := #[{ on := 5, ground := Ground.data }], guard := none }
abbrev jsb0 : Oper := { dst := some 79, op := Op.move (Operand.tmp 1), type := 3, pos := "deep.go:86", after := #[], guard := none }
abbrev jsb1 : Oper := { dst := some 80, op := Op.convert 3 62 (Operand.tmp 79), type := 62, pos := "deep.go:86", after := #[{ on := 0, ground := Ground.data }], guard := none }
abbrev jsb2 : Oper := { dst := some 81, op := Op.move (Operand.tmp 13), type := 3, pos := "deep.go:86", after := #[], guard := none }
abbrev jsb3 : Oper := { dst := some 82, op := Op.convert 3 62 (Operand.tmp 81), type := 62, pos := "deep.go:86", after := #[{ on := 2, ground := Ground.data }], guard := none }
abbrev jsb4 : Oper := { dst := some 83, op := Op.binOp BinOp.rem 62 (Operand.tmp 80) (Operand.tmp 82) 62, type := 62, pos := "deep.go:86", after := #[{ on := 1, ground := Ground.data }, { on := 3, ground := Ground.data }], guard := none }
abbrev jsb5 : Oper := { dst := some 84, op := Op.convert 62 3 (Operand.tmp 83), type := 3, pos := "deep.go:86", after := #[{ on := 4, ground := Ground.data }], guard := none }
abbrev jsb6 : Oper := { dst := some 85, op := Op.move (Operand.tmp 2), type := 3, pos := "deep.go:86", after := #[{ on := 12, ground := Ground.gcOnly Departure.lateStores }], guard := none }
abbrev jsb7 : Oper := { dst := some 86, op := Op.convert 3 62 (Operand.tmp 85), type := 62, pos := "deep.go:86", after := #[{ on := 6, ground := Ground.data }, { on := 12, ground := Ground.gcOnly Departure.lateStores }], guard := none }
abbrev jsb8 : Oper := { dst := some 87, op := Op.move (Operand.tmp 13), type := 3, pos := "deep.go:86", after := #[{ on := 12, ground := Ground.gcOnly Departure.lateStores }], guard := none }
abbrev jsb9 : Oper := { dst := some 88, op := Op.convert 3 62 (Operand.tmp 87), type := 62, pos := "deep.go:86", after := #[{ on := 8, ground := Ground.data }, { on := 12, ground := Ground.gcOnly Departure.lateStores }], guard := none }
abbrev jsb10 : Oper := { dst := some 89, op := Op.binOp BinOp.rem 62 (Operand.tmp 86) (Operand.tmp 88) 62, type := 62, pos := "deep.go:86", after := #[{ on := 7, ground := Ground.data }, { on := 9, ground := Ground.data }, { on := 12, ground := Ground.gcOnly Departure.lateStores }], guard := none }
abbrev jsb11 : Oper := { dst := some 90, op := Op.convert 62 3 (Operand.tmp 89), type := 3, pos := "deep.go:86", after := #[{ on := 10, ground := Ground.data }, { on := 12, ground := Ground.gcOnly Departure.lateStores }], guard := none }
abbrev jsb12 : Oper := { dst := some 18, op := Op.assign (Operand.tmp 84), type := 3, pos := "deep.go:86", after := #[{ on := 5, ground := Ground.data }, { on := 0, ground := Ground.phase }, { on := 1, ground := Ground.phase }, { on := 2, ground := Ground.phase }, { on := 3, ground := Ground.phase }, { on := 4, ground := Ground.phase }, { on := 5, ground := Ground.phase }, { on := 6, ground := Ground.textOnly Departure.lateStores }, { on := 7, ground := Ground.textOnly Departure.lateStores }, { on := 8, ground := Ground.textOnly Departure.lateStores }, { on := 9, ground := Ground.textOnly Departure.lateStores }, { on := 10, ground := Ground.textOnly Departure.lateStores }, { on := 11, ground := Ground.textOnly Departure.lateStores }], guard := none }
abbrev jsb13 : Oper := { dst := some 19, op := Op.assign (Operand.tmp 90), type := 3, pos := "deep.go:86", after := #[{ on := 11, ground := Ground.data }, { on := 12, ground := Ground.chain }, { on := 0, ground := Ground.phase }, { on := 1, ground := Ground.phase }, { on := 2, ground := Ground.phase }, { on := 3, ground := Ground.phase }, { on := 4, ground := Ground.phase }, { on := 5, ground := Ground.phase }, { on := 6, ground := Ground.phase }, { on := 7, ground := Ground.phase }, { on := 8, ground := Ground.phase }, { on := 9, ground := Ground.phase }, { on := 10, ground := Ground.phase }, { on := 11, ground := Ground.phase }, { on := 12, ground := Ground.phase }], guard := none }

set_option maxRecDepth 100000 in
set_option maxHeartbeats 8000000 in
theorem jswaplaw (z a b : Int) (w : World) (hg : Gd w) :
    Calls Tryz.prog 9 #[.int .i64 z, .int .i64 a, .int .i64 b] w fun e w' => e = .returned (.bool true) ∧ Below w.heap.size w w' := by
  have HG := Lib.hid hg
  have m15 := mask15 z
  obtain ⟨k, hk⟩ : ∃ k : Nat, 2 + z % 16 = (k : Int) := ⟨(2 + z % 16).toNat, by omega⟩
  have hk2 : 2 ≤ k := by omega
  have hk17 : k ≤ 17 := by omega
  have hwr : IntKind.i64.wrap (2 + z % 16) = (k : Int) := by rw [IntKind.wrap_i64]; omega
  have hku : IntKind.u64.wrap (k : Int) = (k : Int) := by rw [IntKind.wrap_u64]; omega
  have hk0 : ¬ (k : Int) = 0 := by omega
  have hkn : ¬ k = 0 := by omega
  have hu0 : 0 ≤ IntKind.u64.wrap a := by rw [IntKind.wrap_u64]; omega
  have hv0 : 0 ≤ IntKind.u64.wrap b := by rw [IntKind.wrap_u64]; omega
  obtain ⟨u, hu, huk⟩ : ∃ u : Nat, (IntKind.u64.wrap a).tmod (k : Int) = (u : Int) ∧ u < k := by
    have h2 := Int.emod_nonneg (IntKind.u64.wrap a) hk0
    have h3 := Int.emod_lt_of_pos (IntKind.u64.wrap a) (show (0 : Int) < (k : Int) by omega)
    exact ⟨(IntKind.u64.wrap a % (k : Int)).toNat, by rw [Int.tmod_eq_emod_of_nonneg hu0]; omega, by omega⟩
  obtain ⟨v, hv, hvk⟩ : ∃ v : Nat, (IntKind.u64.wrap b).tmod (k : Int) = (v : Int) ∧ v < k := by
    have h2 := Int.emod_nonneg (IntKind.u64.wrap b) hk0
    have h3 := Int.emod_lt_of_pos (IntKind.u64.wrap b) (show (0 : Int) < (k : Int) by omega)
    exact ⟨(IntKind.u64.wrap b % (k : Int)).toNat, by rw [Int.tmod_eq_emod_of_nonneg hv0]; omega, by omega⟩
  have huw : IntKind.i64.wrap (u : Int) = (u : Int) := IntWalk.i64_in _ (by omega)
  have hvw : IntKind.i64.wrap (v : Int) = (v : Int) := IntWalk.i64_in _ (by omega)
  obtain ⟨u2, hu2⟩ : ∃ u2 : Nat, u2 = 2 + u := ⟨_, rfl⟩
  obtain ⟨v2, hv2⟩ : ∃ v2 : Nat, v2 = 2 + v := ⟨_, rfl⟩
  have hu2w : IntKind.i64.wrap (2 + (u : Int)) = (u2 : Int) := by rw [IntKind.wrap_i64]; omega
  have hv2w : IntKind.i64.wrap (2 + (v : Int)) = (v2 : Int) := by rw [IntKind.wrap_i64]; omega
  have HU := Lib.hid hu2
  have HV := Lib.hid hv2
  obtain ⟨s1, s2, s3, s4, s5, _⟩ := start_safe (most := 65536) (n := 30) (by decide) (by decide) (by decide)
  have hok0 : (Dk.new 30).Ok := Dk.ok_new (by omega) (by omega)
  have HS := Lib.hid (And.intro s2 (And.intro s3 (And.intro s4 s5)))
  have HO := Lib.hid (fun (C : Ass) (W : World) (pb pd : Nat) (hC : C.Good) (h : At w ((BD pb pd 65536 [] (Dk.new 30)).star C) W) => (show Calls Tryz.prog 34 #[.pointer (some ⟨pb, 0, none⟩), .pointer (some ⟨pd, 0, none⟩)] W (fun e w' => ∃ p : Nat, e = .returned (.tuple #[.pointer (some ⟨p, 0, none⟩), .int .i64 0]) ∧ At w ((BD pb pd 65536 (joT 65536 [] (Dk.new 30)) (joD 65536 [] (Dk.new 30))).star ((JO p pb pd 28 (joJ 65536 [] (Dk.new 30))).star C)) w') from by have := jlopen hC hg h hok0 (by simp) (by simp [Dk.new]) s1; exact this))
  clear hg s1 s2 s3 s4 s5 hok0 hu2 hv2 hu0 hv0 hk
  go_enter Tryz.func9, Tryz.ntmps9
  go_wp2_with (first
    | (go_at_call 12; (with_reducible refine (awake11 _ HG.out).mono ?_); rintro e w1 ⟨rfl, hb0⟩)
    | (go_at_call 10; (with_reducible refine (twin_none11 65536 _ (by omega) (by omega)).mono ?_); rintro e w1 ⟨pb, qb, rfl, hb⟩)
    | (go_at_call 11; (with_reducible refine (pair_at11 _ 30 (by omega) _ (by omega) (by omega)).mono ?_); rintro e w2 ⟨pd, qd, rfl, hp⟩; have hS := (lawdrop ((lawstart hb hp).imp (Ass.imp.comm _ _)).drop).under hb0; clear hb hp hb0)
    | (go_at_call 34; (with_reducible refine (HO.out _ _ _ _ emp_good hS).mono ?_); rintro e w3 ⟨p1, rfl, hS1⟩; replace hS := hS1; clear hS1)
    | (go_at_call 16; (with_reducible refine (lnum _ _).mono ?_); rintro e w9 ⟨rfl, rfl⟩))
  obtain ⟨g1, g2, g3, g4⟩ := HS.out
  have hi : ∃ T D J, Safe T D J ∧ J.boot = 1 ∧ J.all = spL 0 0 ∧ D.kept.length = 30 ∧ T.length ≤ 1 + 0 ∧ At w ((rowE TE 8 (.slice Option.none 0 0) (spL 0 0).length (ecells (spL 0 0))).star ((BD pb pd 65536 T D).star ((JO p1 pb pd 28 J).star emp))) w3 := ⟨_, _, _, g2, by rw [g1], by rw [g1]; rfl, g4, by omega, hS.erow0E⟩
  clear hS g1 g2 g3 g4 HS HO
  go_loopw [14, 15] (fun x14 x15 wr => ∃ (i : Nat) (T : List ByteArray) (D : Dk) (J : Jn) (a2 : Option Addr) (c2 : Nat), i ≤ k ∧ x15 = .int .i64 (i : Int) ∧ x14 = .slice a2 i c2 ∧ Safe T D J ∧ J.boot = 1 ∧ J.all = spL 0 i ∧ D.kept.length = 30 ∧ T.length ≤ 1 + i ∧ At w ((rowE TE 8 (.slice a2 i c2) (spL 0 i).length (ecells (spL 0 i))).star ((BD pb pd 65536 T D).star ((JO p1 pb pd 28 J).star emp))) wr) (fun _ x15 _ => k - (intOf x15).toNat)
  case atStart =>
    obtain ⟨T, D, J, q1, q2, q3, q4, q5, q6⟩ := hi
    exact ⟨0, T, D, J, _, _, Nat.zero_le _, rfl, rfl, q1, q2, q3, q4, q5, q6⟩
  case round =>
    clear hi
    obtain ⟨i, T, D, J, a2, c2, hik, rfl, rfl, hSf, hBt, hAl, hKl, hTl, hS⟩ := hrel
    have hal : J.all.length = i := by rw [hAl]; exact spL_len _ _
    have hjok : JOk T D 28 J := hSf.jok (by omega) (by rw [hKl]; rfl)
    by_cases hlt : i < k
    · have hlt2 : (i : Int) < (k : Int) := by omega
      obtain ⟨e1, e2, e3, e4, e5, e6⟩ := one_step (most := 65536) hSf hBt hAl hKl (by omega) hTl rfl (by omega)
      have HAp := Lib.hid (fun W (h : At w ((rowE TE 8 (.slice a2 i c2) (spL 0 i).length (ecells (spL 0 i))).star ((BD pb pd 65536 T D).star ((JO p1 pb pd 28 J).star emp))) W) n (hn : n = W.heap.size + 1) => (show Calls Tryz.prog 15 #[.pointer (some ⟨p1, 0, none⟩), .slice (some ⟨n, 0, none⟩) 1 1] ((W.alloc (.cells #[.int .i64 9, .int .i64 0, .int .i64 (i : Int), .int .i64 0, .int .i64 0, .int .i64 0, .int .i64 0, .int .i64 0] 61)).alloc (.cells #[.int .i64 9, .int .i64 0, .int .i64 (i : Int), .int .i64 0, .int .i64 0, .int .i64 0, .int .i64 0, .int .i64 0] 61)) (fun e w' => e = .returned (.int .i64 0) ∧ At w ((BD pb pd 65536 (jpT 65536 T J D [spE (i : Int)]) (apD 65536 T J D [spE (i : Int)])).star ((JO p1 pb pd 28 (apJ 65536 T J D [spE (i : Int)])).star ((ownA W.heap.size #[.int .i64 9, .int .i64 0, .int .i64 (i : Int), .int .i64 0, .int .i64 0, .int .i64 0, .int .i64 0, .int .i64 0] 61).star ((rowE TE 8 (.slice a2 i c2) (spL 0 i).length (ecells (spL 0 i))).star emp)))) w') from by
        have h1 := h.imp ((Ass.imp.swap _ _ _).trans ((Ass.imp.swap _ _ _).under _))
        have h2 := (h1.hold ((BD_good _ _ _ _ _).star ((JO_good _ _ _ _ _).star ((rowE_good _ _ _ _ _).star emp_good))) #[.int .i64 9, .int .i64 0, .int .i64 (i : Int), .int .i64 0, .int .i64 0, .int .i64 0, .int .i64 0, .int .i64 0] 61).imp ((Ass.imp.swap _ _ _).trans ((Ass.imp.swap _ _ _).under _))
        have h3 := jlapp ((ownA_good _ _ _).star ((rowE_good _ _ _ _ _).star emp_good)) h2 hjok [spE (i : Int)] (by simp) rfl
        rw [e1, show (W.alloc (.cells #[.int .i64 9, .int .i64 0, .int .i64 (i : Int), .int .i64 0, .int .i64 0, .int .i64 0, .int .i64 0, .int .i64 0] 61)).heap.size = n by simp [hn]] at h3
        exact h3))
      generalize jpT 65536 T J D [spE (i : Int)] = T2 at *
      generalize apD 65536 T J D [spE (i : Int)] = D2 at *
      generalize apJ 65536 T J D [spE (i : Int)] = J2 at *
      have HN := Lib.hid (And.intro e2 (And.intro e3 (And.intro e4 (And.intro e5 e6))))
      clear e1 e2 e3 e4 e5 e6 hSf hBt hAl hKl hTl hal hjok
      go_wp2_with (first
        | (go_at_call 15; (with_reducible refine (HAp.out _ hS _ ?hn).mono ?_); (case hn => simp); rintro e w4 ⟨rfl, hS4⟩; have f := hS4.drop.drop.own.1; have y0 := f 0; have y1 := f 1; have y2 := f 2; have y3 := f 3; have y4 := f 4; have y5 := f 5; have y6 := f 6; have y7 := f 7; have hR := hS4.drop3.imp (Ass.imp.up2 _ _ _ _); clear f hS4 hS)
        | (at_builtin; refine app_evA ((BD_good _ _ _ _ _).star ((JO_good _ _ _ _ _).star emp_good)) rfl _ _ rfl a2 i c2 (spL 0 i) (spE (i : Int)) rfl rfl hR (by rw [spL_len]; omega) ?_; intro a3 c3 w5 hS5; clear hR y0 y1 y2 y3 y4 y5 y6 y7)
        | (go_at_call 16; (with_reducible refine (lnum _ _).mono ?_); rintro e w9 ⟨rfl, rfl⟩))
      go_round
      case rel => exact ⟨i + 1, T2, D2, J2, a3, c3, by omega, by go_num, rfl, HN.out.1, HN.out.2.1, HN.out.2.2.1, HN.out.2.2.2.1, HN.out.2.2.2.2, by rw [spL_next]; exact hS5⟩
      case measure => simp [intOf]; omega
    · obtain rfl : i = k := by omega
      have hkk : ¬ (i : Int) < (i : Int) := by omega
      clear hlt
      obtain ⟨g, rfl, -, hcap⟩ := row_big hS (by rw [spL_len]; omega)
      have hf := hSf.fits
      have r1 := Dk.rd_dry hSf.calm.dry hSf.calm.up (i := u2) (by have := HU.out; omega)
      have r2 := Dk.rd_dry hSf.calm.dry hSf.calm.up (i := v2) (by have := HV.out; omega)
      obtain ⟨sa, hsa⟩ : ∃ sa, D.kept.getD u2 ⟨#[]⟩ = sa := ⟨_, rfl⟩
      obtain ⟨sb, hsb⟩ : ∃ sb, D.kept.getD v2 ⟨#[]⟩ = sb := ⟨_, rfl⟩
      rw [hsa] at r1
      rw [hsb] at r2
      obtain ⟨a1, a2, a3, a4, a5, a6, a7, a8, a9, a10⟩ := hSf.swapped (most := 65536) (by omega) hBt (by omega) (p := u) (q := v) (by rw [hal]; exact huk) (by rw [hal]; exact hvk) (s := sa) (t := sb) (by rw [← HU.out]; exact hsa) (by rw [← HV.out]; exact hsb) rfl
      obtain ⟨b1, b2, b3, b4, b5, b6⟩ := a10 _ rfl
      rw [← HU.out, ← HV.out] at a1 a2 a3 a5 a6 a7 a8 a9 b1 b2 b3 b4 b5 b6
      rw [← HU.out] at a4
      obtain ⟨wn, hwn⟩ : ∃ wn : Nat, (if u = v then i else min u v) = wn := ⟨_, rfl⟩
      rw [hal, hwn, hAl] at a9
      rw [hAl] at b6
      have hwl : wn ≤ i := by rw [← hwn]; split <;> omega
      have hgd := HG.out
      have hd0 : D.waits.length ≤ 1000000 := by rw [hSf.calm.dry]; simp
      have hT0 : T.length ≤ 1000000 := by omega
      have HR1 := Lib.hid (fun C W (hC : Ass.Good C) (h : At w ((BD pb pd 65536 T D).star C) W) => (show Calls Tryz.prog 40 #[.pointer (some ⟨pd, 0, none⟩), .int .i64 (u2 : Int)] W (fun e w' => e = .returned (.tuple #[.string sa, .int .i64 0]) ∧ At w ((BD pb pd 65536 T D).star C) w') from by
        have := jldisk hC (kpread pd D (u2 : Int)) h
        rw [r1.1, r1.2] at this
        exact this))
      have HR2 := Lib.hid (fun C W (hC : Ass.Good C) (h : At w ((BD pb pd 65536 T D).star C) W) => (show Calls Tryz.prog 40 #[.pointer (some ⟨pd, 0, none⟩), .int .i64 (v2 : Int)] W (fun e w' => e = .returned (.tuple #[.string sb, .int .i64 0]) ∧ At w ((BD pb pd 65536 T D).star C) w') from by
        have := jldisk hC (kpread pd D (v2 : Int)) h
        rw [r2.1, r2.2] at this
        exact this))
      have HW1 := Lib.hid (fun C W (hC : Ass.Good C) (h : At w ((BD pb pd 65536 T D).star C) W) => jldisk hC (kpwrite pd D (u2 : Int) sb hd0) h)
      have HW2 := Lib.hid (fun C W (hC : Ass.Good C) (h : At w ((BD pb pd 65536 T (D.wr (u2 : Int) sb)).star C) W) => jldisk hC (kpwrite pd _ (v2 : Int) sa (Nat.le_trans a4 (by decide))) h)
      have HO1 := Lib.hid (fun C W (hC : Ass.Good C) (h : At w ((BD pb pd 65536 T ((D.wr (u2 : Int) sb).wr (v2 : Int) sa)).star C) W) => (show Calls Tryz.prog 34 #[.pointer (some ⟨pb, 0, none⟩), .pointer (some ⟨pd, 0, none⟩)] W (fun e w' => ∃ p : Nat, e = .returned (.tuple #[.pointer (some ⟨p, 0, none⟩), .int .i64 0]) ∧ At w ((BD pb pd 65536 (joT 65536 T ((D.wr (u2 : Int) sb).wr (v2 : Int) sa)) (joD 65536 T ((D.wr (u2 : Int) sb).wr (v2 : Int) sa))).star ((JO p pb pd 28 (joJ 65536 T ((D.wr (u2 : Int) sb).wr (v2 : Int) sa))).star C)) w') from by
        have := jlopen hC hgd h a1 hT0 (Nat.le_trans a2 (by decide)) a5
        rw [a3, hKl] at this
        exact this))
      generalize joT 65536 T ((D.wr (u2 : Int) sb).wr (v2 : Int) sa) = T1 at *
      generalize joJ 65536 T ((D.wr (u2 : Int) sb).wr (v2 : Int) sa) = J1 at *
      generalize joD 65536 T ((D.wr (u2 : Int) sb).wr (v2 : Int) sa) = D1 at *
      have HW3 := Lib.hid (fun C W (hC : Ass.Good C) (h : At w ((BD pb pd 65536 T1 D1).star C) W) => jldisk hC (kpwrite pd _ (u2 : Int) sa (by rw [a7]; decide)) h)
      have HW4 := Lib.hid (fun C W (hC : Ass.Good C) (h : At w ((BD pb pd 65536 T1 (D1.wr (u2 : Int) sa)).star C) W) => jldisk hC (kpwrite pd _ (v2 : Int) sb (Nat.le_trans b4 (by decide))) h)
      have HO2 := Lib.hid (fun C W (hC : Ass.Good C) (h : At w ((BD pb pd 65536 T1 ((D1.wr (u2 : Int) sa).wr (v2 : Int) sb)).star C) W) => (show Calls Tryz.prog 34 #[.pointer (some ⟨pb, 0, none⟩), .pointer (some ⟨pd, 0, none⟩)] W (fun e w' => ∃ p : Nat, e = .returned (.tuple #[.pointer (some ⟨p, 0, none⟩), .int .i64 0]) ∧ At w ((BD pb pd 65536 (joT 65536 T1 ((D1.wr (u2 : Int) sa).wr (v2 : Int) sb)) (joD 65536 T1 ((D1.wr (u2 : Int) sa).wr (v2 : Int) sb))).star ((JO p pb pd 28 (joJ 65536 T1 ((D1.wr (u2 : Int) sa).wr (v2 : Int) sb))).star C)) w') from by
        have := jlopen hC hgd h b1 (by omega) (Nat.le_trans b2 (by decide)) b5
        rw [b3, hKl] at this
        exact this))
      generalize joT 65536 T1 ((D1.wr (u2 : Int) sa).wr (v2 : Int) sb) = T3 at *
      generalize joJ 65536 T1 ((D1.wr (u2 : Int) sa).wr (v2 : Int) sb) = J3 at *
      generalize joD 65536 T1 ((D1.wr (u2 : Int) sa).wr (v2 : Int) sb) = D3 at *
      have hl1 : J1.all.length = wn := by rw [a9, List.length_take, spL_len]; omega
      have hl3 : J3.all.length = i := by rw [b6, spL_len]
      have HEv := Lib.hid (fun x1 W (h : At w ((BD pb pd 65536 T1 D1).star ((JO x1 pb pd 28 J1).star ((JO p1 pb pd 28 J).star ((rowE TE 8 (.slice (some ⟨g, 0, none⟩) i c2) (spL 0 i).length (ecells (spL 0 i))).star emp)))) W) => (show Calls Tryz.prog 26 #[.pointer (some ⟨x1, 0, none⟩)] W (fun e w' => ∃ ao cap, e = .returned (.slice ao wn cap) ∧ At w ((rowE TE 8 (.slice ao wn cap) ((spL 0 i).take wn).length (ecells ((spL 0 i).take wn))).star ((BD pb pd 65536 T1 D1).star ((JO x1 pb pd 28 J1).star ((JO p1 pb pd 28 J).star ((rowE TE 8 (.slice (some ⟨g, 0, none⟩) i c2) (spL 0 i).length (ecells (spL 0 i))).star emp))))) w') from by
        have := jlevents ((JO_good _ _ _ _ _).star ((rowE_good _ _ _ _ _).star emp_good)) h (by omega)
        rw [a9] at hl1
        rw [a9, hl1] at this
        rw [hl1]
        exact this))
      have hwc : wn ≤ c2 := Nat.le_trans hwl hcap
      have HSm1 := Lib.hid (fun x1 W ao ca (h : At w ((rowE TE 8 (.slice ao wn ca) ((spL 0 i).take wn).length (ecells ((spL 0 i).take wn))).star ((BD pb pd 65536 T1 D1).star ((JO x1 pb pd 28 J1).star ((JO p1 pb pd 28 J).star ((rowE TE 8 (.slice (some ⟨g, 0, none⟩) i c2) (spL 0 i).length (ecells (spL 0 i))).star emp))))) W) => (show Calls Tryz.prog 28 #[.slice ao wn ca, .slice (some ⟨g, 0, none⟩) wn c2] W (fun e w' => e = .returned (.bool true) ∧ Below W.heap.size W w') from
        (lsame_ev (esin_at h (by rw [List.length_take, spL_len]; omega)) ((esin_at h.drop.drop.drop.drop (by rw [spL_len]; omega)).take hwl)).mono fun e w' ⟨q1, q2⟩ => ⟨by rw [q1]; simp, q2⟩))
      have HEv3 := Lib.hid (fun x3 x1 W (h : At w ((BD pb pd 65536 T3 D3).star ((JO x3 pb pd 28 J3).star ((JO x1 pb pd 28 J1).star ((JO p1 pb pd 28 J).star ((rowE TE 8 (.slice (some ⟨g, 0, none⟩) i c2) (spL 0 i).length (ecells (spL 0 i))).star emp))))) W) => (show Calls Tryz.prog 26 #[.pointer (some ⟨x3, 0, none⟩)] W (fun e w' => ∃ ao cap, e = .returned (.slice ao i cap) ∧ At w ((rowE TE 8 (.slice ao i cap) (spL 0 i).length (ecells (spL 0 i))).star ((BD pb pd 65536 T3 D3).star ((JO x3 pb pd 28 J3).star ((JO x1 pb pd 28 J1).star ((JO p1 pb pd 28 J).star ((rowE TE 8 (.slice (some ⟨g, 0, none⟩) i c2) (spL 0 i).length (ecells (spL 0 i))).star emp)))))) w') from by
        have := jlevents ((JO_good _ _ _ _ _).star ((JO_good _ _ _ _ _).star ((rowE_good _ _ _ _ _).star emp_good))) h (by omega)
        rw [b6, spL_len] at this
        rw [spL_len]
        exact this))
      have HSm3 := Lib.hid (fun x3 x1 W ao ca (h : At w ((rowE TE 8 (.slice ao i ca) (spL 0 i).length (ecells (spL 0 i))).star ((BD pb pd 65536 T3 D3).star ((JO x3 pb pd 28 J3).star ((JO x1 pb pd 28 J1).star ((JO p1 pb pd 28 J).star ((rowE TE 8 (.slice (some ⟨g, 0, none⟩) i c2) (spL 0 i).length (ecells (spL 0 i))).star emp)))))) W) => (show Calls Tryz.prog 28 #[.slice ao i ca, .slice (some ⟨g, 0, none⟩) i c2] W (fun e w' => e = .returned (.bool true) ∧ Below W.heap.size W w') from
        (lsame_ev (esin_at h (by rw [spL_len]; omega)) (esin_at h.drop.drop.drop.drop.drop (by rw [spL_len]; omega))).mono fun e w' ⟨q1, q2⟩ => ⟨by rw [q1]; simp, q2⟩))
      replace hS := hS.imp ((Ass.imp.swap _ _ _).trans ((Ass.imp.swap _ _ _).under _))
      have hwk : wn ≤ 17 := by omega
      have HW := Lib.hid hwn
      clear hSf hBt hAl hKl hTl hal hjok hf r1 r2 a1 a2 a3 a4 a5 a6 a7 a8 a9 a10 b1 b2 b3 b4 b5 b6 hwn hd0 hT0 hl1 hl3 hgd hik hwl hcap
      by_cases huv : u = v
      · subst huv
        obtain rfl : u2 = v2 := by have := HU.out; have := HV.out; omega
        obtain rfl : sa = sb := hsa.symm.trans hsb
        clear hsa hsb
        go_wp2
        refine region_held (S := fun _ => True) 14 [false, false, false, false, false, false, false, false, false, false, false, false, false, false] rfl rfl (by kernel_rfl) fun V0 hW => ?_
        replace hS := hS.lay ((BD_good _ _ _ _ _).star ((JO_good _ _ _ _ _).star ((rowE_good _ _ _ _ _).star emp_good))) (bdrew _)
        rw [← hW] at hS
        clear hW
        refine held_take 0 jsb0 (some 79) ?_ rfl rfl (by kernel_rfl) (by kernel_rfl) (by kernel_rfl) (fun _ _ _ h => h) (Or.inl ⟨by rfl, ?_⟩) trivial ?_
        rotate_left
        · intro w0 hy0; clear hy0; (go_simp <;> with_reducible rfl)
        simp only [Act.put, List.setIfInBounds_toArray, List.set_cons_zero, List.set_cons_succ]
        refine held_take 1 jsb1 (some 80) ?_ rfl rfl (by kernel_rfl) (by kernel_rfl) (by kernel_rfl) (fun _ _ _ h => h) (Or.inl ⟨by rfl, ?_⟩) trivial ?_
        rotate_left
        · intro w0 hy0; clear hy0; (go_simp <;> with_reducible rfl)
        simp only [Act.put, List.setIfInBounds_toArray, List.set_cons_zero, List.set_cons_succ]
        refine held_take 2 jsb2 (some 81) ?_ rfl rfl (by kernel_rfl) (by kernel_rfl) (by kernel_rfl) (fun _ _ _ h => h) (Or.inl ⟨by rfl, ?_⟩) trivial ?_
        rotate_left
        · intro w0 hy0; clear hy0; (go_simp <;> with_reducible rfl)
        simp only [Act.put, List.setIfInBounds_toArray, List.set_cons_zero, List.set_cons_succ]
        refine held_take 3 jsb3 (some 82) ?_ rfl rfl (by kernel_rfl) (by kernel_rfl) (by kernel_rfl) (fun _ _ _ h => h) (Or.inl ⟨by rfl, ?_⟩) trivial ?_
        rotate_left
        · intro w0 hy0; clear hy0; (go_simp <;> with_reducible rfl)
        simp only [Act.put, List.setIfInBounds_toArray, List.set_cons_zero, List.set_cons_succ]
        refine held_take 4 jsb4 (some 83) ?_ rfl rfl (by kernel_rfl) (by kernel_rfl) (by kernel_rfl) (fun _ _ _ h => h) (Or.inl ⟨by rfl, ?_⟩) trivial ?_
        rotate_left
        · intro w0 hy0; clear hy0; (go_simp <;> with_reducible rfl)
        simp only [Act.put, List.setIfInBounds_toArray, List.set_cons_zero, List.set_cons_succ]
        refine held_take 5 jsb5 (some 84) ?_ rfl rfl (by kernel_rfl) (by kernel_rfl) (by kernel_rfl) (fun _ _ _ h => h) (Or.inl ⟨by rfl, ?_⟩) trivial ?_
        rotate_left
        · intro w0 hy0; clear hy0; (go_simp <;> with_reducible rfl)
        simp only [Act.put, List.setIfInBounds_toArray, List.set_cons_zero, List.set_cons_succ]
        refine held_take 6 jsb6 (some 85) ?_ rfl rfl (by kernel_rfl) (by kernel_rfl) (by kernel_rfl) (fun _ _ _ h => h) (Or.inl ⟨by rfl, ?_⟩) trivial ?_
        rotate_left
        · intro w0 hy0; clear hy0; (go_simp <;> with_reducible rfl)
        simp only [Act.put, List.setIfInBounds_toArray, List.set_cons_zero, List.set_cons_succ]
        refine held_take 7 jsb7 (some 86) ?_ rfl rfl (by kernel_rfl) (by kernel_rfl) (by kernel_rfl) (fun _ _ _ h => h) (Or.inl ⟨by rfl, ?_⟩) trivial ?_
        rotate_left
        · intro w0 hy0; clear hy0; (go_simp <;> with_reducible rfl)
        simp only [Act.put, List.setIfInBounds_toArray, List.set_cons_zero, List.set_cons_succ]
        refine held_take 8 jsb8 (some 87) ?_ rfl rfl (by kernel_rfl) (by kernel_rfl) (by kernel_rfl) (fun _ _ _ h => h) (Or.inl ⟨by rfl, ?_⟩) trivial ?_
        rotate_left
        · intro w0 hy0; clear hy0; (go_simp <;> with_reducible rfl)
        simp only [Act.put, List.setIfInBounds_toArray, List.set_cons_zero, List.set_cons_succ]
        refine held_take 9 jsb9 (some 88) ?_ rfl rfl (by kernel_rfl) (by kernel_rfl) (by kernel_rfl) (fun _ _ _ h => h) (Or.inl ⟨by rfl, ?_⟩) trivial ?_
        rotate_left
        · intro w0 hy0; clear hy0; (go_simp <;> with_reducible rfl)
        simp only [Act.put, List.setIfInBounds_toArray, List.set_cons_zero, List.set_cons_succ]
        refine held_take 10 jsb10 (some 89) ?_ rfl rfl (by kernel_rfl) (by kernel_rfl) (by kernel_rfl) (fun _ _ _ h => h) (Or.inl ⟨by rfl, ?_⟩) trivial ?_
        rotate_left
        · intro w0 hy0; clear hy0; (go_simp <;> with_reducible rfl)
        simp only [Act.put, List.setIfInBounds_toArray, List.set_cons_zero, List.set_cons_succ]
        refine held_take 11 jsb11 (some 90) ?_ rfl rfl (by kernel_rfl) (by kernel_rfl) (by kernel_rfl) (fun _ _ _ h => h) (Or.inl ⟨by rfl, ?_⟩) trivial ?_
        rotate_left
        · intro w0 hy0; clear hy0; (go_simp <;> with_reducible rfl)
        simp only [Act.put, List.setIfInBounds_toArray, List.set_cons_zero, List.set_cons_succ]
        refine held_take 12 jsb12 (some 18) ?_ rfl rfl (by kernel_rfl) (by kernel_rfl) (by kernel_rfl) (fun _ _ _ h => h) (Or.inl ⟨by rfl, ?_⟩) trivial ?_
        rotate_left
        · intro w0 hy0; clear hy0; (go_simp <;> with_reducible rfl)
        simp only [Act.put, List.setIfInBounds_toArray, List.set_cons_zero, List.set_cons_succ]
        refine held_take 13 jsb13 (some 19) ?_ rfl rfl (by kernel_rfl) (by kernel_rfl) (by kernel_rfl) (fun _ _ _ h => h) (Or.inl ⟨by rfl, ?_⟩) trivial ?_
        rotate_left
        · intro w0 hy0; clear hy0; (go_simp <;> with_reducible rfl)
        simp only [Act.put, List.setIfInBounds_toArray, List.set_cons_zero, List.set_cons_succ]
        refine wpAnyH_done (by kernel_rfl) ?_ _
        go_wp2_with (first
          | (go_at_call 40; first | ((with_reducible refine (HR1.out _ _ ((JO_good _ _ _ _ _).star ((rowE_good _ _ _ _ _).star emp_good)) hS).mono ?_); rintro e w4 ⟨rfl, hS4⟩; replace hS := hS4; clear hS4) | ((with_reducible refine (HR2.out _ _ ((JO_good _ _ _ _ _).star ((rowE_good _ _ _ _ _).star emp_good)) hS).mono ?_); rintro e w4 ⟨rfl, hS4⟩; replace hS := hS4; clear hS4))
          | (go_at_call 20; first | ((with_reducible refine (HW1.out _ _ ((JO_good _ _ _ _ _).star ((rowE_good _ _ _ _ _).star emp_good)) hS).mono ?_); rintro e w4 ⟨rfl, hS4⟩; replace hS := hS4; clear hS4) | ((with_reducible refine (HW2.out _ _ ((JO_good _ _ _ _ _).star ((rowE_good _ _ _ _ _).star emp_good)) hS).mono ?_); rintro e w4 ⟨rfl, hS4⟩; replace hS := hS4; clear hS4))
          | (go_at_call 34; ((with_reducible refine (HO1.out _ _ ((JO_good _ _ _ _ _).star ((rowE_good _ _ _ _ _).star emp_good)) hS).mono ?_); rintro e w4 ⟨x1, rfl, hS4⟩; replace hS := hS4; clear hS4))
          | (go_at_call 16; (with_reducible refine (lnum _ _).mono ?_); rintro e w9 ⟨rfl, rfl⟩))
        have hwi : (i : Int) = (wn : Int) := by have := HW.out; simp at this; omega
        rw [hwi]
        clear hwi
        refine region_held (S := fun _ => True) 7 [false, false, false, false, false, false, false] rfl rfl (by kernel_rfl) fun V0 hW => ?_
        have hX := hS.lay ((BD_good _ _ _ _ _).star ((JO_good _ _ _ _ _).star ((JO_good _ _ _ _ _).star ((rowE_good _ _ _ _ _).star emp_good)))) (bdrew _)
        rw [← hW] at hX
        clear hW hS
        refine held_take 0 jsa0 (some 145) ?_ rfl rfl (by kernel_rfl) (by kernel_rfl) (by kernel_rfl) (fun _ _ _ h => h) (Or.inl ⟨by rfl, ?_⟩) trivial ?_
        rotate_left
        · intro w0 hy0; clear hy0; (go_simp <;> with_reducible rfl)
        simp only [Act.put, List.setIfInBounds_toArray, List.set_cons_zero, List.set_cons_succ]
        refine held_take 2 jsa2 (some 147) ?_ rfl rfl (by kernel_rfl) (by kernel_rfl) (by kernel_rfl) (fun _ _ _ h => h) (Or.inl ⟨by rfl, ?_⟩) trivial ?_
        rotate_left
        · intro w0 hy0; clear hy0; (go_simp <;> with_reducible rfl)
        simp only [Act.put, List.setIfInBounds_toArray, List.set_cons_zero, List.set_cons_succ]
        refine held_take 3 jsa3 (some 148) ?_ rfl rfl (by kernel_rfl) (by kernel_rfl) (by kernel_rfl) (fun _ _ _ h => h) (Or.inl ⟨by rfl, ?_⟩) trivial ?_
        rotate_left
        · intro w0 hy0; clear hy0; (go_simp <;> with_reducible rfl)
        simp only [Act.put, List.setIfInBounds_toArray, List.set_cons_zero, List.set_cons_succ]
        refine held_take 4 jsa4 (some 149) ?_ rfl rfl (by kernel_rfl) (by kernel_rfl) (by kernel_rfl) (fun _ _ _ h => h) (Or.inl ⟨by rfl, ?_⟩) trivial ?_
        rotate_left
        · intro w0 hy0; clear hy0; (go_simp <;> with_reducible rfl)
        simp only [Act.put, List.setIfInBounds_toArray, List.set_cons_zero, List.set_cons_succ]
        refine wpAnyH_one 1 (by kernel_rfl) ?_
        refine jop_callx 1 jsa1 (some 146) 26 #[.pointer (some ⟨x1, 0, none⟩)] ?_ rfl (by rfl) (jx_Events (.tmp 145) rfl rfl) (HEv.out _ _ hX) ?_
        · rfl
        rintro e V1 ⟨ao1, ca1, rfl, hX1⟩
        refine ⟨_, rfl, trivial, ?_⟩
        simp only [Act.put, List.setIfInBounds_toArray, List.set_cons_zero, List.set_cons_succ]
        refine held_call 5 jsa5 (some 150) (.bool true) (fun Z9 => Below (World.heap V1).size V1 Z9) 28 #[.slice ao1 wn ca1, .slice (some ⟨g, 0, none⟩) wn c2] (by kernel_rfl) rfl rfl (by rfl) (jx_SameEvents (.tmp 146) (.tmp 149) rfl rfl rfl) (HSm1.out _ V1 ao1 ca1 hX1) (fun Z9 _ => trivial) ?_
        intro V2 hb2
        replace hS := (hX1.drop.lay ((BD_good _ _ _ _ _).star ((JO_good _ _ _ _ _).star ((JO_good _ _ _ _ _).star ((rowE_good _ _ _ _ _).star emp_good)))) hb2)
        simp only [Act.put, List.setIfInBounds_toArray, List.set_cons_zero, List.set_cons_succ]
        refine held_take 6 jsa6 (some 151) ?_ rfl rfl (by kernel_rfl) (by kernel_rfl) (by kernel_rfl) (fun _ _ _ h => h) (Or.inl ⟨by rfl, ?_⟩) trivial ?_
        rotate_left
        · intro w0 hy0; clear hy0; (go_simp <;> with_reducible rfl)
        simp only [Act.put, List.setIfInBounds_toArray, List.set_cons_zero, List.set_cons_succ]
        refine wpAnyH_done (by kernel_rfl) ?_ _
        go_wp2_with (first
          | (go_at_call 20; first | ((with_reducible refine (HW3.out _ _ ((JO_good _ _ _ _ _).star ((JO_good _ _ _ _ _).star ((rowE_good _ _ _ _ _).star emp_good))) hS).mono ?_); rintro e w4 ⟨rfl, hS4⟩; replace hS := hS4; clear hS4) | ((with_reducible refine (HW4.out _ _ ((JO_good _ _ _ _ _).star ((JO_good _ _ _ _ _).star ((rowE_good _ _ _ _ _).star emp_good))) hS).mono ?_); rintro e w4 ⟨rfl, hS4⟩; replace hS := hS4; clear hS4))
          | (go_at_call 34; ((with_reducible refine (HO2.out _ _ ((JO_good _ _ _ _ _).star ((JO_good _ _ _ _ _).star ((rowE_good _ _ _ _ _).star emp_good))) hS).mono ?_); rintro e w4 ⟨x3, rfl, hS4⟩; replace hS := hS4; clear hS4))
          | (go_at_call 26; (with_reducible refine (HEv3.out _ _ _ hS).mono ?_); rintro e w5 ⟨ao5, ca5, rfl, hS5⟩)
          | (go_at_call 28; (with_reducible refine (HSm3.out _ _ _ _ _ hS5).mono ?_); rintro e w6 ⟨rfl, hb6⟩)
          | (go_at_call 16; (with_reducible refine (lnum _ _).mono ?_); rintro e w9 ⟨rfl, rfl⟩))
        go_ret
        exact ⟨rfl, hS5.bel.trans (hb6.mono hS5.bel.size)⟩
      · clear hsa hsb
        have huvI : ¬ (u : Int) = (v : Int) := by omega
        have hm1 : min (u : Int) (v : Int) = (wn : Int) := by have := HW.out; rw [if_neg huv] at this; omega
        have hm2 : (if (v : Int) < (u : Int) then (v : Int) else (u : Int)) = (wn : Int) := by have := HW.out; rw [if_neg huv] at this; split <;> omega
        have hm3 : (if (u : Int) < (v : Int) then (u : Int) else (v : Int)) = (wn : Int) := by have := HW.out; rw [if_neg huv] at this; split <;> omega
        clear huv
        go_wp2
        refine region_held (S := fun _ => True) 14 [false, false, false, false, false, false, false, false, false, false, false, false, false, false] rfl rfl (by kernel_rfl) fun V0 hW => ?_
        replace hS := hS.lay ((BD_good _ _ _ _ _).star ((JO_good _ _ _ _ _).star ((rowE_good _ _ _ _ _).star emp_good))) (bdrew _)
        rw [← hW] at hS
        clear hW
        refine held_take 0 jsb0 (some 79) ?_ rfl rfl (by kernel_rfl) (by kernel_rfl) (by kernel_rfl) (fun _ _ _ h => h) (Or.inl ⟨by rfl, ?_⟩) trivial ?_
        rotate_left
        · intro w0 hy0; clear hy0; (go_simp <;> with_reducible rfl)
        simp only [Act.put, List.setIfInBounds_toArray, List.set_cons_zero, List.set_cons_succ]
        refine held_take 1 jsb1 (some 80) ?_ rfl rfl (by kernel_rfl) (by kernel_rfl) (by kernel_rfl) (fun _ _ _ h => h) (Or.inl ⟨by rfl, ?_⟩) trivial ?_
        rotate_left
        · intro w0 hy0; clear hy0; (go_simp <;> with_reducible rfl)
        simp only [Act.put, List.setIfInBounds_toArray, List.set_cons_zero, List.set_cons_succ]
        refine held_take 2 jsb2 (some 81) ?_ rfl rfl (by kernel_rfl) (by kernel_rfl) (by kernel_rfl) (fun _ _ _ h => h) (Or.inl ⟨by rfl, ?_⟩) trivial ?_
        rotate_left
        · intro w0 hy0; clear hy0; (go_simp <;> with_reducible rfl)
        simp only [Act.put, List.setIfInBounds_toArray, List.set_cons_zero, List.set_cons_succ]
        refine held_take 3 jsb3 (some 82) ?_ rfl rfl (by kernel_rfl) (by kernel_rfl) (by kernel_rfl) (fun _ _ _ h => h) (Or.inl ⟨by rfl, ?_⟩) trivial ?_
        rotate_left
        · intro w0 hy0; clear hy0; (go_simp <;> with_reducible rfl)
        simp only [Act.put, List.setIfInBounds_toArray, List.set_cons_zero, List.set_cons_succ]
        refine held_take 4 jsb4 (some 83) ?_ rfl rfl (by kernel_rfl) (by kernel_rfl) (by kernel_rfl) (fun _ _ _ h => h) (Or.inl ⟨by rfl, ?_⟩) trivial ?_
        rotate_left
        · intro w0 hy0; clear hy0; (go_simp <;> with_reducible rfl)
        simp only [Act.put, List.setIfInBounds_toArray, List.set_cons_zero, List.set_cons_succ]
        refine held_take 5 jsb5 (some 84) ?_ rfl rfl (by kernel_rfl) (by kernel_rfl) (by kernel_rfl) (fun _ _ _ h => h) (Or.inl ⟨by rfl, ?_⟩) trivial ?_
        rotate_left
        · intro w0 hy0; clear hy0; (go_simp <;> with_reducible rfl)
        simp only [Act.put, List.setIfInBounds_toArray, List.set_cons_zero, List.set_cons_succ]
        refine held_take 6 jsb6 (some 85) ?_ rfl rfl (by kernel_rfl) (by kernel_rfl) (by kernel_rfl) (fun _ _ _ h => h) (Or.inl ⟨by rfl, ?_⟩) trivial ?_
        rotate_left
        · intro w0 hy0; clear hy0; (go_simp <;> with_reducible rfl)
        simp only [Act.put, List.setIfInBounds_toArray, List.set_cons_zero, List.set_cons_succ]
        refine held_take 7 jsb7 (some 86) ?_ rfl rfl (by kernel_rfl) (by kernel_rfl) (by kernel_rfl) (fun _ _ _ h => h) (Or.inl ⟨by rfl, ?_⟩) trivial ?_
        rotate_left
        · intro w0 hy0; clear hy0; (go_simp <;> with_reducible rfl)
        simp only [Act.put, List.setIfInBounds_toArray, List.set_cons_zero, List.set_cons_succ]
        refine held_take 8 jsb8 (some 87) ?_ rfl rfl (by kernel_rfl) (by kernel_rfl) (by kernel_rfl) (fun _ _ _ h => h) (Or.inl ⟨by rfl, ?_⟩) trivial ?_
        rotate_left
        · intro w0 hy0; clear hy0; (go_simp <;> with_reducible rfl)
        simp only [Act.put, List.setIfInBounds_toArray, List.set_cons_zero, List.set_cons_succ]
        refine held_take 9 jsb9 (some 88) ?_ rfl rfl (by kernel_rfl) (by kernel_rfl) (by kernel_rfl) (fun _ _ _ h => h) (Or.inl ⟨by rfl, ?_⟩) trivial ?_
        rotate_left
        · intro w0 hy0; clear hy0; (go_simp <;> with_reducible rfl)
        simp only [Act.put, List.setIfInBounds_toArray, List.set_cons_zero, List.set_cons_succ]
        refine held_take 10 jsb10 (some 89) ?_ rfl rfl (by kernel_rfl) (by kernel_rfl) (by kernel_rfl) (fun _ _ _ h => h) (Or.inl ⟨by rfl, ?_⟩) trivial ?_
        rotate_left
        · intro w0 hy0; clear hy0; (go_simp <;> with_reducible rfl)
        simp only [Act.put, List.setIfInBounds_toArray, List.set_cons_zero, List.set_cons_succ]
        refine held_take 11 jsb11 (some 90) ?_ rfl rfl (by kernel_rfl) (by kernel_rfl) (by kernel_rfl) (fun _ _ _ h => h) (Or.inl ⟨by rfl, ?_⟩) trivial ?_
        rotate_left
        · intro w0 hy0; clear hy0; (go_simp <;> with_reducible rfl)
        simp only [Act.put, List.setIfInBounds_toArray, List.set_cons_zero, List.set_cons_succ]
        refine held_take 12 jsb12 (some 18) ?_ rfl rfl (by kernel_rfl) (by kernel_rfl) (by kernel_rfl) (fun _ _ _ h => h) (Or.inl ⟨by rfl, ?_⟩) trivial ?_
        rotate_left
        · intro w0 hy0; clear hy0; (go_simp <;> with_reducible rfl)
        simp only [Act.put, List.setIfInBounds_toArray, List.set_cons_zero, List.set_cons_succ]
        refine held_take 13 jsb13 (some 19) ?_ rfl rfl (by kernel_rfl) (by kernel_rfl) (by kernel_rfl) (fun _ _ _ h => h) (Or.inl ⟨by rfl, ?_⟩) trivial ?_
        rotate_left
        · intro w0 hy0; clear hy0; (go_simp <;> with_reducible rfl)
        simp only [Act.put, List.setIfInBounds_toArray, List.set_cons_zero, List.set_cons_succ]
        refine wpAnyH_done (by kernel_rfl) ?_ _
        go_wp2_with (first
          | (go_at_call 40; first | ((with_reducible refine (HR1.out _ _ ((JO_good _ _ _ _ _).star ((rowE_good _ _ _ _ _).star emp_good)) hS).mono ?_); rintro e w4 ⟨rfl, hS4⟩; replace hS := hS4; clear hS4) | ((with_reducible refine (HR2.out _ _ ((JO_good _ _ _ _ _).star ((rowE_good _ _ _ _ _).star emp_good)) hS).mono ?_); rintro e w4 ⟨rfl, hS4⟩; replace hS := hS4; clear hS4))
          | (go_at_call 20; first | ((with_reducible refine (HW1.out _ _ ((JO_good _ _ _ _ _).star ((rowE_good _ _ _ _ _).star emp_good)) hS).mono ?_); rintro e w4 ⟨rfl, hS4⟩; replace hS := hS4; clear hS4) | ((with_reducible refine (HW2.out _ _ ((JO_good _ _ _ _ _).star ((rowE_good _ _ _ _ _).star emp_good)) hS).mono ?_); rintro e w4 ⟨rfl, hS4⟩; replace hS := hS4; clear hS4))
          | (go_at_call 34; ((with_reducible refine (HO1.out _ _ ((JO_good _ _ _ _ _).star ((rowE_good _ _ _ _ _).star emp_good)) hS).mono ?_); rintro e w4 ⟨x1, rfl, hS4⟩; replace hS := hS4; clear hS4))
          | (go_at_call 16; (with_reducible refine (lnum _ _).mono ?_); rintro e w9 ⟨rfl, rfl⟩))
        clear hm1 hm2 hm3
        refine region_held (S := fun _ => True) 7 [false, false, false, false, false, false, false] rfl rfl (by kernel_rfl) fun V0 hW => ?_
        have hX := hS.lay ((BD_good _ _ _ _ _).star ((JO_good _ _ _ _ _).star ((JO_good _ _ _ _ _).star ((rowE_good _ _ _ _ _).star emp_good)))) (bdrew _)
        rw [← hW] at hX
        clear hW hS
        refine held_take 0 jsa0 (some 145) ?_ rfl rfl (by kernel_rfl) (by kernel_rfl) (by kernel_rfl) (fun _ _ _ h => h) (Or.inl ⟨by rfl, ?_⟩) trivial ?_
        rotate_left
        · intro w0 hy0; clear hy0; (go_simp <;> with_reducible rfl)
        simp only [Act.put, List.setIfInBounds_toArray, List.set_cons_zero, List.set_cons_succ]
        refine held_take 2 jsa2 (some 147) ?_ rfl rfl (by kernel_rfl) (by kernel_rfl) (by kernel_rfl) (fun _ _ _ h => h) (Or.inl ⟨by rfl, ?_⟩) trivial ?_
        rotate_left
        · intro w0 hy0; clear hy0; (go_simp <;> with_reducible rfl)
        simp only [Act.put, List.setIfInBounds_toArray, List.set_cons_zero, List.set_cons_succ]
        refine held_take 3 jsa3 (some 148) ?_ rfl rfl (by kernel_rfl) (by kernel_rfl) (by kernel_rfl) (fun _ _ _ h => h) (Or.inl ⟨by rfl, ?_⟩) trivial ?_
        rotate_left
        · intro w0 hy0; clear hy0; (go_simp <;> with_reducible rfl)
        simp only [Act.put, List.setIfInBounds_toArray, List.set_cons_zero, List.set_cons_succ]
        refine held_take 4 jsa4 (some 149) ?_ rfl rfl (by kernel_rfl) (by kernel_rfl) (by kernel_rfl) (fun _ _ _ h => h) (Or.inl ⟨by rfl, ?_⟩) trivial ?_
        rotate_left
        · intro w0 hy0; clear hy0; (go_simp <;> with_reducible rfl)
        simp only [Act.put, List.setIfInBounds_toArray, List.set_cons_zero, List.set_cons_succ]
        refine wpAnyH_one 1 (by kernel_rfl) ?_
        refine jop_callx 1 jsa1 (some 146) 26 #[.pointer (some ⟨x1, 0, none⟩)] ?_ rfl (by rfl) (jx_Events (.tmp 145) rfl rfl) (HEv.out _ _ hX) ?_
        · rfl
        rintro e V1 ⟨ao1, ca1, rfl, hX1⟩
        refine ⟨_, rfl, trivial, ?_⟩
        simp only [Act.put, List.setIfInBounds_toArray, List.set_cons_zero, List.set_cons_succ]
        refine held_call 5 jsa5 (some 150) (.bool true) (fun Z9 => Below (World.heap V1).size V1 Z9) 28 #[.slice ao1 wn ca1, .slice (some ⟨g, 0, none⟩) wn c2] (by kernel_rfl) rfl rfl (by rfl) (jx_SameEvents (.tmp 146) (.tmp 149) rfl rfl rfl) (HSm1.out _ V1 ao1 ca1 hX1) (fun Z9 _ => trivial) ?_
        intro V2 hb2
        replace hS := (hX1.drop.lay ((BD_good _ _ _ _ _).star ((JO_good _ _ _ _ _).star ((JO_good _ _ _ _ _).star ((rowE_good _ _ _ _ _).star emp_good)))) hb2)
        simp only [Act.put, List.setIfInBounds_toArray, List.set_cons_zero, List.set_cons_succ]
        refine held_take 6 jsa6 (some 151) ?_ rfl rfl (by kernel_rfl) (by kernel_rfl) (by kernel_rfl) (fun _ _ _ h => h) (Or.inl ⟨by rfl, ?_⟩) trivial ?_
        rotate_left
        · intro w0 hy0; clear hy0; (go_simp <;> with_reducible rfl)
        simp only [Act.put, List.setIfInBounds_toArray, List.set_cons_zero, List.set_cons_succ]
        refine wpAnyH_done (by kernel_rfl) ?_ _
        go_wp2_with (first
          | (go_at_call 20; first | ((with_reducible refine (HW3.out _ _ ((JO_good _ _ _ _ _).star ((JO_good _ _ _ _ _).star ((rowE_good _ _ _ _ _).star emp_good))) hS).mono ?_); rintro e w4 ⟨rfl, hS4⟩; replace hS := hS4; clear hS4) | ((with_reducible refine (HW4.out _ _ ((JO_good _ _ _ _ _).star ((JO_good _ _ _ _ _).star ((rowE_good _ _ _ _ _).star emp_good))) hS).mono ?_); rintro e w4 ⟨rfl, hS4⟩; replace hS := hS4; clear hS4))
          | (go_at_call 34; ((with_reducible refine (HO2.out _ _ ((JO_good _ _ _ _ _).star ((JO_good _ _ _ _ _).star ((rowE_good _ _ _ _ _).star emp_good))) hS).mono ?_); rintro e w4 ⟨x3, rfl, hS4⟩; replace hS := hS4; clear hS4))
          | (go_at_call 26; (with_reducible refine (HEv3.out _ _ _ hS).mono ?_); rintro e w5 ⟨ao5, ca5, rfl, hS5⟩)
          | (go_at_call 28; (with_reducible refine (HSm3.out _ _ _ _ _ hS5).mono ?_); rintro e w6 ⟨rfl, hb6⟩)
          | (go_at_call 16; (with_reducible refine (lnum _ _).mono ?_); rintro e w9 ⟨rfl, rfl⟩))
        go_ret
        exact ⟨rfl, hS5.bel.trans (hb6.mono hS5.bel.size)⟩
end Go.Proofs.YtbfpfmidjdonjaaGreatDoor
