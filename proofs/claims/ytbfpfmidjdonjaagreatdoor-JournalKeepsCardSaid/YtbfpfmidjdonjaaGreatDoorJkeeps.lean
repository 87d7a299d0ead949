/- The walk of JournalKeeps. Conditions: the arguments' bounds, the handle of the type error. (Written by tools/genjkeeps.py.) -/
import Derived.Test.YtbfpfmidjdonjaaGreatDoorJold
import Derived.Test.YtbfpfmidjdonjaaGreatDoorRun
import Derived.Test.YtbfpfmidjdonjaaGreatDoorBpk
namespace Go.Proofs.YtbfpfmidjdonjaaGreatDoor
open Go Go.RowKit

section
variable {w0 W : World} {C : Ass}
/-- A row of events laid behind a row. -/
theorem app_evR {ops : Array Oper} {rest : List Oper} {o : Oper} {a : Act} {Q : Exit → Act → World → Prop} (hC : C.Good) (hgd : o.guard = Option.none) (s x : Operand)
    (ho : o.op = .call { callee := .builtin .append, args := #[s, x], argTypes := #[36, 36] }) (ao : Option Addr) (n cap : Nat) (es : List Ev) (bo : Option Addr) (m cb : Nat) (fs : List Ev) (hs : a.eval s = .slice ao n cap) (hx : a.eval x = .slice bo m cb)
    (hS : At w0 ((rowE TE 8 (.slice ao n cap) es.length (ecells es)).star ((rowE TE 8 (.slice bo m cb) fs.length (ecells fs)).star C)) W) (hn : es.length + fs.length ≤ 1000) (h : ∀ a2 c2 w', At w0 ((rowE TE 8 (.slice a2 (n + m) c2) (es ++ fs).length (ecells (es ++ fs))).star ((rowE TE 8 (.slice bo m cb) fs.length (ecells fs)).star C)) w' → wpList Tryz.prog ops Q rest (a.put o.dst (.slice a2 (n + m) c2)) w') :
    wpList Tryz.prog ops Q (o :: rest) a W := by
  have hes : EsIn [] W bo m fs := esin_at hS.drop (by omega)
  have hc : bo = Option.none → cb = 0 := fun e => by
    rcases hS.drop.erow.2 with ⟨e2, _⟩ | ⟨g, c, cur, e2, _⟩
    · simp at e2; exact e2.2.2
    · subst e; simp at e2
  have hm := hes.len
  obtain ⟨v', w2, hrun, hrow, hgr, hnil, hlo⟩ := app_in o.type es hS.erow hes hc (by omega)
  have hlen : n = es.length := by
    obtain ⟨a3, c3, e3⟩ := rowE_shape hS.erow
    simp at e3
    exact e3.2.1
  obtain ⟨a2, c2, rfl⟩ := rowE_shape hrow
  rw [← hlen] at hrun hrow hlo
  refine app_ev hgd s x ho hs hx hrun (h a2 c2 w2 ?_)
  refine hS.appendedE ((rowE_good _ _ _ _ _).star hC) hgr ?_ ?_
  · rw [ecells_app, List.length_append, ← hlen, ← hm]
    exact hrow
  · rcases hlo with c | c
    · exact .inl c
    · exact .inr ⟨_, Nat.le_refl _, c⟩
end
abbrev jka0 : Oper := { dst := some 138, op := Op.move (Operand.tmp 20), type := 36, pos := "law.go:200", after := #[], guard := none }
abbrev jka1 : Oper := { dst := some 139, op := Op.call { callee := Callee.builtin Builtin.len, args := #[Operand.tmp 138], argTypes := #[36] }, type := 3, pos := "law.go:200", after := #[{ on := 0, ground := Ground.data }], guard := none }
abbrev jka2 : Oper := { dst := some 140, op := Op.move (Operand.tmp 11), type := 36, pos := "law.go:200", after := #[], guard := none }
abbrev jka3 : Oper := { dst := some 141, op := Op.call { callee := Callee.builtin Builtin.len, args := #[Operand.tmp 140], argTypes := #[36] }, type := 3, pos := "law.go:200", after := #[{ on := 2, ground := Ground.data }], guard := none }
abbrev jka4 : Oper := { dst := some 142, op := Op.binOp BinOp.lss 3 (Operand.tmp 139) (Operand.tmp 141) 3, type := 4, pos := "law.go:200", after := #[{ on := 1, ground := Ground.data }, { on := 3, ground := Ground.data }], guard := none }
abbrev jka5 : Oper := { dst := some 143, op := Op.move (Operand.tmp 142), type := 4, pos := "law.go:200", after := #[{ on := 4, ground := Ground.data }], guard := none }
abbrev jka6 : Oper := { dst := some 144, op := Op.move (Operand.tmp 20), type := 36, pos := "law.go:200", after := #[{ on := 5, ground := Ground.guard }], guard := some (5, false) }
abbrev jka7 : Oper := { dst := some 145, op := Op.call { callee := Callee.builtin Builtin.len, args := #[Operand.tmp 144], argTypes := #[36] }, type := 3, pos := "law.go:200", after := #[{ on := 6, ground := Ground.data }, { on := 5, ground := Ground.guard }], guard := some (5, false) }
abbrev jka8 : Oper := { dst := some 146, op := Op.move (Operand.tmp 11), type := 36, pos := "law.go:200", after := #[{ on := 5, ground := Ground.guard }], guard := some (5, false) }
abbrev jka9 : Oper := { dst := some 147, op := Op.call { callee := Callee.builtin Builtin.len, args := #[Operand.tmp 146], argTypes := #[36] }, type := 3, pos := "law.go:200", after := #[{ on := 8, ground := Ground.data }, { on := 5, ground := Ground.guard }], guard := some (5, false) }
abbrev jka10 : Oper := { dst := some 148, op := Op.move (Operand.tmp 13), type := 36, pos := "law.go:200", after := #[{ on := 5, ground := Ground.guard }], guard := some (5, false) }
abbrev jka11 : Oper := { dst := some 149, op := Op.call { callee := Callee.builtin Builtin.len, args := #[Operand.tmp 148], argTypes := #[36] }, type := 3, pos := "law.go:200", after := #[{ on := 10, ground := Ground.data }, { on := 5, ground := Ground.guard }], guard := some (5, false) }
abbrev jka12 : Oper := { dst := some 150, op := Op.binOp BinOp.add 3 (Operand.tmp 147) (Operand.tmp 149) 3, type := 3, pos := "law.go:200", after := #[{ on := 9, ground := Ground.data }, { on := 11, ground := Ground.data }, { on := 5, ground := Ground.guard }], guard := some (5, false) }
abbrev jka13 : Oper := { dst := some 151, op := Op.binOp BinOp.gtr 3 (Operand.tmp 145) (Operand.tmp 150) 3, type := 4, pos := "law.go:200", after := #[{ on := 7, ground := Ground.data }, { on := 12, ground := Ground.data }, { on := 5, ground := Ground.guard }], guard := some (5, false) }
abbrev jka14 : Oper := { dst := some 152, op := Op.pick (Operand.tmp 143) (Operand.const (Value.bool true)) (Operand.tmp 151), type := 4, pos := "law.go:200", after := #[{ on := 5, ground := Ground.data }, { on := 13, ground := Ground.data }], guard := none }
abbrev jka15 : Oper := { dst := some 153, op := Op.move (Operand.tmp 152), type := 4, pos := "law.go:200", after := #[{ on := 14, ground := Ground.data }, { on := 5, ground := Ground.chain }], guard := none }
abbrev jka16 : Oper := { dst := some 154, op := Op.move (Operand.tmp 20), type := 36, pos := "law.go:200", after := #[{ on := 15, ground := Ground.guard }], guard := some (15, false) }
abbrev jka17 : Oper := { dst := some 155, op := Op.move (Operand.tmp 11), type := 36, pos := "law.go:200", after := #[{ on := 15, ground := Ground.guard }], guard := some (15, false) }
abbrev jka18 : Oper := { dst := some 156, op := Op.call { callee := Callee.builtin Builtin.len, args := #[Operand.tmp 155], argTypes := #[36] }, type := 3, pos := "law.go:200", after := #[{ on := 17, ground := Ground.data }, { on := 15, ground := Ground.guard }], guard := some (15, false) }
abbrev jka19 : Oper := { dst := some 157, op := Op.slice 36 (Operand.tmp 154) none (some (Operand.tmp 156)) none, type := 36, pos := "law.go:200", after := #[{ on := 16, ground := Ground.data }, { on := 18, ground := Ground.data }, { on := 15, ground := Ground.guard }], guard := some (15, false) }
abbrev jka20 : Oper := { dst := some 158, op := Op.move (Operand.tmp 11), type := 36, pos := "law.go:200", after := #[{ on := 15, ground := Ground.guard }], guard := some (15, false) }
abbrev jka21 : Oper := { dst := some 159, op := Op.call { callee := Callee.value (Operand.func 28), args := #[Operand.tmp 157, Operand.tmp 158], argTypes := #[36, 36] }, type := 4, pos := "law.go:200", after := #[{ on := 19, ground := Ground.data }, { on := 20, ground := Ground.data }, { on := 15, ground := Ground.chain }, { on := 15, ground := Ground.guard }], guard := some (15, false) }
abbrev jka22 : Oper := { dst := some 160, op := Op.unOp UnOp.not 4 (Operand.tmp 159), type := 4, pos := "law.go:200", after := #[{ on := 21, ground := Ground.data }, { on := 15, ground := Ground.guard }], guard := some (15, false) }
abbrev jka23 : Oper := { dst := some 161, op := Op.pick (Operand.tmp 153) (Operand.const (Value.bool true)) (Operand.tmp 160), type := 4, pos := "law.go:200", after := #[{ on := 15, ground := Ground.data }, { on := 22, ground := Ground.data }], guard := none }
abbrev jka24 : Oper := { dst := some 162, op := Op.move (Operand.tmp 161), type := 4, pos := "law.go:200", after := #[{ on := 23, ground := Ground.data }, { on := 21, ground := Ground.chain }], guard := none }
abbrev jka25 : Oper := { dst := some 163, op := Op.move (Operand.tmp 20), type := 36, pos := "law.go:200", after := #[{ on := 24, ground := Ground.guard }], guard := some (24, false) }
abbrev jka26 : Oper := { dst := some 164, op := Op.move (Operand.tmp 11), type := 36, pos := "law.go:200", after := #[{ on := 24, ground := Ground.guard }], guard := some (24, false) }
abbrev jka27 : Oper := { dst := some 165, op := Op.call { callee := Callee.builtin Builtin.len, args := #[Operand.tmp 164], argTypes := #[36] }, type := 3, pos := "law.go:200", after := #[{ on := 26, ground := Ground.data }, { on := 24, ground := Ground.guard }], guard := some (24, false) }
abbrev jka28 : Oper := { dst := some 166, op := Op.slice 36 (Operand.tmp 163) (some (Operand.tmp 165)) none none, type := 36, pos := "law.go:200", after := #[{ on := 25, ground := Ground.data }, { on := 27, ground := Ground.data }, { on := 24, ground := Ground.guard }], guard := some (24, false) }
abbrev jka29 : Oper := { dst := some 167, op := Op.move (Operand.tmp 13), type := 36, pos := "law.go:200", after := #[{ on := 24, ground := Ground.guard }], guard := some (24, false) }
abbrev jka30 : Oper := { dst := some 168, op := Op.move (Operand.tmp 20), type := 36, pos := "law.go:200", after := #[{ on := 24, ground := Ground.guard }], guard := some (24, false) }
abbrev jka31 : Oper := { dst := some 169, op := Op.call { callee := Callee.builtin Builtin.len, args := #[Operand.tmp 168], argTypes := #[36] }, type := 3, pos := "law.go:200", after := #[{ on := 30, ground := Ground.data }, { on := 24, ground := Ground.guard }], guard := some (24, false) }
abbrev jka32 : Oper := { dst := some 170, op := Op.move (Operand.tmp 11), type := 36, pos := "law.go:200", after := #[{ on := 24, ground := Ground.guard }], guard := some (24, false) }
abbrev jka33 : Oper := { dst := some 171, op := Op.call { callee := Callee.builtin Builtin.len, args := #[Operand.tmp 170], argTypes := #[36] }, type := 3, pos := "law.go:200", after := #[{ on := 32, ground := Ground.data }, { on := 24, ground := Ground.guard }], guard := some (24, false) }
abbrev jka34 : Oper := { dst := some 172, op := Op.binOp BinOp.sub 3 (Operand.tmp 169) (Operand.tmp 171) 3, type := 3, pos := "law.go:200", after := #[{ on := 31, ground := Ground.data }, { on := 33, ground := Ground.data }, { on := 24, ground := Ground.guard }], guard := some (24, false) }
abbrev jka35 : Oper := { dst := some 173, op := Op.slice 36 (Operand.tmp 167) none (some (Operand.tmp 172)) none, type := 36, pos := "law.go:200", after := #[{ on := 29, ground := Ground.data }, { on := 34, ground := Ground.data }, { on := 24, ground := Ground.guard }], guard := some (24, false) }
abbrev jka36 : Oper := { dst := some 174, op := Op.call { callee := Callee.value (Operand.func 28), args := #[Operand.tmp 166, Operand.tmp 173], argTypes := #[36, 36] }, type := 4, pos := "law.go:200", after := #[{ on := 28, ground := Ground.data }, { on := 35, ground := Ground.data }, { on := 24, ground := Ground.chain }, { on := 24, ground := Ground.guard }], guard := some (24, false) }
abbrev jka37 : Oper := { dst := some 175, op := Op.unOp UnOp.not 4 (Operand.tmp 174), type := 4, pos := "law.go:200", after := #[{ on := 36, ground := Ground.data }, { on := 24, ground := Ground.guard }], guard := some (24, false) }
abbrev jka38 : Oper := { dst := some 176, op := Op.pick (Operand.tmp 162) (Operand.const (Value.bool true)) (Operand.tmp 175), type := 4, pos := "law.go:200", after := #[{ on := 24, ground := Ground.data }, { on := 37, ground := Ground.data }], guard := none }

theorem EsIn.drop {F : List Nat} {w : World} {b n m : Nat} {es : List Ev} (h : EsIn F w (some ⟨b, 0, none⟩) n es) (hm : m ≤ n) : EsIn F w (some ⟨b, m * 8, none⟩) (n - m) (es.drop m) := by
  refine ⟨by rw [List.length_drop, ← h.len], ?_, by have := h.few; omega⟩
  rcases h.row with c | ⟨b2, off, e, h1, h2, h3⟩
  · exact .inl (by omega)
  · obtain ⟨rfl, rfl⟩ : b = b2 ∧ off = 0 := by simp at e; omega
    refine .inr ⟨b, m * 8, rfl, fun i u hu => ?_, h2, h3⟩
    have h5 := h1 (m * 8 + i) u (by
      rw [← List.take_append_drop m es, ecells_app, List.getElem?_append_right (by rw [ecells_len, List.length_take]; have := h.len; omega)]
      rw [show m * 8 + i - (ecells (List.take m es)).length = i by rw [ecells_len, List.length_take]; have := h.len; omega]
      exact hu)
    rw [Nat.zero_add] at h5
    exact h5
theorem mask3b (z : Int) : bits .and .i64 z 3 = z % 4 := by
  have := i64_mask z 2 (by omega)
  simpa using this
theorem mask127 (z : Int) : bits .and .i64 z 127 = z % 128 := by
  have := i64_mask z 7 (by omega)
  simpa using this
theorem row_any {w0 w : World} {C : Ass} {ao : Option Addr} {k cap : Nat} {es : List Ev} (h : At w0 ((rowE TE 8 (.slice ao k cap) es.length (ecells es)).star C) w) : (ao = Option.none ∧ k = 0 ∧ cap = 0 ∧ es.length = 0) ∨ ∃ g, ao = some ⟨g, 0, none⟩ ∧ k = es.length ∧ k ≤ cap := by
  obtain ⟨_, ⟨F1, F2, rfl, ⟨h1, rfl⟩, _, _⟩, _⟩ := h
  rcases h1.2 with ⟨e, h0⟩ | ⟨g, c, cur, e, _, hg, hle, _⟩
  · obtain ⟨rfl, rfl, rfl⟩ : ao = Option.none ∧ k = 0 ∧ cap = 0 := by simpa using e
    exact .inl ⟨rfl, rfl, rfl, h0⟩
  · obtain ⟨rfl, rfl, rfl⟩ : ao = some ⟨g, 0, none⟩ ∧ k = es.length ∧ cap = c := by simpa using e
    exact .inr ⟨g, rfl, rfl, hle⟩
set_option maxRecDepth 100000 in
set_option maxHeartbeats 8000000 in
theorem jkeepslaw (ao bo : Option Addr) (cap capb : Nat) (zs ms : List Int) (w : World) (hg : Gd w) (hA : IArg w ao zs) (hB : IArg w bo ms) :
    Calls Tryz.prog 4 #[.slice ao zs.length cap, .slice bo ms.length capb] w fun e w' => e = .returned (.bool true) ∧ Below w.heap.size w w' := by
  have hfew := hA.few
  have HA := Lib.hid hA
  have HB := Lib.hid hB
  have HG := Lib.hid hg
  obtain ⟨s1, s2, s3, s4, s5, s6⟩ := start_safe (most := 65536) (n := 60) (by decide) (by decide) (by decide)
  have hok0 : (Dk.new 60).Ok := Dk.ok_new (by omega) (by omega)
  have HO := Lib.hid (fun (C : Ass) (W : World) (pb pd : Nat) (hC : C.Good) (h : At w ((BD pb pd 65536 [] (Dk.new 60)).star C) W) => (show Calls Tryz.prog 34 #[.pointer (some ⟨pb, 0, none⟩), .pointer (some ⟨pd, 0, none⟩)] W (fun e w' => ∃ p : Nat, e = .returned (.tuple #[.pointer (some ⟨p, 0, none⟩), .int .i64 0]) ∧ At w ((BD pb pd 65536 (joT 65536 [] (Dk.new 60)) (joD 65536 [] (Dk.new 60))).star ((JO p pb pd 58 (joJ 65536 [] (Dk.new 60))).star C)) w') from by have := jlopen hC hg h hok0 (by simp) (by simp [Dk.new]) s1; exact this))
  have HS := Lib.hid (And.intro s2 (And.intro s3 (And.intro s4 s5)))
  clear hg s1 s2 s3 s4 s5 s6 hok0 hA hB
  go_enter Tryz.func4, Tryz.ntmps4
  go_wp2_with (first
    | (go_at_call 12; (with_reducible refine (awake11 _ HG.out).mono ?_); rintro e w1 ⟨rfl, hb0⟩)
    | (go_at_call 10; (with_reducible refine (twin_none11 65536 _ (by omega) (by omega)).mono ?_); rintro e w1 ⟨pb, qb, rfl, hb⟩)
    | (go_at_call 11; (with_reducible refine (pair_at11 _ 60 (by omega) _ (by omega) (by omega)).mono ?_); rintro e w2 ⟨pd, qd, rfl, hp⟩; have hS := (lawdrop ((lawstart hb hp).imp (Ass.imp.comm _ _)).drop).under hb0; clear hb hp hb0)
    | (go_at_call 34; (with_reducible refine (HO.out _ _ _ _ emp_good hS).mono ?_); rintro e w3 ⟨p1, rfl, hS1⟩; replace hS := hS1; clear hS1)
    | (go_at_call 16; (with_reducible refine (lnum _ _).mono ?_); rintro e w9 ⟨rfl, rfl⟩))
  obtain ⟨g1, g2, g3, g4⟩ := HS.out
  have hi : ∃ T D J, Safe T D J ∧ J.boot = 1 ∧ J.all = [] ∧ D.kept.length = 60 ∧ T.length ≤ 1 ∧ At w ((BD pb pd 65536 T D).star ((JO p1 pb pd 58 J).star ((rowE TE 8 (.slice Option.none 0 0) ([] : List Ev).length (ecells [])).star emp))) w3 := ⟨_, _, _, g2, by rw [g1], by rw [g1], g4, g3, hS.erow0E.imp ((Ass.imp.swap _ _ _).trans ((Ass.imp.swap _ _ _).under _))⟩
  clear hS g1 g2 g3 g4 HS HO
  go_loopw [9, 11, 12] (fun x9 x11 x12 wr => ∃ (i pj : Nat) (T : List ByteArray) (D : Dk) (J : Jn) (L : List Ev) (k : Nat) (a2 : Option Addr) (c2 : Nat), i ≤ zs.length ∧ i ≤ 20 ∧ x12 = .int .i64 (i : Int) ∧ x9 = .pointer (some ⟨pj, 0, none⟩) ∧ x11 = .slice a2 k c2 ∧ Safe T D J ∧ J.boot ≤ 1 + 2 * (i : Int) ∧ J.all = L ∧ L.length = k ∧ k ≤ 2 * i ∧ D.kept.length = 60 ∧ T.length ≤ 1 + 4 * i ∧ At w ((BD pb pd 65536 T D).star ((JO pj pb pd 58 J).star ((rowE TE 8 (.slice a2 k c2) L.length (ecells L)).star emp))) wr) (fun _ _ x12 _ => 21 - (intOf x12).toNat)
  case atStart =>
    obtain ⟨T, D, J, q1, q2, q3, q4, q5, q6⟩ := hi
    exact ⟨0, p1, T, D, J, [], 0, _, _, Nat.zero_le _, by omega, rfl, rfl, rfl, q1, by omega, q3, rfl, by omega, q4, by omega, q6⟩
  case round =>
    clear hi
    obtain ⟨i, pj, T, D, J, L, k, a2, c2, hil, hi20, rfl, rfl, rfl, hSf, hBt, hAl, hLk, hk2, hKl, hTl, hS⟩ := hrel
    have hLl : J.all.length = k := by rw [hAl]; exact hLk
    have hjok : JOk T D 58 J := hSf.jok (by omega) (by rw [hKl]; rfl)
    by_cases hgo : i < zs.length ∧ i < 20
    · obtain ⟨hlt, hlt20⟩ := hgo
      obtain ⟨bb, off, zi, rfl, _, _, hcw⟩ := HA.out.at hlt
      have HZ := Lib.hid hcw
      have m1 := mask1 zi
      obtain ⟨mm, hmm⟩ : ∃ mm : Nat, zi % 2 = (mm : Int) := ⟨(zi % 2).toNat, by omega⟩
      have hm1 : mm ≤ 1 := by omega
      have hI20 : (i : Int) < 20 := by omega
      have hIz : (i : Int) < (zs.length : Int) := by omega
      have HF := Lib.hid (And.intro hSf (And.intro hBt (And.intro hAl (And.intro hLk (And.intro hk2 (And.intro hKl (And.intro hTl hjok)))))))
      have hc := hcw _ hS.bel
      have hS0 := hS.erow0E
      clear hcw hSf hBt hAl hLk hk2 hKl hTl hjok hLl hS
      have h10 : IntKind.i64.wrap (10 * (i : Int)) = 10 * (i : Int) := by rw [IntKind.wrap_i64]; omega
      have hw10 : wrap64 (10 * (i : Int)) = 10 * (i : Int) := by unfold wrap64; omega
      go_wp2
      go_loopw [13, 14] (fun x13 x14 wr2 => ∃ (q : Nat) (a3 : Option Addr) (c3 : Nat), q ≤ mm + 1 ∧ x14 = .int .i64 (q : Int) ∧ x13 = .slice a3 q c3 ∧ At w ((rowE TE 8 (.slice a3 q c3) (spL (10 * (i : Int)) q).length (ecells (spL (10 * (i : Int)) q))).star ((BD pb pd 65536 T D).star ((JO pj pb pd 58 J).star ((rowE TE 8 (.slice a2 k c2) L.length (ecells L)).star emp)))) wr2) (fun _ x14 _ => mm + 1 - (intOf x14).toNat)
      case atStart => exact ⟨0, _, _, Nat.zero_le _, rfl, rfl, hS0⟩
      case round =>
        clear hS0 hc
        obtain ⟨q, a3, c3, hqm, rfl, rfl, hS⟩ := hrel
        have hc := HZ.out _ hS.bel
        by_cases hq : q ≤ mm
        · have hqI : (q : Int) ≤ (mm : Int) := by omega
          have HSr := Lib.hid hS
          clear hS
          have hwq : IntKind.i64.wrap (10 * (i : Int) + (q : Int)) = 10 * (i : Int) + (q : Int) := by rw [IntKind.wrap_i64]; omega
          go_wp2_with (at_builtin; refine app_evA ((BD_good _ _ _ _ _).star ((JO_good _ _ _ _ _).star ((rowE_good _ _ _ _ _).star emp_good))) rfl _ _ rfl a3 q c3 (spL (10 * (i : Int)) q) (spE (10 * (i : Int) + (q : Int))) rfl rfl HSr.out (by rw [spL_len]; omega) ?_; intro a4 c4 w4 hS3)
          go_round
          case rel => exact ⟨q + 1, a4, c4, by omega, by go_num, rfl, hS3⟩
          case measure => simp [intOf]; omega
        · obtain rfl : q = mm + 1 := by omega
          have hqI : ¬ (((mm + 1 : Nat) : Nat) : Int) ≤ (mm : Int) := by omega
          have hlen := spL_len (10 * (i : Int)) (mm + 1)
          have hmay := spL_may (s := 10 * (i : Int)) (k := mm + 1) (by omega) (by omega)
          obtain ⟨hSf, hBt, hAl, hLk, hk2, hKl, hTl, hjok⟩ := HF.out
          have hLl : J.all.length = k := by rw [hAl]; exact hLk
          have m3 := mask3b (zi / 2)
          by_cases hw : 0 < zi / 2 % 4
          · obtain ⟨e1, e2, e3, e4, e5, e6, _⟩ := hSf.append (most := 65536) (spL (10 * (i : Int)) (mm + 1)) hmay (by rw [hlen]; omega) (by rw [hlen]; omega) (by rw [hlen]; omega) (by omega)
            have HAp := Lib.hid (fun W (h : At w ((rowE TE 8 (.slice a3 (mm + 1) c3) (spL (10 * (i : Int)) (mm + 1)).length (ecells (spL (10 * (i : Int)) (mm + 1)))).star ((BD pb pd 65536 T D).star ((JO pj pb pd 58 J).star ((rowE TE 8 (.slice a2 k c2) L.length (ecells L)).star emp)))) W) => (show Calls Tryz.prog 15 #[.pointer (some ⟨pj, 0, none⟩), .slice a3 (mm + 1) c3] W (fun e w' => e = .returned (.int .i64 0) ∧ At w ((rowE TE 8 (.slice a2 k c2) L.length (ecells L)).star ((rowE TE 8 (.slice a3 (mm + 1) c3) (spL (10 * (i : Int)) (mm + 1)).length (ecells (spL (10 * (i : Int)) (mm + 1)))).star ((BD pb pd 65536 (jpT 65536 T J D (spL (10 * (i : Int)) (mm + 1))) (apD 65536 T J D (spL (10 * (i : Int)) (mm + 1)))).star ((JO pj pb pd 58 (apJ 65536 T J D (spL (10 * (i : Int)) (mm + 1)))).star emp)))) w') from by
              have h1 := h.imp ((Ass.imp.swap _ _ _).trans ((Ass.imp.swap _ _ _).under _))
              have h2 := jlappR ((rowE_good _ _ _ _ _).star emp_good) a3 c3 (spL (10 * (i : Int)) (mm + 1)) (by rw [hlen]; rw [hlen] at h1; exact h1) hjok (by omega)
              rw [e1, hlen] at h2
              rw [hlen]
              exact h2.mono fun e w' ⟨q1, q2⟩ => ⟨q1, q2.imp ((Ass.imp.up2 _ _ _ _).trans (((Ass.imp.up2 _ _ _ _).under _).trans (Ass.imp.swap _ _ _)))⟩))
            generalize jpT 65536 T J D (spL (10 * (i : Int)) (mm + 1)) = T2 at *
            generalize apD 65536 T J D (spL (10 * (i : Int)) (mm + 1)) = D2 at *
            generalize apJ 65536 T J D (spL (10 * (i : Int)) (mm + 1)) = J2 at *
            rw [hlen] at e5
            have HN := Lib.hid (show Safe T2 D2 J2 ∧ J2.boot ≤ 1 + 2 * ((i + 1 : Nat) : Int) ∧ J2.all = L ++ spL (10 * (i : Int)) (mm + 1) ∧ (L ++ spL (10 * (i : Int)) (mm + 1)).length = k + (mm + 1) ∧ k + (mm + 1) ≤ 2 * (i + 1) ∧ D2.kept.length = 60 ∧ T2.length ≤ 1 + 4 * (i + 1) from ⟨e6, by omega, by rw [e2, hAl], by rw [List.length_append, hlen, hLk], by omega, by rw [e4, hKl], by omega⟩)
            have hfew2 : L.length + (spL (10 * (i : Int)) (mm + 1)).length ≤ 1000 := by rw [hlen]; omega
            clear e1 e2 e3 e4 e5 e6 hSf hBt hAl hLk hk2 hKl hTl hjok hLl hlen hmay
            go_wp2_with (first
              | (go_at_call 15; (with_reducible refine (HAp.out _ hS).mono ?_); rintro e w4 ⟨rfl, hS4⟩)
              | (at_builtin; refine app_evR ((BD_good _ _ _ _ _).star ((JO_good _ _ _ _ _).star emp_good)) rfl _ _ rfl a2 k c2 L a3 (mm + 1) c3 (spL (10 * (i : Int)) (mm + 1)) rfl rfl hS4 hfew2 ?_; intro a4 c4 w5 hS5)
              | (go_at_call 16; (with_reducible refine (lnum _ _).mono ?_); rintro e w9 ⟨rfl, rfl⟩))
            go_round
            case rel => exact ⟨i + 1, pj, T2, D2, J2, L ++ spL (10 * (i : Int)) (mm + 1), k + (mm + 1), a4, c4, by omega, by omega, by go_num, rfl, rfl, HN.out.1, HN.out.2.1, HN.out.2.2.1, HN.out.2.2.2.1, HN.out.2.2.2.2.1, HN.out.2.2.2.2.2.1, HN.out.2.2.2.2.2.2, hS5.drop2.imp ((Ass.imp.swap _ _ _).trans ((Ass.imp.swap _ _ _).under _))⟩
            case measure => simp [intOf]; omega
          · obtain ⟨ge, rfl, -, hMc⟩ := row_big hS (by rw [hlen]; omega)
            obtain ⟨e1, e2⟩ := hSf.cut (n := 60) hKl (by decide) (es := spL (10 * (i : Int)) (mm + 1)) (by intro e; have := congrArg List.length e; rw [hlen] at this; simp at this) hmay (by rw [hlen]; omega) (t0 := 3 + 4 * i) (by rw [hlen]; omega) (by omega) (by omega)
            have HWr := Lib.hid (fun W (h : At w ((rowE TE 8 (.slice (some ⟨ge, 0, none⟩) (mm + 1) c3) (spL (10 * (i : Int)) (mm + 1)).length (ecells (spL (10 * (i : Int)) (mm + 1)))).star ((BD pb pd 65536 T D).star ((JO pj pb pd 58 J).star ((rowE TE 8 (.slice a2 k c2) L.length (ecells L)).star emp)))) W) => (show Calls Tryz.prog 18 #[.pointer (some ⟨pj, 0, none⟩), .slice (some ⟨ge, 0, none⟩) (mm + 1) c3] W (fun e w' => e = .returned (.int .i64 0) ∧ At w ((BD pb pd 65536 (jpT 65536 T J D (spL (10 * (i : Int)) (mm + 1))) (wtD 65536 T J D (spL (10 * (i : Int)) (mm + 1)))).star ((rowE TE 8 (.slice (some ⟨ge, 0, none⟩) (mm + 1) c3) (spL (10 * (i : Int)) (mm + 1)).length (ecells (spL (10 * (i : Int)) (mm + 1)))).star ((rowE TE 8 (.slice a2 k c2) L.length (ecells L)).star emp))) w') from by
              have h1 := h.imp ((Ass.imp.swap _ _ _).trans ((Ass.imp.swap _ _ _).under _))
              have h2 := jlwrtR ((rowE_good _ _ _ _ _).star emp_good) (some ⟨ge, 0, none⟩) c3 (spL (10 * (i : Int)) (mm + 1)) (by rw [hlen]; rw [hlen] at h1; exact h1) hjok (by omega)
              rw [e1, hlen] at h2
              rw [hlen]
              exact h2.mono fun e w' ⟨q1, q2⟩ => ⟨q1, q2.drop2⟩))
            generalize jpT 65536 T J D (spL (10 * (i : Int)) (mm + 1)) = T1 at *
            generalize wtD 65536 T J D (spL (10 * (i : Int)) (mm + 1)) = D1 at *
            have m127 := mask127 (zi / 8)
            obtain ⟨tv, htv, htv0, htv1⟩ : ∃ tv : Int, zi / 8 % 128 = tv ∧ 0 ≤ tv ∧ tv ≤ 127 := ⟨_, rfl, by omega, by omega⟩
            rw [htv] at m127
            clear htv
            have hkey : ∃ mv : Int, 0 ≤ mv ∧ mv ≤ 7 ∧ ((¬ (i : Int) < (ms.length : Int) ∧ mv = 0) ∨ ((i : Int) < (ms.length : Int) ∧ ∃ bb2 off2 zm, bo = some ⟨bb2, off2, none⟩ ∧ bits .and .i64 zm 7 = mv ∧ ∀ W, Below w.heap.size w W → W.cell? ⟨bb2, off2 + i, none⟩ = some (.int .i64 zm))) := by
              by_cases hb : i < ms.length
              · obtain ⟨bb2, off2, zm, rfl, _, _, hcm⟩ := HB.out.at hb
                exact ⟨zm % 8, by omega, by omega, .inr ⟨by omega, bb2, off2, zm, rfl, mask7 zm, hcm⟩⟩
              · exact ⟨0, by omega, by omega, .inl ⟨by omega, rfl⟩⟩
            obtain ⟨mv, hmv0, hmv7, hcase⟩ := hkey
            obtain ⟨q, hq, hRd⟩ := e2 mv tv hmv0 htv0
            rw [hlen] at hq
            have hCr := fun C W (hC : Ass.Good C) (h : At w ((BD pb pd 65536 T1 D1).star C) W) => jldisk hC (kpcrash pd D1 mv tv (by omega) (by omega)) h
            have hRs := fun C W (hC : Ass.Good C) (h : At w ((BD pb pd 65536 T1 (D1.cr mv tv)).star C) W) => jldisk hC (kprestart pd (D1.cr mv tv)) h
            have HCr := Lib.hid hCr
            have HRs := Lib.hid hRs
            clear hCr hRs
            generalize (D1.cr mv tv).rs = D3 at *
            have hG : (L ++ (spL (10 * (i : Int)) (mm + 1)).take q).length = k + q := by rw [List.length_append, List.length_take, hlen, hLk]; omega
            have hOp := fun C W (hC : Ass.Good C) (h : At w ((BD pb pd 65536 T1 D3).star C) W) => jlopen (w0 := w) hC HG.out h hRd.ok (by have := hRd.tl; omega) (by rw [hRd.dry]; decide) hRd.e
            rw [hRd.len] at hOp
            obtain ⟨y1, y2, y3, y4, y5, y6⟩ := hRd.safe.reopen (most := 65536) (by have := hRd.tl2; omega) (by rw [hRd.boot]; omega) (by have := hRd.tl2; omega)
            have x1 := hRd.safe
            have x2 := hRd.boot
            have x3 := hRd.all
            have x4 := hRd.dlen
            have x5 := hRd.tl2
            clear hRd
            generalize joT 65536 T1 D3 = T4 at *
            generalize joD 65536 T1 D3 = D4 at *
            generalize joJ 65536 T1 D3 = J4 at *
            rw [hAl] at x3
            have hal := x3
            have hjk4 : JOk T4 D4 58 J4 := x1.jok (by omega) (by rw [x4]; rfl)
            have hOp5 := fun C W (hC : Ass.Good C) (h : At w ((BD pb pd 65536 T4 D4).star C) W) => jlopen (w0 := w) hC HG.out h hjk4.ok (by omega) (by have := hjk4.wl; omega) y1
            rw [x4] at hOp5 y4
            have z1 : (joJ 65536 T4 D4).boot = J4.boot + 1 := by rw [y2]
            have z2 : (joJ 65536 T4 D4).all = J4.all := by rw [y2]
            generalize joT 65536 T4 D4 = T5 at *
            generalize joD 65536 T4 D4 = D5 at *
            generalize joJ 65536 T4 D4 = J5 at *
            rw [hal] at z2
            have hbt0 := x1.b1
            obtain ⟨bt, hbt⟩ : ∃ bt : Int, J4.boot = bt := ⟨_, rfl⟩
            have hbw : IntKind.i64.wrap (bt + 1) = bt + 1 := by rw [IntKind.wrap_i64]; omega
            rw [hbt] at z1
            have HN := Lib.hid (show Safe T5 D5 J5 ∧ J5.boot ≤ 1 + 2 * ((i + 1 : Nat) : Int) ∧ J5.all = (L ++ (spL (10 * (i : Int)) (mm + 1)).take q) ∧ (L ++ (spL (10 * (i : Int)) (mm + 1)).take q).length = k + q ∧ k + q ≤ 2 * (i + 1) ∧ D5.kept.length = 60 ∧ T5.length ≤ 1 + 4 * (i + 1) from ⟨y6, by rw [z1]; omega, z2, hG, by omega, y4, by omega⟩)
            have HO5 := Lib.hid (fun ag cg x W (h : At w ((BD pb pd 65536 T4 D4).star ((rowE TE 8 (.slice ag (k + q) cg) (L ++ (spL (10 * (i : Int)) (mm + 1)).take q).length (ecells (L ++ (spL (10 * (i : Int)) (mm + 1)).take q))).star ((JO x pb pd 58 J4).star ((rowE TE 8 (.slice (some ⟨ge, 0, none⟩) (mm + 1) c3) (spL (10 * (i : Int)) (mm + 1)).length (ecells (spL (10 * (i : Int)) (mm + 1)))).star ((rowE TE 8 (.slice a2 k c2) L.length (ecells L)).star emp))))) W) => (show Calls Tryz.prog 34 #[.pointer (some ⟨pb, 0, none⟩), .pointer (some ⟨pd, 0, none⟩)] W (fun e w' => ∃ p : Nat, e = .returned (.tuple #[.pointer (some ⟨p, 0, none⟩), .int .i64 0]) ∧ At w ((BD pb pd 65536 T5 D5).star ((JO p pb pd 58 J5).star ((rowE TE 8 (.slice ag (k + q) cg) (L ++ (spL (10 * (i : Int)) (mm + 1)).take q).length (ecells (L ++ (spL (10 * (i : Int)) (mm + 1)).take q))).star ((JO x pb pd 58 J4).star ((rowE TE 8 (.slice (some ⟨ge, 0, none⟩) (mm + 1) c3) (spL (10 * (i : Int)) (mm + 1)).length (ecells (spL (10 * (i : Int)) (mm + 1)))).star ((rowE TE 8 (.slice a2 k c2) L.length (ecells L)).star emp)))))) w') from hOp5 _ W ((rowE_good _ _ _ _ _).star ((JO_good _ _ _ _ _).star ((rowE_good _ _ _ _ _).star ((rowE_good _ _ _ _ _).star emp_good)))) h))
            have HEv5 := Lib.hid (fun ag cg x y W (h : At w ((BD pb pd 65536 T5 D5).star ((JO y pb pd 58 J5).star ((rowE TE 8 (.slice ag (k + q) cg) (L ++ (spL (10 * (i : Int)) (mm + 1)).take q).length (ecells (L ++ (spL (10 * (i : Int)) (mm + 1)).take q))).star ((JO x pb pd 58 J4).star ((rowE TE 8 (.slice (some ⟨ge, 0, none⟩) (mm + 1) c3) (spL (10 * (i : Int)) (mm + 1)).length (ecells (spL (10 * (i : Int)) (mm + 1)))).star ((rowE TE 8 (.slice a2 k c2) L.length (ecells L)).star emp)))))) W) => (show Calls Tryz.prog 26 #[.pointer (some ⟨y, 0, none⟩)] W (fun e w' => ∃ ah ch, e = .returned (.slice ah (k + q) ch) ∧ At w ((rowE TE 8 (.slice ah (k + q) ch) (L ++ (spL (10 * (i : Int)) (mm + 1)).take q).length (ecells (L ++ (spL (10 * (i : Int)) (mm + 1)).take q))).star ((BD pb pd 65536 T5 D5).star ((JO y pb pd 58 J5).star ((rowE TE 8 (.slice ag (k + q) cg) (L ++ (spL (10 * (i : Int)) (mm + 1)).take q).length (ecells (L ++ (spL (10 * (i : Int)) (mm + 1)).take q))).star ((JO x pb pd 58 J4).star ((rowE TE 8 (.slice (some ⟨ge, 0, none⟩) (mm + 1) c3) (spL (10 * (i : Int)) (mm + 1)).length (ecells (spL (10 * (i : Int)) (mm + 1)))).star ((rowE TE 8 (.slice a2 k c2) L.length (ecells L)).star emp))))))) w') from by
              have := jlevents ((rowE_good _ _ _ _ _).star ((JO_good _ _ _ _ _).star ((rowE_good _ _ _ _ _).star ((rowE_good _ _ _ _ _).star emp_good)))) h (by rw [z2, hG]; omega)
              rw [z2, hG] at this
              rw [hG]
              exact this))
            have HSm5 := Lib.hid (fun ag cg x y W ah ch (h : At w ((rowE TE 8 (.slice ah (k + q) ch) (L ++ (spL (10 * (i : Int)) (mm + 1)).take q).length (ecells (L ++ (spL (10 * (i : Int)) (mm + 1)).take q))).star ((BD pb pd 65536 T5 D5).star ((JO y pb pd 58 J5).star ((rowE TE 8 (.slice ag (k + q) cg) (L ++ (spL (10 * (i : Int)) (mm + 1)).take q).length (ecells (L ++ (spL (10 * (i : Int)) (mm + 1)).take q))).star ((JO x pb pd 58 J4).star ((rowE TE 8 (.slice (some ⟨ge, 0, none⟩) (mm + 1) c3) (spL (10 * (i : Int)) (mm + 1)).length (ecells (spL (10 * (i : Int)) (mm + 1)))).star ((rowE TE 8 (.slice a2 k c2) L.length (ecells L)).star emp))))))) W) => (show Calls Tryz.prog 28 #[.slice ah (k + q) ch, .slice ag (k + q) cg] W (fun e w' => e = .returned (.bool true) ∧ At w ((BD pb pd 65536 T5 D5).star ((JO y pb pd 58 J5).star ((rowE TE 8 (.slice ag (k + q) cg) (L ++ (spL (10 * (i : Int)) (mm + 1)).take q).length (ecells (L ++ (spL (10 * (i : Int)) (mm + 1)).take q))).star ((JO x pb pd 58 J4).star ((rowE TE 8 (.slice (some ⟨ge, 0, none⟩) (mm + 1) c3) (spL (10 * (i : Int)) (mm + 1)).length (ecells (spL (10 * (i : Int)) (mm + 1)))).star ((rowE TE 8 (.slice a2 k c2) L.length (ecells L)).star emp)))))) w') from
              (lsame_ev (esin_at h (by rw [hG]; omega)) (esin_at h.drop.drop.drop (by rw [hG]; omega))).mono fun e w' ⟨q1, q2⟩ => ⟨by rw [q1]; simp, h.drop.lay ((BD_good _ _ _ _ _).star ((JO_good _ _ _ _ _).star ((rowE_good _ _ _ _ _).star ((JO_good _ _ _ _ _).star ((rowE_good _ _ _ _ _).star ((rowE_good _ _ _ _ _).star emp_good)))))) q2⟩))
            have HBy := Lib.hid (fun ag cg x y W (h : At w ((BD pb pd 65536 T5 D5).star ((JO y pb pd 58 J5).star ((rowE TE 8 (.slice ag (k + q) cg) (L ++ (spL (10 * (i : Int)) (mm + 1)).take q).length (ecells (L ++ (spL (10 * (i : Int)) (mm + 1)).take q))).star ((JO x pb pd 58 J4).star ((rowE TE 8 (.slice (some ⟨ge, 0, none⟩) (mm + 1) c3) (spL (10 * (i : Int)) (mm + 1)).length (ecells (spL (10 * (i : Int)) (mm + 1)))).star ((rowE TE 8 (.slice a2 k c2) L.length (ecells L)).star emp)))))) W) => (show Calls Tryz.prog 29 #[.pointer (some ⟨y, 0, none⟩)] W (fun e w' => e = .returned (.int .i64 (bt + 1)) ∧ W = w') from (jlboot h.drop).mono fun e w' ⟨q1, q2⟩ => ⟨by rw [q1, z1], q2⟩))
            have HBx := Lib.hid (fun ag cg x y W (h : At w ((BD pb pd 65536 T5 D5).star ((JO y pb pd 58 J5).star ((rowE TE 8 (.slice ag (k + q) cg) (L ++ (spL (10 * (i : Int)) (mm + 1)).take q).length (ecells (L ++ (spL (10 * (i : Int)) (mm + 1)).take q))).star ((JO x pb pd 58 J4).star ((rowE TE 8 (.slice (some ⟨ge, 0, none⟩) (mm + 1) c3) (spL (10 * (i : Int)) (mm + 1)).length (ecells (spL (10 * (i : Int)) (mm + 1)))).star ((rowE TE 8 (.slice a2 k c2) L.length (ecells L)).star emp)))))) W) => (show Calls Tryz.prog 29 #[.pointer (some ⟨x, 0, none⟩)] W (fun e w' => e = .returned (.int .i64 bt) ∧ W = w') from (jlboot h.drop.drop.drop).mono fun e w' ⟨q1, q2⟩ => ⟨by rw [q1, hbt], q2⟩))
            have HCp := Lib.hid (fun ag cg x y W (hag : ag = Option.none → cg = 0) (h : At w ((BD pb pd 65536 T5 D5).star ((JO y pb pd 58 J5).star ((rowE TE 8 (.slice ag (k + q) cg) (L ++ (spL (10 * (i : Int)) (mm + 1)).take q).length (ecells (L ++ (spL (10 * (i : Int)) (mm + 1)).take q))).star ((JO x pb pd 58 J4).star ((rowE TE 8 (.slice (some ⟨ge, 0, none⟩) (mm + 1) c3) (spL (10 * (i : Int)) (mm + 1)).length (ecells (spL (10 * (i : Int)) (mm + 1)))).star ((rowE TE 8 (.slice a2 k c2) L.length (ecells L)).star emp)))))) W) => (show Calls Tryz.prog 35 #[.slice ag (k + q) cg] W (fun e w' => ∃ ah ch, e = .returned (.slice ah (k + q) ch) ∧ At w ((BD pb pd 65536 T5 D5).star ((JO y pb pd 58 J5).star ((rowE TE 8 (.slice ah (k + q) ch) (L ++ (spL (10 * (i : Int)) (mm + 1)).take q).length (ecells (L ++ (spL (10 * (i : Int)) (mm + 1)).take q))).star emp))) w') from by
              refine (lcopy_ev (esin_at h.drop.drop (by rw [hG]; omega)) hag (by omega)).mono ?_
              rintro e w' ⟨ah, ch, rfl, hb⟩
              have h3 := At.add ((BD_good _ _ _ _ _).star ((JO_good _ _ _ _ _).star ((rowE_good _ _ _ _ _).star ((JO_good _ _ _ _ _).star ((rowE_good _ _ _ _ _).star ((rowE_good _ _ _ _ _).star emp_good)))))) h hb
              rw [hG] at h3 ⊢
              refine ⟨ah, ch, rfl, ?_⟩
              have h4 := h3.imp ((Ass.imp.swap _ _ _).trans ((Ass.imp.swap _ _ _).under _))
              exact lawdrop ((h4.imp (Ass.imp.assoc _ _ _)).imp (Ass.imp.assoc _ _ _) |>.imp (Ass.imp.comm _ _)).drop |>.imp (Ass.imp.assoc' _ _ _ |>.trans (Ass.imp.assoc' _ _ _))))
            have HOp := Lib.hid (fun W (h : At w ((BD pb pd 65536 T1 D3).star ((rowE TE 8 (.slice (some ⟨ge, 0, none⟩) (mm + 1) c3) (spL (10 * (i : Int)) (mm + 1)).length (ecells (spL (10 * (i : Int)) (mm + 1)))).star ((rowE TE 8 (.slice a2 k c2) L.length (ecells L)).star emp))) W) => (show Calls Tryz.prog 34 #[.pointer (some ⟨pb, 0, none⟩), .pointer (some ⟨pd, 0, none⟩)] W (fun e w' => ∃ p : Nat, e = .returned (.tuple #[.pointer (some ⟨p, 0, none⟩), .int .i64 0]) ∧ At w ((BD pb pd 65536 T4 D4).star ((JO p pb pd 58 J4).star ((rowE TE 8 (.slice (some ⟨ge, 0, none⟩) (mm + 1) c3) (spL (10 * (i : Int)) (mm + 1)).length (ecells (spL (10 * (i : Int)) (mm + 1)))).star ((rowE TE 8 (.slice a2 k c2) L.length (ecells L)).star emp)))) w') from hOp _ W ((rowE_good _ _ _ _ _).star ((rowE_good _ _ _ _ _).star emp_good)) h))
            have HEvx := Lib.hid (fun x W (h : At w ((BD pb pd 65536 T4 D4).star ((JO x pb pd 58 J4).star ((rowE TE 8 (.slice (some ⟨ge, 0, none⟩) (mm + 1) c3) (spL (10 * (i : Int)) (mm + 1)).length (ecells (spL (10 * (i : Int)) (mm + 1)))).star ((rowE TE 8 (.slice a2 k c2) L.length (ecells L)).star emp)))) W) => (show Calls Tryz.prog 26 #[.pointer (some ⟨x, 0, none⟩)] W (fun e w' => ∃ ag cg, e = .returned (.slice ag (k + q) cg) ∧ At w ((rowE TE 8 (.slice ag (k + q) cg) (L ++ (spL (10 * (i : Int)) (mm + 1)).take q).length (ecells (L ++ (spL (10 * (i : Int)) (mm + 1)).take q))).star ((BD pb pd 65536 T4 D4).star ((JO x pb pd 58 J4).star ((rowE TE 8 (.slice (some ⟨ge, 0, none⟩) (mm + 1) c3) (spL (10 * (i : Int)) (mm + 1)).length (ecells (spL (10 * (i : Int)) (mm + 1)))).star ((rowE TE 8 (.slice a2 k c2) L.length (ecells L)).star emp))))) w') from by
              have := jlevents ((rowE_good _ _ _ _ _).star ((rowE_good _ _ _ _ _).star emp_good)) h (by rw [hal, hG]; omega)
              rw [hal, hG] at this
              rw [hG]
              exact this))
            clear hOp
            rcases hcase with ⟨hms, rfl⟩ | ⟨hms, bb2, off2, zm, rfl, hm7, hcm⟩
            · go_wp2_with (first
                | (go_at_call 18; (with_reducible refine (HWr.out _ hS).mono ?_); rintro e w4 ⟨rfl, hS4⟩; have hc4 := HZ.out _ hS4.bel)
                | (go_at_call 24; (with_reducible refine (HCr.out _ _ ((rowE_good _ _ _ _ _).star ((rowE_good _ _ _ _ _).star emp_good)) hS4).mono ?_); rintro e w5 ⟨rfl, hS5⟩)
                | (go_at_call 22; (with_reducible refine (HRs.out _ _ ((rowE_good _ _ _ _ _).star ((rowE_good _ _ _ _ _).star emp_good)) hS5).mono ?_); rintro e w6 ⟨rfl, hS6⟩)
                | (go_at_call 34; (with_reducible refine (HOp.out _ hS6).mono ?_); rintro e w7 ⟨x, rfl, hS7⟩)
                | (go_at_call 26; (with_reducible refine (HEvx.out _ _ hS7).mono ?_); rintro e w8 ⟨ag, cg, rfl, hS8⟩)
                | (go_at_call 16; (with_reducible refine (lnum _ _).mono ?_); rintro e w9 ⟨rfl, rfl⟩))
              rcases row_any hS8 with ⟨rfl, hk0, rfl, -⟩ | ⟨gg, rfl, -, hcapg⟩
              rotate_left
              · skip
                have HSm1 := Lib.hid (fun x W (h : At w ((rowE TE 8 (.slice (some ⟨gg, 0, none⟩) (k + q) cg) (L ++ (spL (10 * (i : Int)) (mm + 1)).take q).length (ecells (L ++ (spL (10 * (i : Int)) (mm + 1)).take q))).star ((BD pb pd 65536 T4 D4).star ((JO x pb pd 58 J4).star ((rowE TE 8 (.slice (some ⟨ge, 0, none⟩) (mm + 1) c3) (spL (10 * (i : Int)) (mm + 1)).length (ecells (spL (10 * (i : Int)) (mm + 1)))).star ((rowE TE 8 (.slice a2 k c2) L.length (ecells L)).star emp))))) W) => (show Calls Tryz.prog 28 #[.slice (some ⟨gg, 0, none⟩) k cg, .slice a2 k c2] W (fun e w' => e = .returned (.bool true) ∧ Below W.heap.size W w') from
                  (lsame_ev ((esin_at h (by rw [hG]; omega)).take (Nat.le_add_right k q)) (esin_at h.drop.drop.drop.drop (by omega))).mono fun e w' ⟨q1, q2⟩ => ⟨by rw [q1, List.take_left' hLk]; simp, q2⟩))
                have HSm2 := Lib.hid (fun x W (h : At w ((rowE TE 8 (.slice (some ⟨gg, 0, none⟩) (k + q) cg) (L ++ (spL (10 * (i : Int)) (mm + 1)).take q).length (ecells (L ++ (spL (10 * (i : Int)) (mm + 1)).take q))).star ((BD pb pd 65536 T4 D4).star ((JO x pb pd 58 J4).star ((rowE TE 8 (.slice (some ⟨ge, 0, none⟩) (mm + 1) c3) (spL (10 * (i : Int)) (mm + 1)).length (ecells (spL (10 * (i : Int)) (mm + 1)))).star ((rowE TE 8 (.slice a2 k c2) L.length (ecells L)).star emp))))) W) => (show Calls Tryz.prog 28 #[.slice (if cg = k then some ⟨gg, 0, none⟩ else some ⟨gg, k * 8, none⟩) q (cg - k), .slice (some ⟨ge, 0, none⟩) q c3] W (fun e w' => e = .returned (.bool true) ∧ Below W.heap.size W w') from by
                  have h1 := (esin_at h (by rw [hG]; omega)).drop (Nat.le_add_right k q)
                  rw [Nat.add_sub_cancel_left, List.drop_left' hLk] at h1
                  have h1' : EsIn [] W (if cg = k then some ⟨gg, 0, none⟩ else some ⟨gg, k * 8, none⟩) q ((spL (10 * (i : Int)) (mm + 1)).take q) := by
                    split
                    · obtain rfl : q = 0 := by omega
                      exact ⟨by simp, .inl rfl, by omega⟩
                    · exact h1
                  exact (lsame_ev h1' ((esin_at h.drop.drop.drop (by rw [hlen]; omega)).take hq)).mono fun e w' ⟨q1, q2⟩ => ⟨by rw [q1]; simp, q2⟩))
                have hk1 : ¬ (k : Int) + (q : Int) < (k : Int) := by omega
                have hk2' : ¬ (k : Int) + ((mm : Int) + 1) < (k : Int) + (q : Int) := by omega
                have hk3 : ¬ (mm : Int) + 1 < (q : Int) := by omega
                have hk4 : ¬ mm + 1 < q := by omega
                have hwa : IntKind.i64.wrap ((k : Int) + ((mm : Int) + 1)) = (k : Int) + ((mm : Int) + 1) := by rw [IntKind.wrap_i64]; omega
                have hws : IntKind.i64.wrap ((k : Int) + (q : Int) - (k : Int)) = (q : Int) := by rw [IntKind.wrap_i64]; omega
                have hwq2 : IntKind.i64.wrap (q : Int) = (q : Int) := by rw [IntKind.wrap_i64]; omega
                have hkc : k ≤ cg := by omega
                have hkk : (k : Int) ≤ (k : Int) + (q : Int) := by omega
                have hmc : mm + 1 ≤ c3 := hMc
                have hqc : q ≤ c3 := Nat.le_trans hq hMc
                have hqm : q ≤ mm + 1 := hq
                have hS := hS8
                refine region_held (S := fun _ => True) 39 [false, false, false, false, false, false, false, false, false, false, false, false, false, false, false, false, false, false, false, false, false, false, false, false, false, false, false, false, false, false, false, false, false, false, false, false, false, false, false] rfl rfl (by kernel_rfl) fun V0 hW => ?_
                have hX := hS.lay ((rowE_good _ _ _ _ _).star ((BD_good _ _ _ _ _).star ((JO_good _ _ _ _ _).star ((rowE_good _ _ _ _ _).star ((rowE_good _ _ _ _ _).star emp_good))))) (bdrew _)
                rw [← hW] at hX
                clear hW hS
                refine run_go [(0, jka0, (some 138)), (1, jka1, (some 139)), (2, jka2, (some 140)), (3, jka3, (some 141)), (4, jka4, (some 142)), (5, jka5, (some 143)), (6, jka6, (some 144)), (7, jka7, (some 145)), (8, jka8, (some 146)), (9, jka9, (some 147)), (10, jka10, (some 148)), (11, jka11, (some 149)), (12, jka12, (some 150)), (13, jka13, (some 151)), (14, jka14, (some 152)), (15, jka15, (some 153)), (16, jka16, (some 154)), (17, jka17, (some 155)), (18, jka18, (some 156)), (19, jka19, (some 157)), (20, jka20, (some 158))] (by kernel_rfl) ?_
                iterate 21 (refine run_take ?_ rfl rfl (fun _ _ _ h => h) (Or.inl ⟨by rfl, ?_⟩) trivial ?_; rotate_left; (· (intro w0 hy0; clear hy0; (go_simp <;> with_reducible rfl))); simp only [Act.put, List.setIfInBounds_toArray, List.set_cons_zero, List.set_cons_succ])
                refine run_end ?_
                refine held_call 21 jka21 (some 159) (.bool true) (fun Z9 => Below (World.heap V0).size V0 Z9) 28 #[.slice (some ⟨gg, 0, none⟩) k cg, .slice a2 k c2] (by kernel_rfl) rfl rfl (by rfl) (jx_SameEvents (.tmp 157) (.tmp 158) rfl rfl rfl) (HSm1.out _ V0 hX) (fun Z9 _ => trivial) ?_
                intro V1 hb
                replace hX := hX.lay ((rowE_good _ _ _ _ _).star ((BD_good _ _ _ _ _).star ((JO_good _ _ _ _ _).star ((rowE_good _ _ _ _ _).star ((rowE_good _ _ _ _ _).star emp_good))))) hb
                clear hb
                simp only [Act.put, List.setIfInBounds_toArray, List.set_cons_zero, List.set_cons_succ]
                refine run_go [(22, jka22, (some 160)), (23, jka23, (some 161)), (24, jka24, (some 162)), (25, jka25, (some 163)), (26, jka26, (some 164)), (27, jka27, (some 165)), (28, jka28, (some 166)), (29, jka29, (some 167)), (30, jka30, (some 168)), (31, jka31, (some 169)), (32, jka32, (some 170)), (33, jka33, (some 171)), (34, jka34, (some 172)), (35, jka35, (some 173))] (by kernel_rfl) ?_
                iterate 14 (refine run_take ?_ rfl rfl (fun _ _ _ h => h) (Or.inl ⟨by rfl, ?_⟩) trivial ?_; rotate_left; (· (intro w0 hy0; clear hy0; (go_simp <;> with_reducible rfl))); simp only [Act.put, List.setIfInBounds_toArray, List.set_cons_zero, List.set_cons_succ])
                refine run_end ?_
                refine held_call 36 jka36 (some 174) (.bool true) (fun Z9 => Below (World.heap V1).size V1 Z9) 28 #[.slice (if cg = k then some ⟨gg, 0, none⟩ else some ⟨gg, k * 8, none⟩) q (cg - k), .slice (some ⟨ge, 0, none⟩) q c3] (by kernel_rfl) rfl rfl (by rfl) (jx_SameEvents (.tmp 166) (.tmp 173) rfl rfl rfl) (HSm2.out _ V1 hX) (fun Z9 _ => trivial) ?_
                intro V2 hb
                replace hX := hX.lay ((rowE_good _ _ _ _ _).star ((BD_good _ _ _ _ _).star ((JO_good _ _ _ _ _).star ((rowE_good _ _ _ _ _).star ((rowE_good _ _ _ _ _).star emp_good))))) hb
                clear hb
                simp only [Act.put, List.setIfInBounds_toArray, List.set_cons_zero, List.set_cons_succ]
                refine run_go [(37, jka37, (some 175)), (38, jka38, (some 176))] (by kernel_rfl) ?_
                iterate 2 (refine run_take ?_ rfl rfl (fun _ _ _ h => h) (Or.inl ⟨by rfl, ?_⟩) trivial ?_; rotate_left; (· (intro w0 hy0; clear hy0; (go_simp <;> with_reducible rfl))); simp only [Act.put, List.setIfInBounds_toArray, List.set_cons_zero, List.set_cons_succ])
                refine run_end ?_
                refine wpAnyH_done (by kernel_rfl) ?_ _
                replace hX := hX.imp (Ass.imp.swap _ _ _)
                go_wp2_with (first
                  | (go_at_call 34; (with_reducible refine (HO5.out _ _ _ _ hX).mono ?_); rintro e w9 ⟨y, rfl, hY⟩)
                  | (go_at_call 26; (with_reducible refine (HEv5.out _ _ _ _ _ hY).mono ?_); rintro e w8 ⟨ah, ch, rfl, hY2⟩)
                  | (go_at_call 28; (with_reducible refine (HSm5.out _ _ _ _ _ _ _ hY2).mono ?_); rintro e w8 ⟨rfl, hY3⟩)
                  | (go_at_call 29; first
                      | ((with_reducible refine (HBy.out _ _ _ _ _ hY3).mono ?_); rintro e w7 ⟨rfl, rfl⟩)
                      | ((with_reducible refine (HBx.out _ _ _ _ _ hY3).mono ?_); rintro e w7 ⟨rfl, rfl⟩))
                  | (go_at_call 35; (with_reducible refine (HCp.out _ _ _ _ _ (fun c => by cases c) hY3).mono ?_); rintro e w8 ⟨ai, ci, rfl, hY4⟩)
                  | (go_at_call 16; (with_reducible refine (lnum _ _).mono ?_); rintro e w9 ⟨rfl, rfl⟩))
                go_round
                case rel => exact ⟨i + 1, y, T5, D5, J5, _, k + q, ai, ci, by omega, by omega, by go_num, rfl, rfl, HN.out.1, HN.out.2.1, HN.out.2.2.1, HN.out.2.2.2.1, HN.out.2.2.2.2.1, HN.out.2.2.2.2.2.1, HN.out.2.2.2.2.2.2, hY4⟩
                case measure => simp [intOf]; omega
              · obtain rfl : k = 0 := by omega
                obtain rfl : q = 0 := by omega
                simp only [Nat.add_zero] at *
                have hLn : L = [] := List.eq_nil_of_length_eq_zero hLk
                have HSm1 := Lib.hid (fun x W (h : At w ((rowE TE 8 (.slice Option.none 0 0) (L ++ (spL (10 * (i : Int)) (mm + 1)).take 0).length (ecells (L ++ (spL (10 * (i : Int)) (mm + 1)).take 0))).star ((BD pb pd 65536 T4 D4).star ((JO x pb pd 58 J4).star ((rowE TE 8 (.slice (some ⟨ge, 0, none⟩) (mm + 1) c3) (spL (10 * (i : Int)) (mm + 1)).length (ecells (spL (10 * (i : Int)) (mm + 1)))).star ((rowE TE 8 (.slice a2 0 c2) L.length (ecells L)).star emp))))) W) => (show Calls Tryz.prog 28 #[.slice Option.none 0 0, .slice a2 0 c2] W (fun e w' => e = .returned (.bool true) ∧ Below W.heap.size W w') from
                  (lsame_ev (show EsIn [] W Option.none 0 ([] : List Ev) from ⟨rfl, .inl rfl, by omega⟩) (show EsIn [] W a2 0 ([] : List Ev) from ⟨rfl, .inl rfl, by omega⟩)).mono fun e w' ⟨q1, q2⟩ => ⟨by rw [q1]; simp, q2⟩))
                have HSm2 := Lib.hid (fun x W (h : At w ((rowE TE 8 (.slice Option.none 0 0) (L ++ (spL (10 * (i : Int)) (mm + 1)).take 0).length (ecells (L ++ (spL (10 * (i : Int)) (mm + 1)).take 0))).star ((BD pb pd 65536 T4 D4).star ((JO x pb pd 58 J4).star ((rowE TE 8 (.slice (some ⟨ge, 0, none⟩) (mm + 1) c3) (spL (10 * (i : Int)) (mm + 1)).length (ecells (spL (10 * (i : Int)) (mm + 1)))).star ((rowE TE 8 (.slice a2 0 c2) L.length (ecells L)).star emp))))) W) => (show Calls Tryz.prog 28 #[.slice Option.none 0 0, .slice (some ⟨ge, 0, none⟩) 0 c3] W (fun e w' => e = .returned (.bool true) ∧ Below W.heap.size W w') from
                  (lsame_ev (show EsIn [] W Option.none 0 ([] : List Ev) from ⟨rfl, .inl rfl, by omega⟩) (show EsIn [] W (some ⟨ge, 0, none⟩) 0 ([] : List Ev) from ⟨rfl, .inl rfl, by omega⟩)).mono fun e w' ⟨q1, q2⟩ => ⟨by rw [q1]; simp, q2⟩))
                have hk2' : ¬ ((mm : Int) + 1) < 0 := by omega
                have hk3' : ¬ (mm : Int) + 1 ≤ -1 := by omega
                have hk3 : (0 : Int) ≤ (mm : Int) + 1 := by omega
                have hwa : IntKind.i64.wrap ((mm : Int) + 1) = (mm : Int) + 1 := by rw [IntKind.wrap_i64]; omega
                have hwa2 : IntKind.i64.wrap (0 + ((mm : Int) + 1)) = (mm : Int) + 1 := by rw [IntKind.wrap_i64]; omega
                have hw00 : IntKind.i64.wrap 0 = 0 := by rw [IntKind.wrap_i64]; omega
                have hmc : mm + 1 ≤ c3 := hMc
                have hS := hS8
                refine region_held (S := fun _ => True) 39 [false, false, false, false, false, false, false, false, false, false, false, false, false, false, false, false, false, false, false, false, false, false, false, false, false, false, false, false, false, false, false, false, false, false, false, false, false, false, false] rfl rfl (by kernel_rfl) fun V0 hW => ?_
                have hX := hS.lay ((rowE_good _ _ _ _ _).star ((BD_good _ _ _ _ _).star ((JO_good _ _ _ _ _).star ((rowE_good _ _ _ _ _).star ((rowE_good _ _ _ _ _).star emp_good))))) (bdrew _)
                rw [← hW] at hX
                clear hW hS
                refine run_go [(0, jka0, (some 138)), (1, jka1, (some 139)), (2, jka2, (some 140)), (3, jka3, (some 141)), (4, jka4, (some 142)), (5, jka5, (some 143)), (6, jka6, (some 144)), (7, jka7, (some 145)), (8, jka8, (some 146)), (9, jka9, (some 147)), (10, jka10, (some 148)), (11, jka11, (some 149)), (12, jka12, (some 150)), (13, jka13, (some 151)), (14, jka14, (some 152)), (15, jka15, (some 153)), (16, jka16, (some 154)), (17, jka17, (some 155)), (18, jka18, (some 156)), (19, jka19, (some 157)), (20, jka20, (some 158))] (by kernel_rfl) ?_
                iterate 21 (refine run_take ?_ rfl rfl (fun _ _ _ h => h) (Or.inl ⟨by rfl, ?_⟩) trivial ?_; rotate_left; (· (intro w0 hy0; clear hy0; (go_simp <;> with_reducible rfl))); simp only [Act.put, List.setIfInBounds_toArray, List.set_cons_zero, List.set_cons_succ])
                refine run_end ?_
                refine held_call 21 jka21 (some 159) (.bool true) (fun Z9 => Below (World.heap V0).size V0 Z9) 28 #[.slice Option.none 0 0, .slice a2 0 c2] (by kernel_rfl) rfl rfl (by rfl) (jx_SameEvents (.tmp 157) (.tmp 158) rfl rfl rfl) (HSm1.out _ V0 hX) (fun Z9 _ => trivial) ?_
                intro V1 hb
                replace hX := hX.lay ((rowE_good _ _ _ _ _).star ((BD_good _ _ _ _ _).star ((JO_good _ _ _ _ _).star ((rowE_good _ _ _ _ _).star ((rowE_good _ _ _ _ _).star emp_good))))) hb
                clear hb
                simp only [Act.put, List.setIfInBounds_toArray, List.set_cons_zero, List.set_cons_succ]
                refine run_go [(22, jka22, (some 160)), (23, jka23, (some 161)), (24, jka24, (some 162)), (25, jka25, (some 163)), (26, jka26, (some 164)), (27, jka27, (some 165)), (28, jka28, (some 166)), (29, jka29, (some 167)), (30, jka30, (some 168)), (31, jka31, (some 169)), (32, jka32, (some 170)), (33, jka33, (some 171)), (34, jka34, (some 172)), (35, jka35, (some 173))] (by kernel_rfl) ?_
                iterate 14 (refine run_take ?_ rfl rfl (fun _ _ _ h => h) (Or.inl ⟨by rfl, ?_⟩) trivial ?_; rotate_left; (· (intro w0 hy0; clear hy0; (go_simp <;> with_reducible rfl))); simp only [Act.put, List.setIfInBounds_toArray, List.set_cons_zero, List.set_cons_succ])
                refine run_end ?_
                refine held_call 36 jka36 (some 174) (.bool true) (fun Z9 => Below (World.heap V1).size V1 Z9) 28 #[.slice Option.none 0 0, .slice (some ⟨ge, 0, none⟩) 0 c3] (by kernel_rfl) rfl rfl (by rfl) (jx_SameEvents (.tmp 166) (.tmp 173) rfl rfl rfl) (HSm2.out _ V1 hX) (fun Z9 _ => trivial) ?_
                intro V2 hb
                replace hX := hX.lay ((rowE_good _ _ _ _ _).star ((BD_good _ _ _ _ _).star ((JO_good _ _ _ _ _).star ((rowE_good _ _ _ _ _).star ((rowE_good _ _ _ _ _).star emp_good))))) hb
                clear hb
                simp only [Act.put, List.setIfInBounds_toArray, List.set_cons_zero, List.set_cons_succ]
                refine run_go [(37, jka37, (some 175)), (38, jka38, (some 176))] (by kernel_rfl) ?_
                iterate 2 (refine run_take ?_ rfl rfl (fun _ _ _ h => h) (Or.inl ⟨by rfl, ?_⟩) trivial ?_; rotate_left; (· (intro w0 hy0; clear hy0; (go_simp <;> with_reducible rfl))); simp only [Act.put, List.setIfInBounds_toArray, List.set_cons_zero, List.set_cons_succ])
                refine run_end ?_
                refine wpAnyH_done (by kernel_rfl) ?_ _
                replace hX := hX.imp (Ass.imp.swap _ _ _)
                go_wp2_with (first
                  | (go_at_call 34; (with_reducible refine (HO5.out _ _ _ _ hX).mono ?_); rintro e w9 ⟨y, rfl, hY⟩)
                  | (go_at_call 26; (with_reducible refine (HEv5.out _ _ _ _ _ hY).mono ?_); rintro e w8 ⟨ah, ch, rfl, hY2⟩)
                  | (go_at_call 28; (with_reducible refine (HSm5.out _ _ _ _ _ _ _ hY2).mono ?_); rintro e w8 ⟨rfl, hY3⟩)
                  | (go_at_call 29; first
                      | ((with_reducible refine (HBy.out _ _ _ _ _ hY3).mono ?_); rintro e w7 ⟨rfl, rfl⟩)
                      | ((with_reducible refine (HBx.out _ _ _ _ _ hY3).mono ?_); rintro e w7 ⟨rfl, rfl⟩))
                  | (go_at_call 35; (with_reducible refine (HCp.out _ _ _ _ _ (fun _ => rfl) hY3).mono ?_); rintro e w8 ⟨ai, ci, rfl, hY4⟩)
                  | (go_at_call 16; (with_reducible refine (lnum _ _).mono ?_); rintro e w9 ⟨rfl, rfl⟩))
                go_round
                case rel => exact ⟨i + 1, y, T5, D5, J5, _, 0, ai, ci, by omega, by omega, by go_num, rfl, rfl, HN.out.1, HN.out.2.1, HN.out.2.2.1, HN.out.2.2.2.1, HN.out.2.2.2.2.1, HN.out.2.2.2.2.2.1, HN.out.2.2.2.2.2.2, hY4⟩
                case measure => simp [intOf]; omega
            · have hcb := hcm _ hS.bel
              go_wp2_with (first
                | (go_at_call 18; (with_reducible refine (HWr.out _ hS).mono ?_); rintro e w4 ⟨rfl, hS4⟩; have hc4 := HZ.out _ hS4.bel)
                | (go_at_call 24; (with_reducible refine (HCr.out _ _ ((rowE_good _ _ _ _ _).star ((rowE_good _ _ _ _ _).star emp_good)) hS4).mono ?_); rintro e w5 ⟨rfl, hS5⟩)
                | (go_at_call 22; (with_reducible refine (HRs.out _ _ ((rowE_good _ _ _ _ _).star ((rowE_good _ _ _ _ _).star emp_good)) hS5).mono ?_); rintro e w6 ⟨rfl, hS6⟩)
                | (go_at_call 34; (with_reducible refine (HOp.out _ hS6).mono ?_); rintro e w7 ⟨x, rfl, hS7⟩)
                | (go_at_call 26; (with_reducible refine (HEvx.out _ _ hS7).mono ?_); rintro e w8 ⟨ag, cg, rfl, hS8⟩)
                | (go_at_call 16; (with_reducible refine (lnum _ _).mono ?_); rintro e w9 ⟨rfl, rfl⟩))
              rcases row_any hS8 with ⟨rfl, hk0, rfl, -⟩ | ⟨gg, rfl, -, hcapg⟩
              rotate_left
              · skip
                have HSm1 := Lib.hid (fun x W (h : At w ((rowE TE 8 (.slice (some ⟨gg, 0, none⟩) (k + q) cg) (L ++ (spL (10 * (i : Int)) (mm + 1)).take q).length (ecells (L ++ (spL (10 * (i : Int)) (mm + 1)).take q))).star ((BD pb pd 65536 T4 D4).star ((JO x pb pd 58 J4).star ((rowE TE 8 (.slice (some ⟨ge, 0, none⟩) (mm + 1) c3) (spL (10 * (i : Int)) (mm + 1)).length (ecells (spL (10 * (i : Int)) (mm + 1)))).star ((rowE TE 8 (.slice a2 k c2) L.length (ecells L)).star emp))))) W) => (show Calls Tryz.prog 28 #[.slice (some ⟨gg, 0, none⟩) k cg, .slice a2 k c2] W (fun e w' => e = .returned (.bool true) ∧ Below W.heap.size W w') from
                  (lsame_ev ((esin_at h (by rw [hG]; omega)).take (Nat.le_add_right k q)) (esin_at h.drop.drop.drop.drop (by omega))).mono fun e w' ⟨q1, q2⟩ => ⟨by rw [q1, List.take_left' hLk]; simp, q2⟩))
                have HSm2 := Lib.hid (fun x W (h : At w ((rowE TE 8 (.slice (some ⟨gg, 0, none⟩) (k + q) cg) (L ++ (spL (10 * (i : Int)) (mm + 1)).take q).length (ecells (L ++ (spL (10 * (i : Int)) (mm + 1)).take q))).star ((BD pb pd 65536 T4 D4).star ((JO x pb pd 58 J4).star ((rowE TE 8 (.slice (some ⟨ge, 0, none⟩) (mm + 1) c3) (spL (10 * (i : Int)) (mm + 1)).length (ecells (spL (10 * (i : Int)) (mm + 1)))).star ((rowE TE 8 (.slice a2 k c2) L.length (ecells L)).star emp))))) W) => (show Calls Tryz.prog 28 #[.slice (if cg = k then some ⟨gg, 0, none⟩ else some ⟨gg, k * 8, none⟩) q (cg - k), .slice (some ⟨ge, 0, none⟩) q c3] W (fun e w' => e = .returned (.bool true) ∧ Below W.heap.size W w') from by
                  have h1 := (esin_at h (by rw [hG]; omega)).drop (Nat.le_add_right k q)
                  rw [Nat.add_sub_cancel_left, List.drop_left' hLk] at h1
                  have h1' : EsIn [] W (if cg = k then some ⟨gg, 0, none⟩ else some ⟨gg, k * 8, none⟩) q ((spL (10 * (i : Int)) (mm + 1)).take q) := by
                    split
                    · obtain rfl : q = 0 := by omega
                      exact ⟨by simp, .inl rfl, by omega⟩
                    · exact h1
                  exact (lsame_ev h1' ((esin_at h.drop.drop.drop (by rw [hlen]; omega)).take hq)).mono fun e w' ⟨q1, q2⟩ => ⟨by rw [q1]; simp, q2⟩))
                have hk1 : ¬ (k : Int) + (q : Int) < (k : Int) := by omega
                have hk2' : ¬ (k : Int) + ((mm : Int) + 1) < (k : Int) + (q : Int) := by omega
                have hk3 : ¬ (mm : Int) + 1 < (q : Int) := by omega
                have hk4 : ¬ mm + 1 < q := by omega
                have hwa : IntKind.i64.wrap ((k : Int) + ((mm : Int) + 1)) = (k : Int) + ((mm : Int) + 1) := by rw [IntKind.wrap_i64]; omega
                have hws : IntKind.i64.wrap ((k : Int) + (q : Int) - (k : Int)) = (q : Int) := by rw [IntKind.wrap_i64]; omega
                have hwq2 : IntKind.i64.wrap (q : Int) = (q : Int) := by rw [IntKind.wrap_i64]; omega
                have hkc : k ≤ cg := by omega
                have hkk : (k : Int) ≤ (k : Int) + (q : Int) := by omega
                have hmc : mm + 1 ≤ c3 := hMc
                have hqc : q ≤ c3 := Nat.le_trans hq hMc
                have hqm : q ≤ mm + 1 := hq
                have hS := hS8
                refine region_held (S := fun _ => True) 39 [false, false, false, false, false, false, false, false, false, false, false, false, false, false, false, false, false, false, false, false, false, false, false, false, false, false, false, false, false, false, false, false, false, false, false, false, false, false, false] rfl rfl (by kernel_rfl) fun V0 hW => ?_
                have hX := hS.lay ((rowE_good _ _ _ _ _).star ((BD_good _ _ _ _ _).star ((JO_good _ _ _ _ _).star ((rowE_good _ _ _ _ _).star ((rowE_good _ _ _ _ _).star emp_good))))) (bdrew _)
                rw [← hW] at hX
                clear hW hS
                refine run_go [(0, jka0, (some 138)), (1, jka1, (some 139)), (2, jka2, (some 140)), (3, jka3, (some 141)), (4, jka4, (some 142)), (5, jka5, (some 143)), (6, jka6, (some 144)), (7, jka7, (some 145)), (8, jka8, (some 146)), (9, jka9, (some 147)), (10, jka10, (some 148)), (11, jka11, (some 149)), (12, jka12, (some 150)), (13, jka13, (some 151)), (14, jka14, (some 152)), (15, jka15, (some 153)), (16, jka16, (some 154)), (17, jka17, (some 155)), (18, jka18, (some 156)), (19, jka19, (some 157)), (20, jka20, (some 158))] (by kernel_rfl) ?_
                iterate 21 (refine run_take ?_ rfl rfl (fun _ _ _ h => h) (Or.inl ⟨by rfl, ?_⟩) trivial ?_; rotate_left; (· (intro w0 hy0; clear hy0; (go_simp <;> with_reducible rfl))); simp only [Act.put, List.setIfInBounds_toArray, List.set_cons_zero, List.set_cons_succ])
                refine run_end ?_
                refine held_call 21 jka21 (some 159) (.bool true) (fun Z9 => Below (World.heap V0).size V0 Z9) 28 #[.slice (some ⟨gg, 0, none⟩) k cg, .slice a2 k c2] (by kernel_rfl) rfl rfl (by rfl) (jx_SameEvents (.tmp 157) (.tmp 158) rfl rfl rfl) (HSm1.out _ V0 hX) (fun Z9 _ => trivial) ?_
                intro V1 hb
                replace hX := hX.lay ((rowE_good _ _ _ _ _).star ((BD_good _ _ _ _ _).star ((JO_good _ _ _ _ _).star ((rowE_good _ _ _ _ _).star ((rowE_good _ _ _ _ _).star emp_good))))) hb
                clear hb
                simp only [Act.put, List.setIfInBounds_toArray, List.set_cons_zero, List.set_cons_succ]
                refine run_go [(22, jka22, (some 160)), (23, jka23, (some 161)), (24, jka24, (some 162)), (25, jka25, (some 163)), (26, jka26, (some 164)), (27, jka27, (some 165)), (28, jka28, (some 166)), (29, jka29, (some 167)), (30, jka30, (some 168)), (31, jka31, (some 169)), (32, jka32, (some 170)), (33, jka33, (some 171)), (34, jka34, (some 172)), (35, jka35, (some 173))] (by kernel_rfl) ?_
                iterate 14 (refine run_take ?_ rfl rfl (fun _ _ _ h => h) (Or.inl ⟨by rfl, ?_⟩) trivial ?_; rotate_left; (· (intro w0 hy0; clear hy0; (go_simp <;> with_reducible rfl))); simp only [Act.put, List.setIfInBounds_toArray, List.set_cons_zero, List.set_cons_succ])
                refine run_end ?_
                refine held_call 36 jka36 (some 174) (.bool true) (fun Z9 => Below (World.heap V1).size V1 Z9) 28 #[.slice (if cg = k then some ⟨gg, 0, none⟩ else some ⟨gg, k * 8, none⟩) q (cg - k), .slice (some ⟨ge, 0, none⟩) q c3] (by kernel_rfl) rfl rfl (by rfl) (jx_SameEvents (.tmp 166) (.tmp 173) rfl rfl rfl) (HSm2.out _ V1 hX) (fun Z9 _ => trivial) ?_
                intro V2 hb
                replace hX := hX.lay ((rowE_good _ _ _ _ _).star ((BD_good _ _ _ _ _).star ((JO_good _ _ _ _ _).star ((rowE_good _ _ _ _ _).star ((rowE_good _ _ _ _ _).star emp_good))))) hb
                clear hb
                simp only [Act.put, List.setIfInBounds_toArray, List.set_cons_zero, List.set_cons_succ]
                refine run_go [(37, jka37, (some 175)), (38, jka38, (some 176))] (by kernel_rfl) ?_
                iterate 2 (refine run_take ?_ rfl rfl (fun _ _ _ h => h) (Or.inl ⟨by rfl, ?_⟩) trivial ?_; rotate_left; (· (intro w0 hy0; clear hy0; (go_simp <;> with_reducible rfl))); simp only [Act.put, List.setIfInBounds_toArray, List.set_cons_zero, List.set_cons_succ])
                refine run_end ?_
                refine wpAnyH_done (by kernel_rfl) ?_ _
                replace hX := hX.imp (Ass.imp.swap _ _ _)
                go_wp2_with (first
                  | (go_at_call 34; (with_reducible refine (HO5.out _ _ _ _ hX).mono ?_); rintro e w9 ⟨y, rfl, hY⟩)
                  | (go_at_call 26; (with_reducible refine (HEv5.out _ _ _ _ _ hY).mono ?_); rintro e w8 ⟨ah, ch, rfl, hY2⟩)
                  | (go_at_call 28; (with_reducible refine (HSm5.out _ _ _ _ _ _ _ hY2).mono ?_); rintro e w8 ⟨rfl, hY3⟩)
                  | (go_at_call 29; first
                      | ((with_reducible refine (HBy.out _ _ _ _ _ hY3).mono ?_); rintro e w7 ⟨rfl, rfl⟩)
                      | ((with_reducible refine (HBx.out _ _ _ _ _ hY3).mono ?_); rintro e w7 ⟨rfl, rfl⟩))
                  | (go_at_call 35; (with_reducible refine (HCp.out _ _ _ _ _ (fun c => by cases c) hY3).mono ?_); rintro e w8 ⟨ai, ci, rfl, hY4⟩)
                  | (go_at_call 16; (with_reducible refine (lnum _ _).mono ?_); rintro e w9 ⟨rfl, rfl⟩))
                go_round
                case rel => exact ⟨i + 1, y, T5, D5, J5, _, k + q, ai, ci, by omega, by omega, by go_num, rfl, rfl, HN.out.1, HN.out.2.1, HN.out.2.2.1, HN.out.2.2.2.1, HN.out.2.2.2.2.1, HN.out.2.2.2.2.2.1, HN.out.2.2.2.2.2.2, hY4⟩
                case measure => simp [intOf]; omega
              · obtain rfl : k = 0 := by omega
                obtain rfl : q = 0 := by omega
                simp only [Nat.add_zero] at *
                have hLn : L = [] := List.eq_nil_of_length_eq_zero hLk
                have HSm1 := Lib.hid (fun x W (h : At w ((rowE TE 8 (.slice Option.none 0 0) (L ++ (spL (10 * (i : Int)) (mm + 1)).take 0).length (ecells (L ++ (spL (10 * (i : Int)) (mm + 1)).take 0))).star ((BD pb pd 65536 T4 D4).star ((JO x pb pd 58 J4).star ((rowE TE 8 (.slice (some ⟨ge, 0, none⟩) (mm + 1) c3) (spL (10 * (i : Int)) (mm + 1)).length (ecells (spL (10 * (i : Int)) (mm + 1)))).star ((rowE TE 8 (.slice a2 0 c2) L.length (ecells L)).star emp))))) W) => (show Calls Tryz.prog 28 #[.slice Option.none 0 0, .slice a2 0 c2] W (fun e w' => e = .returned (.bool true) ∧ Below W.heap.size W w') from
                  (lsame_ev (show EsIn [] W Option.none 0 ([] : List Ev) from ⟨rfl, .inl rfl, by omega⟩) (show EsIn [] W a2 0 ([] : List Ev) from ⟨rfl, .inl rfl, by omega⟩)).mono fun e w' ⟨q1, q2⟩ => ⟨by rw [q1]; simp, q2⟩))
                have HSm2 := Lib.hid (fun x W (h : At w ((rowE TE 8 (.slice Option.none 0 0) (L ++ (spL (10 * (i : Int)) (mm + 1)).take 0).length (ecells (L ++ (spL (10 * (i : Int)) (mm + 1)).take 0))).star ((BD pb pd 65536 T4 D4).star ((JO x pb pd 58 J4).star ((rowE TE 8 (.slice (some ⟨ge, 0, none⟩) (mm + 1) c3) (spL (10 * (i : Int)) (mm + 1)).length (ecells (spL (10 * (i : Int)) (mm + 1)))).star ((rowE TE 8 (.slice a2 0 c2) L.length (ecells L)).star emp))))) W) => (show Calls Tryz.prog 28 #[.slice Option.none 0 0, .slice (some ⟨ge, 0, none⟩) 0 c3] W (fun e w' => e = .returned (.bool true) ∧ Below W.heap.size W w') from
                  (lsame_ev (show EsIn [] W Option.none 0 ([] : List Ev) from ⟨rfl, .inl rfl, by omega⟩) (show EsIn [] W (some ⟨ge, 0, none⟩) 0 ([] : List Ev) from ⟨rfl, .inl rfl, by omega⟩)).mono fun e w' ⟨q1, q2⟩ => ⟨by rw [q1]; simp, q2⟩))
                have hk2' : ¬ ((mm : Int) + 1) < 0 := by omega
                have hk3' : ¬ (mm : Int) + 1 ≤ -1 := by omega
                have hk3 : (0 : Int) ≤ (mm : Int) + 1 := by omega
                have hwa : IntKind.i64.wrap ((mm : Int) + 1) = (mm : Int) + 1 := by rw [IntKind.wrap_i64]; omega
                have hwa2 : IntKind.i64.wrap (0 + ((mm : Int) + 1)) = (mm : Int) + 1 := by rw [IntKind.wrap_i64]; omega
                have hw00 : IntKind.i64.wrap 0 = 0 := by rw [IntKind.wrap_i64]; omega
                have hmc : mm + 1 ≤ c3 := hMc
                have hS := hS8
                refine region_held (S := fun _ => True) 39 [false, false, false, false, false, false, false, false, false, false, false, false, false, false, false, false, false, false, false, false, false, false, false, false, false, false, false, false, false, false, false, false, false, false, false, false, false, false, false] rfl rfl (by kernel_rfl) fun V0 hW => ?_
                have hX := hS.lay ((rowE_good _ _ _ _ _).star ((BD_good _ _ _ _ _).star ((JO_good _ _ _ _ _).star ((rowE_good _ _ _ _ _).star ((rowE_good _ _ _ _ _).star emp_good))))) (bdrew _)
                rw [← hW] at hX
                clear hW hS
                refine run_go [(0, jka0, (some 138)), (1, jka1, (some 139)), (2, jka2, (some 140)), (3, jka3, (some 141)), (4, jka4, (some 142)), (5, jka5, (some 143)), (6, jka6, (some 144)), (7, jka7, (some 145)), (8, jka8, (some 146)), (9, jka9, (some 147)), (10, jka10, (some 148)), (11, jka11, (some 149)), (12, jka12, (some 150)), (13, jka13, (some 151)), (14, jka14, (some 152)), (15, jka15, (some 153)), (16, jka16, (some 154)), (17, jka17, (some 155)), (18, jka18, (some 156)), (19, jka19, (some 157)), (20, jka20, (some 158))] (by kernel_rfl) ?_
                iterate 21 (refine run_take ?_ rfl rfl (fun _ _ _ h => h) (Or.inl ⟨by rfl, ?_⟩) trivial ?_; rotate_left; (· (intro w0 hy0; clear hy0; (go_simp <;> with_reducible rfl))); simp only [Act.put, List.setIfInBounds_toArray, List.set_cons_zero, List.set_cons_succ])
                refine run_end ?_
                refine held_call 21 jka21 (some 159) (.bool true) (fun Z9 => Below (World.heap V0).size V0 Z9) 28 #[.slice Option.none 0 0, .slice a2 0 c2] (by kernel_rfl) rfl rfl (by rfl) (jx_SameEvents (.tmp 157) (.tmp 158) rfl rfl rfl) (HSm1.out _ V0 hX) (fun Z9 _ => trivial) ?_
                intro V1 hb
                replace hX := hX.lay ((rowE_good _ _ _ _ _).star ((BD_good _ _ _ _ _).star ((JO_good _ _ _ _ _).star ((rowE_good _ _ _ _ _).star ((rowE_good _ _ _ _ _).star emp_good))))) hb
                clear hb
                simp only [Act.put, List.setIfInBounds_toArray, List.set_cons_zero, List.set_cons_succ]
                refine run_go [(22, jka22, (some 160)), (23, jka23, (some 161)), (24, jka24, (some 162)), (25, jka25, (some 163)), (26, jka26, (some 164)), (27, jka27, (some 165)), (28, jka28, (some 166)), (29, jka29, (some 167)), (30, jka30, (some 168)), (31, jka31, (some 169)), (32, jka32, (some 170)), (33, jka33, (some 171)), (34, jka34, (some 172)), (35, jka35, (some 173))] (by kernel_rfl) ?_
                iterate 14 (refine run_take ?_ rfl rfl (fun _ _ _ h => h) (Or.inl ⟨by rfl, ?_⟩) trivial ?_; rotate_left; (· (intro w0 hy0; clear hy0; (go_simp <;> with_reducible rfl))); simp only [Act.put, List.setIfInBounds_toArray, List.set_cons_zero, List.set_cons_succ])
                refine run_end ?_
                refine held_call 36 jka36 (some 174) (.bool true) (fun Z9 => Below (World.heap V1).size V1 Z9) 28 #[.slice Option.none 0 0, .slice (some ⟨ge, 0, none⟩) 0 c3] (by kernel_rfl) rfl rfl (by rfl) (jx_SameEvents (.tmp 166) (.tmp 173) rfl rfl rfl) (HSm2.out _ V1 hX) (fun Z9 _ => trivial) ?_
                intro V2 hb
                replace hX := hX.lay ((rowE_good _ _ _ _ _).star ((BD_good _ _ _ _ _).star ((JO_good _ _ _ _ _).star ((rowE_good _ _ _ _ _).star ((rowE_good _ _ _ _ _).star emp_good))))) hb
                clear hb
                simp only [Act.put, List.setIfInBounds_toArray, List.set_cons_zero, List.set_cons_succ]
                refine run_go [(37, jka37, (some 175)), (38, jka38, (some 176))] (by kernel_rfl) ?_
                iterate 2 (refine run_take ?_ rfl rfl (fun _ _ _ h => h) (Or.inl ⟨by rfl, ?_⟩) trivial ?_; rotate_left; (· (intro w0 hy0; clear hy0; (go_simp <;> with_reducible rfl))); simp only [Act.put, List.setIfInBounds_toArray, List.set_cons_zero, List.set_cons_succ])
                refine run_end ?_
                refine wpAnyH_done (by kernel_rfl) ?_ _
                replace hX := hX.imp (Ass.imp.swap _ _ _)
                go_wp2_with (first
                  | (go_at_call 34; (with_reducible refine (HO5.out _ _ _ _ hX).mono ?_); rintro e w9 ⟨y, rfl, hY⟩)
                  | (go_at_call 26; (with_reducible refine (HEv5.out _ _ _ _ _ hY).mono ?_); rintro e w8 ⟨ah, ch, rfl, hY2⟩)
                  | (go_at_call 28; (with_reducible refine (HSm5.out _ _ _ _ _ _ _ hY2).mono ?_); rintro e w8 ⟨rfl, hY3⟩)
                  | (go_at_call 29; first
                      | ((with_reducible refine (HBy.out _ _ _ _ _ hY3).mono ?_); rintro e w7 ⟨rfl, rfl⟩)
                      | ((with_reducible refine (HBx.out _ _ _ _ _ hY3).mono ?_); rintro e w7 ⟨rfl, rfl⟩))
                  | (go_at_call 35; (with_reducible refine (HCp.out _ _ _ _ _ (fun _ => rfl) hY3).mono ?_); rintro e w8 ⟨ai, ci, rfl, hY4⟩)
                  | (go_at_call 16; (with_reducible refine (lnum _ _).mono ?_); rintro e w9 ⟨rfl, rfl⟩))
                go_round
                case rel => exact ⟨i + 1, y, T5, D5, J5, _, 0, ai, ci, by omega, by omega, by go_num, rfl, rfl, HN.out.1, HN.out.2.1, HN.out.2.2.1, HN.out.2.2.2.1, HN.out.2.2.2.2.1, HN.out.2.2.2.2.2.1, HN.out.2.2.2.2.2.2, hY4⟩
                case measure => simp [intOf]; omega
    · have HEv := Lib.hid (fun W (h : At w ((BD pb pd 65536 T D).star ((JO pj pb pd 58 J).star ((rowE TE 8 (.slice a2 k c2) L.length (ecells L)).star emp))) W) => (show Calls Tryz.prog 26 #[.pointer (some ⟨pj, 0, none⟩)] W (fun e w' => ∃ ao cap, e = .returned (.slice ao k cap) ∧ At w ((rowE TE 8 (.slice ao k cap) L.length (ecells L)).star ((BD pb pd 65536 T D).star ((JO pj pb pd 58 J).star ((rowE TE 8 (.slice a2 k c2) L.length (ecells L)).star emp)))) w') from by
        have := jlevents ((rowE_good _ _ _ _ _).star emp_good) h (by omega)
        rw [hAl, hLk] at this
        rw [hLk]
        exact this))
      have HSm := Lib.hid (fun W ag ca (h : At w ((rowE TE 8 (.slice ag k ca) L.length (ecells L)).star ((BD pb pd 65536 T D).star ((JO pj pb pd 58 J).star ((rowE TE 8 (.slice a2 k c2) L.length (ecells L)).star emp)))) W) => (show Calls Tryz.prog 28 #[.slice ag k ca, .slice a2 k c2] W (fun e w' => e = .returned (.bool true) ∧ Below w.heap.size w w') from
        (lsame_ev (esin_at h (by omega)) (esin_at h.drop.drop.drop (by omega))).mono fun e w' ⟨q1, q2⟩ => ⟨by rw [q1]; simp, bon h.bel q2⟩))
      clear hSf hBt hAl hLk hk2 hKl hTl hjok hLl
      by_cases hlt : i < zs.length
      · have hge : ¬ (i : Int) < 20 := by omega
        have hlI : (i : Int) < (zs.length : Int) := by omega
        clear hgo
        go_wp2_with (first
          | (go_at_call 26; (with_reducible refine (HEv.out _ hS).mono ?_); rintro e w5 ⟨ao5, ca5, rfl, hS5⟩)
          | (go_at_call 28; (with_reducible refine (HSm.out _ _ _ hS5).mono ?_); rintro e w6 ⟨rfl, hb6⟩))
        go_ret
        exact ⟨rfl, hb6⟩
      · have hge : ¬ (i : Int) < (zs.length : Int) := by omega
        clear hgo
        go_wp2_with (first
          | (go_at_call 26; (with_reducible refine (HEv.out _ hS).mono ?_); rintro e w5 ⟨ao5, ca5, rfl, hS5⟩)
          | (go_at_call 28; (with_reducible refine (HSm.out _ _ _ hS5).mono ?_); rintro e w6 ⟨rfl, hb6⟩))
        go_ret
        exact ⟨rfl, hb6⟩
end Go.Proofs.YtbfpfmidjdonjaaGreatDoor
