/- errors.Is over an error that is nil, or a fault round a number: is it that number? Package fault's Of. No condition. -/
import Derived.Test.YtcakipojmkehgaaDoorFlt
import Derived.Test.YtcakipojmkehgaaDoorBfa
import Derived.Lib.IfaceEq
import Derived.Lib.Hide
import Derived.LaidEql
import Derived.Stop.Asserts
namespace Go.Proofs.YtcakipojmkehgaaDoor
open Go.RowKit Go.Extern.Stop Go.Stop Go.Extern

/-- What (rtype).Comparable does. -/
def cmpF : Array Value → Sem Value := Extern.ReflectliteType.method fun t => do Extern.Rtype.noPackHeld "Comparable" t; pure (.bool (← typeInfo t).comparable)
theorem isComparableE (w : World) : (cmpF #[.agg #[.pointer (some ⟨1, 30, none⟩)]]).run Tryd.prog w = .ok (.bool true) w := by kernel_rfl
theorem isMethodComparable (v : Value) (w : World) : (Go.method 286 116 v "Comparable").run Tryd.prog w = .ok (106, v) w := by kernel_rfl
theorem noIsU (v : Value) (xT : TypeId) (w : World) : (Instr.typeAssert (.iface 97 v) xT 118 true).run Tryd.prog w = .ok (.tuple #[.nilIface, .bool false]) w := run_typeAssert_lacksB Tryd.underlying118 (by kernel_rfl) (by kernel_rfl) v xT w
theorem noIsE (v : Value) (xT : TypeId) (w : World) : (Instr.typeAssert (.iface 30 v) xT 118 true).run Tryd.prog w = .ok (.tuple #[.nilIface, .bool false]) w := run_typeAssert_lacksB Tryd.underlying118 (by kernel_rfl) (by kernel_rfl) v xT w
theorem noUnE (v : Value) (xT : TypeId) (w : World) : (Instr.typeAssert (.iface 30 v) xT 121 true).run Tryd.prog w = .ok (.tuple #[.nilIface, .bool false]) w := run_typeAssert_lacksB Tryd.underlying121 (by kernel_rfl) (by kernel_rfl) v xT w
theorem noUnsE (v : Value) (xT : TypeId) (w : World) : (Instr.typeAssert (.iface 30 v) xT 123 true).run Tryd.prog w = .ok (.tuple #[.nilIface, .bool false]) w := run_typeAssert_lacksB Tryd.underlying123 (by kernel_rfl) (by kernel_rfl) v xT w
theorem hasUnU (v : Value) (xT : TypeId) (w : World) : (Instr.typeAssert (.iface 97 v) xT 121 true).run Tryd.prog w = .ok (.tuple #[.iface 97 v, .bool true]) w := run_typeAssert_hasB Tryd.underlying121 (by kernel_rfl) v xT w
theorem is_nil (m : Int) (w : World) : Calls Tryd.prog 42 #[.nilIface, .iface 30 (.int .i64 m)] w fun e w' => e = .returned (.bool false) ∧ w = w' := by
  have hn := run_eql_iface_nil_left (P := Tryd.prog) w 30 (.int .i64 m) Tryd.underlying60
  go_enter Tryd.func42, Tryd.ntmps42
  go_wp2
  go_ret
  exact ⟨rfl, rfl⟩
set_option maxHeartbeats 1000000 in
theorem is2 (b : Nat) (n m : Int) (w : World) (h1 : w.cell? ⟨b, 2, none⟩ = some (.iface 30 (.int .i64 n))) :
    Calls Tryd.prog 57 #[.iface 97 (.pointer (some ⟨b, 0, none⟩)), .iface 30 (.int .i64 m), .bool true] w fun e w' => e = .returned (.bool (n == m)) ∧ w = w' := by
  have nU := noIsU
  have nE := noIsE
  have uE := noUnE
  have vE := noUnsE
  have hU := hasUnU
  have mU := methodUn
  have e1 := run_eql_iface_types (P := Tryd.prog) 97 30 (.pointer (some ⟨b, 0, none⟩)) (.int .i64 m) Tryd.underlying60 (by decide) w
  have e2 := Lib.run_eql_iface_int (P := Tryd.prog) w (k := .i64) n m Tryd.underlying60 (tx := 30) (by kernel_rfl) Tryd.underlying30
  cases hc : (n == m) with
  | true =>
    rw [hc] at e2
    go_enter Tryd.func57, Tryd.ntmps57
    go_wp2
    refine wp_loop_rounds 2 ?_
    rw [rounds_succ]
    go_wp2_with go_in
    rw [rounds_succ]
    go_wp2_with go_in
    go_ret
    exact ⟨rfl, rfl⟩
  | false =>
    rw [hc] at e2
    go_enter Tryd.func57, Tryd.ntmps57
    go_wp2
    refine wp_loop_rounds 2 ?_
    rw [rounds_succ]
    go_wp2_with go_in
    rw [rounds_succ]
    go_wp2_with go_in
    go_ret
    exact ⟨rfl, rfl⟩
set_option maxHeartbeats 1000000 in
/-- A fault round n: is it m? -/
theorem is_wr (b : Nat) (n m : Int) (w : World) (h1 : w.cell? ⟨b, 2, none⟩ = some (.iface 30 (.int .i64 n))) :
    Calls Tryd.prog 42 #[.iface 97 (.pointer (some ⟨b, 0, none⟩)), .iface 30 (.int .i64 m)] w fun e w' => e = .returned (.bool (n == m)) ∧ w = w' := by
  have h8 := @run_callFunc_extern Tryd.prog 56 _ Extern.ReflectliteType.typeOf Tryd.func56 (by kernel_rfl) (by kernel_rfl) (by kernel_rfl) (by kernel_rfl)
  have h32 := @run_callFunc_extern Tryd.prog 106 _ cmpF Tryd.func106 (by kernel_rfl) (by kernel_rfl) (by kernel_rfl) (by kernel_rfl)
  have tT := typeOfE
  have cT := isComparableE
  have mR := isMethodComparable
  have H := Lib.hid (is2 b n m w h1)
  clear h1
  go_enter Tryd.func42, Tryd.ntmps42
  go_wp2_with (first | (go_at_call 57; (with_reducible refine H.out.mono ?_); rintro e w' ⟨rfl, rfl⟩) | go_in)
  go_ret
  exact ⟨rfl, rfl⟩
/-- The error: none, or a fault round the number. -/
def Er (w : World) (v : Value) (n : Int) : Prop := (n = 0 ∧ v = .nilIface) ∨ (n ≠ 0 ∧ ∃ b, v = .iface 97 (.pointer (some ⟨b, 0, none⟩)) ∧ w.cell? ⟨b, 2, none⟩ = some (.iface 30 (.int .i64 n)))
theorem Er.below {w w' : World} {v : Value} {n : Int} (h : Er w v n) (hb : Below w.heap.size w w') : Er w' v n := by
  rcases h with h | ⟨h0, b, e, h1⟩
  · exact .inl h
  · exact .inr ⟨h0, b, e, (hb.cell (p := ⟨b, 2, none⟩) (World.block_lt_of_cell? w ⟨b, 2, none⟩ h1)).trans h1⟩
theorem eris {w : World} {v : Value} {n : Int} (h : Er w v n) {m : Int} (hm : m ≠ 0) : Calls Tryd.prog 42 #[v, .iface 30 (.int .i64 m)] w fun e w' => e = .returned (.bool (n == m)) ∧ w = w' := by
  rcases h with ⟨rfl, rfl⟩ | ⟨_, b, rfl, h1⟩
  · have : ((0 : Int) == m) = false := by simpa using fun e => hm e.symm
    rw [this]
    exact is_nil m w
  · exact is_wr b n m w h1
/-- fault.Of. -/
theorem fltof (s : ByteArray) (a : Int) (n : Int) (w : World) : Calls Tryd.prog 39 #[.string s, .int .i64 a, .int .i64 n] w fun e w' => ∃ v, e = .returned v ∧ Er w' v n ∧ Below w.heap.size w w' := by
  by_cases h : n = 0
  · subst h
    go_enter Tryd.func39, Tryd.ntmps39
    go_wp2
    go_ret
    exact ⟨_, rfl, .inl ⟨rfl, rfl⟩, Below.refl _ _⟩
  · have h' : (n == 0) = false := by simpa using h
    go_enter Tryd.func39, Tryd.ntmps39
    go_wp2_with (go_at_call 36; (with_reducible refine (fltnew _ _ _ _ _).mono ?_); rintro e w' ⟨rfl, rfl⟩)
    go_ret
    exact ⟨_, rfl, .inr ⟨h, _, rfl, by simp⟩, (Below.refl _ _).alloc (Nat.le_refl _) _⟩
end Go.Proofs.YtcakipojmkehgaaDoor
