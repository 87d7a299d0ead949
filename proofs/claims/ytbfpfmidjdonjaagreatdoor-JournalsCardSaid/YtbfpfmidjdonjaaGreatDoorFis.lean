/- errors.Is over an error that is nil, or a fault round a number: is it that number? Package fault's Of. No condition. -/
import Derived.Test.YtbfpfmidjdonjaaGreatDoorFlt
import Derived.Test.YtbfpfmidjdonjaaGreatDoorBfa
import Derived.Lib.IfaceEq
import Derived.Lib.Hide
import Derived.LaidEql
import Derived.Stop.Asserts
namespace Go.Proofs.YtbfpfmidjdonjaaGreatDoor
open Go.RowKit Go.Extern.Stop Go.Stop Go.Extern
def cmpF : Array Value → Sem Value := Extern.ReflectliteType.method fun t => do Extern.Rtype.noPackHeld "Comparable" t; pure (.bool (← typeInfo t).comparable)
theorem isComparableE (w : World) : (cmpF #[.agg #[.pointer (some ⟨1, 40, none⟩)]]).run Tryz.prog w = .ok (.bool true) w := by kernel_rfl
theorem isMethodComparable (v : Value) (w : World) : (Go.method 376 169 v "Comparable").run Tryz.prog w = .ok (170, v) w := by kernel_rfl
theorem noIsU (v : Value) (xT : TypeId) (w : World) : (Instr.typeAssert (.iface 178 v) xT 171 true).run Tryz.prog w = .ok (.tuple #[.nilIface, .bool false]) w := run_typeAssert_lacksB Tryz.underlying171 (by kernel_rfl) (by kernel_rfl) v xT w
theorem noIsE (v : Value) (xT : TypeId) (w : World) : (Instr.typeAssert (.iface 40 v) xT 171 true).run Tryz.prog w = .ok (.tuple #[.nilIface, .bool false]) w := run_typeAssert_lacksB Tryz.underlying171 (by kernel_rfl) (by kernel_rfl) v xT w
theorem noUnE (v : Value) (xT : TypeId) (w : World) : (Instr.typeAssert (.iface 40 v) xT 174 true).run Tryz.prog w = .ok (.tuple #[.nilIface, .bool false]) w := run_typeAssert_lacksB Tryz.underlying174 (by kernel_rfl) (by kernel_rfl) v xT w
theorem noUnsE (v : Value) (xT : TypeId) (w : World) : (Instr.typeAssert (.iface 40 v) xT 175 true).run Tryz.prog w = .ok (.tuple #[.nilIface, .bool false]) w := run_typeAssert_lacksB Tryz.underlying175 (by kernel_rfl) (by kernel_rfl) v xT w
theorem hasUnU (v : Value) (xT : TypeId) (w : World) : (Instr.typeAssert (.iface 178 v) xT 174 true).run Tryz.prog w = .ok (.tuple #[.iface 178 v, .bool true]) w := run_typeAssert_hasB Tryz.underlying174 (by kernel_rfl) v xT w
theorem is_nil (m : Int) (w : World) : Calls Tryz.prog 67 #[.nilIface, .iface 40 (.int .i64 m)] w fun e w' => e = .returned (.bool false) ∧ w = w' := by
  have hn := run_eql_iface_nil_left (P := Tryz.prog) w 40 (.int .i64 m) Tryz.underlying93
  go_enter Tryz.func67, Tryz.ntmps67
  go_wp2
  go_ret
  exact ⟨rfl, rfl⟩
set_option maxHeartbeats 1000000 in
theorem is2 (b : Nat) (n m : Int) (w : World) (h1 : w.cell? ⟨b, 2, none⟩ = some (.iface 40 (.int .i64 n))) :
    Calls Tryz.prog 85 #[.iface 178 (.pointer (some ⟨b, 0, none⟩)), .iface 40 (.int .i64 m), .bool true] w fun e w' => e = .returned (.bool (n == m)) ∧ w = w' := by
  have nU := noIsU
  have nE := noIsE
  have uE := noUnE
  have vE := noUnsE
  have hU := hasUnU
  have mU := methodUn
  have e1 := run_eql_iface_types (P := Tryz.prog) 178 40 (.pointer (some ⟨b, 0, none⟩)) (.int .i64 m) Tryz.underlying93 (by decide) w
  have e2 := Lib.run_eql_iface_int (P := Tryz.prog) w (k := .i64) n m Tryz.underlying93 (tx := 40) (by kernel_rfl) Tryz.underlying40
  cases hc : (n == m) with
  | true =>
    rw [hc] at e2
    go_enter Tryz.func85, Tryz.ntmps85
    go_wp2
    refine wp_loop_rounds 2 ?_
    rw [rounds_succ]
    go_wp2_with go_in
    rw [rounds_succ]
    go_wp2_with go_in
    go_ret
    exact ⟨rfl, rfl⟩
  | false =>
    rw [hc] at e2
    go_enter Tryz.func85, Tryz.ntmps85
    go_wp2
    refine wp_loop_rounds 2 ?_
    rw [rounds_succ]
    go_wp2_with go_in
    rw [rounds_succ]
    go_wp2_with go_in
    go_ret
    exact ⟨rfl, rfl⟩
set_option maxHeartbeats 1000000 in
theorem is_wr (b : Nat) (n m : Int) (w : World) (h1 : w.cell? ⟨b, 2, none⟩ = some (.iface 40 (.int .i64 n))) :
    Calls Tryz.prog 67 #[.iface 178 (.pointer (some ⟨b, 0, none⟩)), .iface 40 (.int .i64 m)] w fun e w' => e = .returned (.bool (n == m)) ∧ w = w' := by
  have h8 := @run_callFunc_extern Tryz.prog 84 _ Extern.ReflectliteType.typeOf Tryz.func84 (by kernel_rfl) (by kernel_rfl) (by kernel_rfl) (by kernel_rfl)
  have h32 := @run_callFunc_extern Tryz.prog 170 _ cmpF Tryz.func170 (by kernel_rfl) (by kernel_rfl) (by kernel_rfl) (by kernel_rfl)
  have tT := typeOfE
  have cT := isComparableE
  have mR := isMethodComparable
  have H := Lib.hid (is2 b n m w h1)
  clear h1
  go_enter Tryz.func67, Tryz.ntmps67
  go_wp2_with (first | (go_at_call 85; (with_reducible refine H.out.mono ?_); rintro e w' ⟨rfl, rfl⟩) | go_in)
  go_ret
  exact ⟨rfl, rfl⟩
def Er (w : World) (v : Value) (n : Int) : Prop := (n = 0 ∧ v = .nilIface) ∨ (n ≠ 0 ∧ ∃ b, v = .iface 178 (.pointer (some ⟨b, 0, none⟩)) ∧ w.cell? ⟨b, 2, none⟩ = some (.iface 40 (.int .i64 n)))
theorem Er.below {w w' : World} {v : Value} {n : Int} (h : Er w v n) (hb : Below w.heap.size w w') : Er w' v n := by
  rcases h with h | ⟨h0, b, e, h1⟩
  · exact .inl h
  · exact .inr ⟨h0, b, e, (hb.cell (p := ⟨b, 2, none⟩) (World.block_lt_of_cell? w ⟨b, 2, none⟩ h1)).trans h1⟩
theorem eris {w : World} {v : Value} {n : Int} (h : Er w v n) {m : Int} (hm : m ≠ 0) : Calls Tryz.prog 67 #[v, .iface 40 (.int .i64 m)] w fun e w' => e = .returned (.bool (n == m)) ∧ w = w' := by
  rcases h with ⟨rfl, rfl⟩ | ⟨_, b, rfl, h1⟩
  · have : ((0 : Int) == m) = false := by simpa using fun e => hm e.symm
    rw [this]
    exact is_nil m w
  · exact is_wr b n m w h1
theorem fltof (s : ByteArray) (a : Int) (n : Int) (w : World) : Calls Tryz.prog 86 #[.string s, .int .i64 a, .int .i64 n] w fun e w' => ∃ v, e = .returned v ∧ Er w' v n ∧ Below w.heap.size w w' := by
  by_cases h : n = 0
  · subst h
    go_enter Tryz.func86, Tryz.ntmps86
    go_wp2
    go_ret
    exact ⟨_, rfl, .inl ⟨rfl, rfl⟩, Below.refl _ _⟩
  · have h' : (n == 0) = false := by simpa using h
    go_enter Tryz.func86, Tryz.ntmps86
    go_wp2_with (go_at_call 92; (with_reducible refine (fltnew _ _ _ _ _).mono ?_); rintro e w' ⟨rfl, rfl⟩)
    go_ret
    exact ⟨_, rfl, .inr ⟨h, _, rfl, by simp⟩, (Below.refl _ _).alloc (Nat.le_refl _) _⟩
end Go.Proofs.YtbfpfmidjdonjaaGreatDoor
