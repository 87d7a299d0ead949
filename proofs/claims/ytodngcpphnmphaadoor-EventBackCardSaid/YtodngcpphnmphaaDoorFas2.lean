/- errors.As at a target of type *api.Errno: the walks of errors.as and errors.As for an error that wraps an api.Errno once or twice by *fault. Condition: errors.errorType holds the handle of the type error. -/
import Derived.Test.YtodngcpphnmphaaDoorFas
namespace Go.Proofs.YtodngcpphnmphaaDoor
open Go.RowKit Go.Extern.Stop Go.Stop Go.Extern

theorem noAs (v : Value) (w : World) : (Instr.typeAssert (.iface 85 v) 72 106 true).run Tryd.prog w = .ok (.tuple #[.nilIface, .bool false]) w := run_typeAssert_lacksB Tryd.underlying106 (by kernel_rfl) (by kernel_rfl) v 72 w
theorem hasUn (v : Value) (w : World) : (Instr.typeAssert (.iface 85 v) 72 109 true).run Tryd.prog w = .ok (.tuple #[.iface 85 v, .bool true]) w := run_typeAssert_hasB Tryd.underlying109 (by kernel_rfl) v 72 w
theorem methodUn (h : Addr) (w : World) : (Go.method 242 85 (.pointer (some h)) "Unwrap").run Tryd.prog w = .ok (67, .pointer (some h)) w := by kernel_rfl

/-- The Value of the target's pointer, at va. -/
abbrev tv (va : Addr) : Value := .agg #[.pointer (some ⟨1, 81, none⟩), .pointer (some va), .int .u64 150]
abbrev tt : Value := .iface 101 (.agg #[.pointer (some ⟨1, 24, none⟩)])

set_option maxHeartbeats 4000000 in
theorem as2 (b : Nat) (va t : Addr) (n : Int) (old tg : Value) (w : World) (hw : w.cell? ⟨b, 2, none⟩ = some (.iface 24 (.int .i64 n)))
    (hv : w.cell? va = some (.pointer (some t))) (ht0 : w.cell? t = some old) (hf0 : w.frozen? t = false) :
    Calls Tryd.prog 44 #[.iface 85 (.pointer (some ⟨b, 0, none⟩)), tg, tv va, tt] w fun ev w' => ev = .returned (.bool true) ∧
      w' = ((w.alloc (.cells #[.pointer (some ⟨1, 81, none⟩), .pointer (some va), .int .u64 150] 91)).alloc (.cells #[.int .i64 n] 24)).setCell t (.int .i64 n) := by
  have h30 := @run_callFunc_extern Tryd.prog 41 _ (fun args => ReflectliteValue.unpack (args.getD 0 (.tuple #[]))) Tryd.func41 (by kernel_rfl) (by kernel_rfl) (by kernel_rfl) (by kernel_rfl)
  have h35 := @run_callFunc_extern Tryd.prog 45 _ ReflectliteType.typeOf Tryd.func45 (by kernel_rfl) (by kernel_rfl) (by kernel_rfl) (by kernel_rfl)
  have h62 := @run_callFunc_extern Tryd.prog 72 _ (ReflectliteType.relation "AssignableTo" ReflectliteType.assignableTo) Tryd.func72 (by kernel_rfl) (by kernel_rfl) (by kernel_rfl) (by kernel_rfl)
  have h36 := @run_callFunc_extern Tryd.prog 46 _ (ReflectliteValue.method (ReflectliteValue.valueError "reflectlite.Value.Elem" 0) ReflectliteValue.elem) Tryd.func46 (by kernel_rfl) (by kernel_rfl) (by kernel_rfl) (by kernel_rfl)
  have h37 := @run_callFunc_extern Tryd.prog 47 _ ReflectliteValue.set Tryd.func47 (by kernel_rfl) (by kernel_rfl) (by kernel_rfl) (by kernel_rfl)
  have tE := typeOfE
  have tU := typeOfU
  have mA := methodAssignableTo
  have aE := assignableE
  have aU := assignableU
  have vE := valueOfE
  have nA := noAs
  have hU := hasUn
  have mU := methodUn
  have hbl : b < w.heap.size := World.block_lt_of_cell? w ⟨b, 2, none⟩ hw
  have hvl : va.block < w.heap.size := World.block_lt_of_cell? w va hv
  have htl : t.block < w.heap.size := World.block_lt_of_cell? w t ht0
  have hw1 : (w.alloc (.cells #[.pointer (some ⟨1, 81, none⟩), .pointer (some va), .int .u64 150] 91)).cell? ⟨b, 2, none⟩ = some (.iface 24 (.int .i64 n)) := by
    rw [World.cell?_alloc_lt _ _ ⟨b, 2, none⟩ hbl]; exact hw
  have el := elemVP va t (w.alloc (.cells #[.pointer (some ⟨1, 81, none⟩), .pointer (some va), .int .u64 150] 91)) (by rw [World.cell?_alloc_lt _ _ va hvl]; exact hv)
  have st := setE t ⟨w.heap.size + 1, 0, none⟩ n old ((w.alloc (.cells #[.pointer (some ⟨1, 81, none⟩), .pointer (some va), .int .u64 150] 91)).alloc (.cells #[.int .i64 n] 24))
    (by rw [World.cell?_alloc_at _ _ _ _ (by simp)]; rfl)
    (by rw [World.cell?_alloc_lt _ _ t (by simp; omega), World.cell?_alloc_lt _ _ t htl]; exact ht0)
    (by rw [World.frozen?_alloc_old _ _ t (by simp; omega), World.frozen?_alloc_old _ _ t (by omega)]; exact hf0)
  clear hw hv ht0 hf0 hbl hvl htl
  go_enter Tryd.func44, Tryd.ntmps44
  go_wp2
  refine wp_loop_rounds 2 ?_
  rw [rounds_succ]
  go_wp2
  rw [rounds_succ]
  go_wp2
  go_ret
  exact ⟨rfl, rfl⟩
set_option maxHeartbeats 4000000 in
theorem as3 (b c : Nat) (va t : Addr) (n : Int) (old tg : Value) (w : World) (hc : w.cell? ⟨b, 2, none⟩ = some (.iface 85 (.pointer (some ⟨c, 0, none⟩)))) (hw : w.cell? ⟨c, 2, none⟩ = some (.iface 24 (.int .i64 n)))
    (hv : w.cell? va = some (.pointer (some t))) (ht0 : w.cell? t = some old) (hf0 : w.frozen? t = false) :
    Calls Tryd.prog 44 #[.iface 85 (.pointer (some ⟨b, 0, none⟩)), tg, tv va, tt] w fun ev w' => ev = .returned (.bool true) ∧
      w' = ((w.alloc (.cells #[.pointer (some ⟨1, 81, none⟩), .pointer (some va), .int .u64 150] 91)).alloc (.cells #[.int .i64 n] 24)).setCell t (.int .i64 n) := by
  have h30 := @run_callFunc_extern Tryd.prog 41 _ (fun args => ReflectliteValue.unpack (args.getD 0 (.tuple #[]))) Tryd.func41 (by kernel_rfl) (by kernel_rfl) (by kernel_rfl) (by kernel_rfl)
  have h35 := @run_callFunc_extern Tryd.prog 45 _ ReflectliteType.typeOf Tryd.func45 (by kernel_rfl) (by kernel_rfl) (by kernel_rfl) (by kernel_rfl)
  have h62 := @run_callFunc_extern Tryd.prog 72 _ (ReflectliteType.relation "AssignableTo" ReflectliteType.assignableTo) Tryd.func72 (by kernel_rfl) (by kernel_rfl) (by kernel_rfl) (by kernel_rfl)
  have h36 := @run_callFunc_extern Tryd.prog 46 _ (ReflectliteValue.method (ReflectliteValue.valueError "reflectlite.Value.Elem" 0) ReflectliteValue.elem) Tryd.func46 (by kernel_rfl) (by kernel_rfl) (by kernel_rfl) (by kernel_rfl)
  have h37 := @run_callFunc_extern Tryd.prog 47 _ ReflectliteValue.set Tryd.func47 (by kernel_rfl) (by kernel_rfl) (by kernel_rfl) (by kernel_rfl)
  have tE := typeOfE
  have tU := typeOfU
  have mA := methodAssignableTo
  have aE := assignableE
  have aU := assignableU
  have vE := valueOfE
  have nA := noAs
  have hU := hasUn
  have mU := methodUn
  have hbl : b < w.heap.size := World.block_lt_of_cell? w ⟨b, 2, none⟩ hc
  have hcl : c < w.heap.size := World.block_lt_of_cell? w ⟨c, 2, none⟩ hw
  have hvl : va.block < w.heap.size := World.block_lt_of_cell? w va hv
  have htl : t.block < w.heap.size := World.block_lt_of_cell? w t ht0
  have hw1 : (w.alloc (.cells #[.pointer (some ⟨1, 81, none⟩), .pointer (some va), .int .u64 150] 91)).cell? ⟨c, 2, none⟩ = some (.iface 24 (.int .i64 n)) := by
    rw [World.cell?_alloc_lt _ _ ⟨c, 2, none⟩ hcl]; exact hw
  have hc1 : (w.alloc (.cells #[.pointer (some ⟨1, 81, none⟩), .pointer (some va), .int .u64 150] 91)).cell? ⟨b, 2, none⟩ = some (.iface 85 (.pointer (some ⟨c, 0, none⟩))) := by
    rw [World.cell?_alloc_lt _ _ ⟨b, 2, none⟩ hbl]; exact hc
  have el := elemVP va t (w.alloc (.cells #[.pointer (some ⟨1, 81, none⟩), .pointer (some va), .int .u64 150] 91)) (by rw [World.cell?_alloc_lt _ _ va hvl]; exact hv)
  have st := setE t ⟨w.heap.size + 1, 0, none⟩ n old ((w.alloc (.cells #[.pointer (some ⟨1, 81, none⟩), .pointer (some va), .int .u64 150] 91)).alloc (.cells #[.int .i64 n] 24))
    (by rw [World.cell?_alloc_at _ _ _ _ (by simp)]; rfl)
    (by rw [World.cell?_alloc_lt _ _ t (by simp; omega), World.cell?_alloc_lt _ _ t htl]; exact ht0)
    (by rw [World.frozen?_alloc_old _ _ t (by simp; omega), World.frozen?_alloc_old _ _ t (by omega)]; exact hf0)
  clear hw hc hv ht0 hf0 hbl hcl hvl htl
  go_enter Tryd.func44, Tryd.ntmps44
  go_wp2
  refine wp_loop_rounds 3 ?_
  rw [rounds_succ]
  go_wp2
  rw [rounds_succ]
  go_wp2
  rw [rounds_succ]
  go_wp2
  go_ret
  exact ⟨rfl, rfl⟩

/-- The error v wraps the number n, once or twice. -/
def Wr (w : World) (v : Value) (n : Int) : Prop :=
  (∃ b, v = .iface 85 (.pointer (some ⟨b, 0, none⟩)) ∧ w.cell? ⟨b, 2, none⟩ = some (.iface 24 (.int .i64 n))) ∨
  (∃ b c, v = .iface 85 (.pointer (some ⟨b, 0, none⟩)) ∧ w.cell? ⟨b, 2, none⟩ = some (.iface 85 (.pointer (some ⟨c, 0, none⟩))) ∧ w.cell? ⟨c, 2, none⟩ = some (.iface 24 (.int .i64 n)))
theorem Wr.isFault {w : World} {v : Value} {n : Int} (h : Wr w v n) : ∃ b, v = .iface 85 (.pointer (some ⟨b, 0, none⟩)) := by
  rcases h with ⟨b, h, _⟩ | ⟨b, c, h, _⟩ <;> exact ⟨b, h⟩
theorem Wr.below {w w' : World} {v : Value} {n : Int} (h : Wr w v n) (hb : Below w.heap.size w w') : Wr w' v n := by
  rcases h with ⟨b, e, h1⟩ | ⟨b, c, e, h1, h2⟩
  · exact .inl ⟨b, e, (hb.cell (p := ⟨b, 2, none⟩) (World.block_lt_of_cell? w ⟨b, 2, none⟩ h1)).trans h1⟩
  · exact .inr ⟨b, c, e, (hb.cell (p := ⟨b, 2, none⟩) (World.block_lt_of_cell? w ⟨b, 2, none⟩ h1)).trans h1, (hb.cell (p := ⟨c, 2, none⟩) (World.block_lt_of_cell? w ⟨c, 2, none⟩ h2)).trans h2⟩

theorem asw (v : Value) (va t : Addr) (n : Int) (old tg : Value) (w : World) (hw : Wr w v n)
    (hv : w.cell? va = some (.pointer (some t))) (ht0 : w.cell? t = some old) (hf0 : w.frozen? t = false) :
    Calls Tryd.prog 44 #[v, tg, tv va, tt] w fun ev w' => ev = .returned (.bool true) ∧
      w' = ((w.alloc (.cells #[.pointer (some ⟨1, 81, none⟩), .pointer (some va), .int .u64 150] 91)).alloc (.cells #[.int .i64 n] 24)).setCell t (.int .i64 n) := by
  rcases hw with ⟨b, rfl, h1⟩ | ⟨b, c, rfl, h1, h2⟩
  · exact as2 b va t n old tg w h1 hv ht0 hf0
  · exact as3 b c va t n old tg w h1 h2 hv ht0 hf0
end Go.Proofs.YtodngcpphnmphaaDoor
