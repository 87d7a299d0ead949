/- Put together: Fas, Fas2, Fas3. Conditions: each theorem's own. -/
import Derived.Test.YtcakipojmkehgaaDoorProg
import Derived.WalkKit
import Derived.WalkSpells
import Derived.WalkLawsBesides
import Derived.LaidEql
import Derived.Stop.Asserts
import Derived.RowKitTokens
import Derived.Lib.Hide
namespace Go.Proofs.YtcakipojmkehgaaDoor
open Go.RowKit Go.Extern.Stop Go.Stop Go.Extern

/-- The variable errors.errorType holds the handle of the type error. -/
def Gd (w : World) : Prop := w.cell? ⟨0, 0, none⟩ = some (.iface 116 (.agg #[.pointer (some ⟨1, 60, none⟩)]))
theorem Gd.pos {w : World} (h : Gd w) : 0 < w.heap.size := by
  rcases Nat.lt_or_ge 0 w.heap.size with h0 | h0
  · exact h0
  · simp [Gd, World.cell?, Array.getElem?_eq_none h0] at h
theorem Gd.below {B : Nat} {w w' : World} (h : Gd w) (hb : Below B w w') (hB : 0 < B) : Gd w' :=
  (hb.cell (p := ⟨0, 0, none⟩) hB).trans h

theorem as_nil (t : Value) (w : World) :
    Calls Tryd.prog 77 #[.nilIface, t] w fun e w' => e = .returned (.bool false) ∧ w' = w := by
  go_enter Tryd.func77, Tryd.ntmps77
  go_wp2
  go_ret
  exact ⟨rfl, rfl⟩

theorem valueOfP (t : Addr) (w : World) : (ReflectliteValue.unpack (.iface 143 (.pointer (some t)))).run Tryd.prog w
    = .ok (.agg #[.pointer (some ⟨1, 143, none⟩), .pointer (some ⟨w.heap.size, 0, none⟩), .int .u64 150]) (w.alloc (.cells #[.pointer (some t)] 143)) := by kernel_rfl
theorem typeP (a : Addr) (w : World) : (ReflectliteValue.methodAny (ReflectliteValue.valueError "reflectlite.Value.Type" 0) (fun t _ _ _ => ReflectliteType.toType t) #[.agg #[.pointer (some ⟨1, 143, none⟩), .pointer (some a), .int .u64 150]]).run Tryd.prog w
    = .ok (.iface 116 (.agg #[.pointer (some ⟨1, 143, none⟩)])) w := by kernel_rfl
theorem methodKind (h : Value) (w : World) : (Go.method 286 116 (.agg #[h]) "Kind").run Tryd.prog w = .ok (98, h) w := by kernel_rfl
theorem kindP (w : World) : ((ReflectliteType.abiMethod fun t => (fun a : Nat => Value.int IntKind.u8 (a : Int)) <$> Rtype.kind t) #[.pointer (some ⟨1, 143, none⟩)]).run Tryd.prog w = .ok (.int .u8 22) w := by kernel_rfl
theorem kindE (w : World) : ((ReflectliteType.abiMethod fun t => (fun a : Nat => Value.int IntKind.u8 (a : Int)) <$> Rtype.kind t) #[.pointer (some ⟨1, 30, none⟩)]).run Tryd.prog w = .ok (.int .u8 2) w := by kernel_rfl
theorem rlm (z : Sem Value) (f : TypeId → Addr → Nat → Nat → Sem Value) (v : Value) :
    ReflectliteValue.method z f #[v] = (do match ← ReflectliteValue.parts v with | none => z | some (t, a, fl) => f t a fl (fl % 32)) := rfl
theorem partsP (a : Addr) (w : World) : (ReflectliteValue.parts (.agg #[.pointer (some ⟨1, 143, none⟩), .pointer (some a), .int .u64 150])).run Tryd.prog w = .ok (some (143, a, 150)) w := by kernel_rfl
theorem isNilP (a p : Addr) (W : World) (ha : W.cell? a = some (.pointer (some p))) :
    (ReflectliteValue.method (ReflectliteValue.valueError "reflectlite.Value.IsNil" 0) ReflectliteValue.isNil #[.agg #[.pointer (some ⟨1, 143, none⟩), .pointer (some a), .int .u64 150]]).run Tryd.prog W = .ok (.bool false) W := by
  rw [rlm]
  simp only [Sem.run_bind, partsP, Result.andThen]
  simp [ReflectliteValue.isNil, loadVar, isAgg, underlying, Tryd.underlying143, ha, Result.andThen]
theorem methodElem (h : Value) (w : World) : (Go.method 286 116 (.agg #[h]) "Elem").run Tryd.prog w = .ok (107, .agg #[h]) w := by kernel_rfl
theorem methodImplements (h : Value) (w : World) : (Go.method 286 116 (.agg #[h]) "Implements").run Tryd.prog w = .ok (108, .agg #[h]) w := by kernel_rfl
theorem methodAssignableTo (h : Value) (w : World) : (Go.method 286 116 (.agg #[h]) "AssignableTo").run Tryd.prog w = .ok (105, .agg #[h]) w := by kernel_rfl
theorem elemP (w : World) : (ReflectliteType.method ReflectliteType.elem #[.agg #[.pointer (some ⟨1, 143, none⟩)]]).run Tryd.prog w = .ok (.iface 116 (.agg #[.pointer (some ⟨1, 30, none⟩)])) w := by kernel_rfl
theorem implementsE (w : World) : (ReflectliteType.relation "Implements" ReflectliteType.implements_ #[.agg #[.pointer (some ⟨1, 30, none⟩)], .iface 116 (.agg #[.pointer (some ⟨1, 60, none⟩)])]).run Tryd.prog w = .ok (.bool true) w := by kernel_rfl
theorem typeOfE (v : Value) (w : World) : (ReflectliteType.typeOf #[.iface 30 v]).run Tryd.prog w = .ok (.iface 116 (.agg #[.pointer (some ⟨1, 30, none⟩)])) w := by kernel_rfl
theorem typeOfU (v : Value) (w : World) : (ReflectliteType.typeOf #[.iface 97 v]).run Tryd.prog w = .ok (.iface 116 (.agg #[.pointer (some ⟨1, 97, none⟩)])) w := by kernel_rfl
theorem assignableE (w : World) : (ReflectliteType.relation "AssignableTo" ReflectliteType.assignableTo #[.agg #[.pointer (some ⟨1, 30, none⟩)], .iface 116 (.agg #[.pointer (some ⟨1, 30, none⟩)])]).run Tryd.prog w = .ok (.bool true) w := by kernel_rfl
theorem assignableU (w : World) : (ReflectliteType.relation "AssignableTo" ReflectliteType.assignableTo #[.agg #[.pointer (some ⟨1, 97, none⟩)], .iface 116 (.agg #[.pointer (some ⟨1, 30, none⟩)])]).run Tryd.prog w = .ok (.bool false) w := by kernel_rfl
theorem valueOfE (e : Int) (w : World) : (ReflectliteValue.unpack (.iface 30 (.int .i64 e))).run Tryd.prog w
    = .ok (.agg #[.pointer (some ⟨1, 30, none⟩), .pointer (some ⟨w.heap.size, 0, none⟩), .int .u64 130]) (w.alloc (.cells #[.int .i64 e] 30)) := by kernel_rfl
theorem elemOfP (w : World) : (Rtype.elem? 143).run Tryd.prog w = .ok (some 30) w := by kernel_rfl
theorem mkE (p : Addr) (w : World) : (ReflectliteValue.mk 30 p ReflectliteValue.flagAddr).run Tryd.prog w = .ok (.agg #[.pointer (some ⟨1, 30, none⟩), .pointer (some p), .int .u64 386]) w := by kernel_rfl
theorem elemVP (a p : Addr) (W : World) (ha : W.cell? a = some (.pointer (some p))) :
    (ReflectliteValue.method (ReflectliteValue.valueError "reflectlite.Value.Elem" 0) ReflectliteValue.elem #[.agg #[.pointer (some ⟨1, 143, none⟩), .pointer (some a), .int .u64 150]]).run Tryd.prog W
      = .ok (.agg #[.pointer (some ⟨1, 30, none⟩), .pointer (some p), .int .u64 386]) W := by
  rw [rlm]
  simp only [Sem.run_bind, partsP, Result.andThen]
  simp [ReflectliteValue.elem, loadVar, isAgg, underlying, Tryd.underlying143, ha, Result.andThen, elemOfP, mkE]
theorem rls (v x : Value) : ReflectliteValue.set #[v, x] = (do
    let (some (dst, a, fl), some (src, b, _)) := (← ReflectliteValue.parts v, ← ReflectliteValue.parts x)
      | unsupported (.noEntry "extern/(internal/reflectlite.Value).Set.zeroValue")
    if fl / ReflectliteValue.flagAddr % 2 == 0 then unsupported (.noEntry "extern/(internal/reflectlite.Value).Set.unaddressable")
    let val ← loadVar src b
    if ← Rtype.directlyAssignable dst src then storeVar dst a val
    else if ← Rtype.implements dst src then
      if (← Rtype.kind src) == 20 then
        match val with
        | .nilIface => unsupported (.noEntry "extern/reflectlite: a nil value of one interface type handed on as a value of another")
        | _ => storeVar dst a val
      else storeVar dst a (.iface src val)
    else panicString ("reflectlite.Set: value of type " ++ (← Rtype.spelt src) ++ " is not assignable to type " ++ (← Rtype.spelt dst))
    pure (.tuple #[])) := rfl
theorem partsEa (a : Addr) (w : World) : (ReflectliteValue.parts (.agg #[.pointer (some ⟨1, 30, none⟩), .pointer (some a), .int .u64 386])).run Tryd.prog w = .ok (some (30, a, 386)) w := by kernel_rfl
theorem partsE (a : Addr) (w : World) : (ReflectliteValue.parts (.agg #[.pointer (some ⟨1, 30, none⟩), .pointer (some a), .int .u64 130])).run Tryd.prog w = .ok (some (30, a, 130)) w := by kernel_rfl
theorem directE (w : World) : (Rtype.directlyAssignable 30 30).run Tryd.prog w = .ok true w := by kernel_rfl
theorem setE (ta b : Addr) (e : Int) (old : Value) (W : World) (hb : W.cell? b = some (.int .i64 e)) (ht : W.cell? ta = some old) (hf : W.frozen? ta = false) :
    (ReflectliteValue.set #[.agg #[.pointer (some ⟨1, 30, none⟩), .pointer (some ta), .int .u64 386], .agg #[.pointer (some ⟨1, 30, none⟩), .pointer (some b), .int .u64 130]]).run Tryd.prog W
      = .ok (.tuple #[]) (W.setCell ta (.int .i64 e)) := by
  rw [rls]
  simp only [Sem.run_bind, partsEa, partsE, Result.andThen]
  simp [ReflectliteValue.flagAddr, loadVar, isAgg, underlying, Tryd.underlying30, hb, Result.andThen, directE, storeVar, Value.cells, storeCells, Addr.add]
  rw [run_store Tryd.prog W ta _ _ (by rfl)]
  simp [ht, hf]
end Go.Proofs.YtcakipojmkehgaaDoor

namespace Go.Proofs.YtcakipojmkehgaaDoor
open Go.RowKit Go.Extern.Stop Go.Stop Go.Extern

theorem noAs (v : Value) (w : World) : (Instr.typeAssert (.iface 97 v) 60 156 true).run Tryd.prog w = .ok (.tuple #[.nilIface, .bool false]) w := run_typeAssert_lacksB Tryd.underlying156 (by kernel_rfl) (by kernel_rfl) v 60 w
theorem hasUn (v : Value) (w : World) : (Instr.typeAssert (.iface 97 v) 60 121 true).run Tryd.prog w = .ok (.tuple #[.iface 97 v, .bool true]) w := run_typeAssert_hasB Tryd.underlying121 (by kernel_rfl) v 60 w
theorem methodUn (h : Addr) (w : World) : (Go.method 286 97 (.pointer (some h)) "Unwrap").run Tryd.prog w = .ok (103, .pointer (some h)) w := by kernel_rfl

/-- The Value of the target's pointer, at va. -/
abbrev tv (va : Addr) : Value := .agg #[.pointer (some ⟨1, 143, none⟩), .pointer (some va), .int .u64 150]
abbrev tt : Value := .iface 116 (.agg #[.pointer (some ⟨1, 30, none⟩)])

set_option maxHeartbeats 4000000 in
theorem as2 (b : Nat) (va t : Addr) (n : Int) (old tg : Value) (w : World) (hw : w.cell? ⟨b, 2, none⟩ = some (.iface 30 (.int .i64 n)))
    (hv : w.cell? va = some (.pointer (some t))) (ht0 : w.cell? t = some old) (hf0 : w.frozen? t = false) :
    Calls Tryd.prog 81 #[.iface 97 (.pointer (some ⟨b, 0, none⟩)), tg, tv va, tt] w fun ev w' => ev = .returned (.bool true) ∧
      w' = ((w.alloc (.cells #[.pointer (some ⟨1, 143, none⟩), .pointer (some va), .int .u64 150] 147)).alloc (.cells #[.int .i64 n] 30)).setCell t (.int .i64 n) := by
  have h30 := @run_callFunc_extern Tryd.prog 78 _ (fun args => ReflectliteValue.unpack (args.getD 0 (.tuple #[]))) Tryd.func78 (by kernel_rfl) (by kernel_rfl) (by kernel_rfl) (by kernel_rfl)
  have h35 := @run_callFunc_extern Tryd.prog 56 _ ReflectliteType.typeOf Tryd.func56 (by kernel_rfl) (by kernel_rfl) (by kernel_rfl) (by kernel_rfl)
  have h62 := @run_callFunc_extern Tryd.prog 105 _ (ReflectliteType.relation "AssignableTo" ReflectliteType.assignableTo) Tryd.func105 (by kernel_rfl) (by kernel_rfl) (by kernel_rfl) (by kernel_rfl)
  have h36 := @run_callFunc_extern Tryd.prog 82 _ (ReflectliteValue.method (ReflectliteValue.valueError "reflectlite.Value.Elem" 0) ReflectliteValue.elem) Tryd.func82 (by kernel_rfl) (by kernel_rfl) (by kernel_rfl) (by kernel_rfl)
  have h37 := @run_callFunc_extern Tryd.prog 83 _ ReflectliteValue.set Tryd.func83 (by kernel_rfl) (by kernel_rfl) (by kernel_rfl) (by kernel_rfl)
  have tE := typeOfE
  have tU := typeOfU
  have mA := methodAssignableTo
  have aE := assignableE
  have aU := assignableU
  have vE := valueOfE
  have nA := noAs
  have hU := hasUn
  have mU := methodUn
  have hbl : b < w.heap.size := World.block_lt_of_cell? w ⟨b, 2, none⟩ hw
  have hvl : va.block < w.heap.size := World.block_lt_of_cell? w va hv
  have htl : t.block < w.heap.size := World.block_lt_of_cell? w t ht0
  have hw1 : (w.alloc (.cells #[.pointer (some ⟨1, 143, none⟩), .pointer (some va), .int .u64 150] 147)).cell? ⟨b, 2, none⟩ = some (.iface 30 (.int .i64 n)) := by
    rw [World.cell?_alloc_lt _ _ ⟨b, 2, none⟩ hbl]; exact hw
  have el := elemVP va t (w.alloc (.cells #[.pointer (some ⟨1, 143, none⟩), .pointer (some va), .int .u64 150] 147)) (by rw [World.cell?_alloc_lt _ _ va hvl]; exact hv)
  have st := setE t ⟨w.heap.size + 1, 0, none⟩ n old ((w.alloc (.cells #[.pointer (some ⟨1, 143, none⟩), .pointer (some va), .int .u64 150] 147)).alloc (.cells #[.int .i64 n] 30))
    (by rw [World.cell?_alloc_at _ _ _ _ (by simp)]; rfl)
    (by rw [World.cell?_alloc_lt _ _ t (by simp; omega), World.cell?_alloc_lt _ _ t htl]; exact ht0)
    (by rw [World.frozen?_alloc_old _ _ t (by simp; omega), World.frozen?_alloc_old _ _ t (by omega)]; exact hf0)
  clear hw hv ht0 hf0 hbl hvl htl
  go_enter Tryd.func81, Tryd.ntmps81
  go_wp2
  refine wp_loop_rounds 2 ?_
  rw [rounds_succ]
  go_wp2
  rw [rounds_succ]
  go_wp2
  go_ret
  exact ⟨rfl, rfl⟩
set_option maxHeartbeats 4000000 in
theorem as3 (b c : Nat) (va t : Addr) (n : Int) (old tg : Value) (w : World) (hc : w.cell? ⟨b, 2, none⟩ = some (.iface 97 (.pointer (some ⟨c, 0, none⟩)))) (hw : w.cell? ⟨c, 2, none⟩ = some (.iface 30 (.int .i64 n)))
    (hv : w.cell? va = some (.pointer (some t))) (ht0 : w.cell? t = some old) (hf0 : w.frozen? t = false) :
    Calls Tryd.prog 81 #[.iface 97 (.pointer (some ⟨b, 0, none⟩)), tg, tv va, tt] w fun ev w' => ev = .returned (.bool true) ∧
      w' = ((w.alloc (.cells #[.pointer (some ⟨1, 143, none⟩), .pointer (some va), .int .u64 150] 147)).alloc (.cells #[.int .i64 n] 30)).setCell t (.int .i64 n) := by
  have h30 := @run_callFunc_extern Tryd.prog 78 _ (fun args => ReflectliteValue.unpack (args.getD 0 (.tuple #[]))) Tryd.func78 (by kernel_rfl) (by kernel_rfl) (by kernel_rfl) (by kernel_rfl)
  have h35 := @run_callFunc_extern Tryd.prog 56 _ ReflectliteType.typeOf Tryd.func56 (by kernel_rfl) (by kernel_rfl) (by kernel_rfl) (by kernel_rfl)
  have h62 := @run_callFunc_extern Tryd.prog 105 _ (ReflectliteType.relation "AssignableTo" ReflectliteType.assignableTo) Tryd.func105 (by kernel_rfl) (by kernel_rfl) (by kernel_rfl) (by kernel_rfl)
  have h36 := @run_callFunc_extern Tryd.prog 82 _ (ReflectliteValue.method (ReflectliteValue.valueError "reflectlite.Value.Elem" 0) ReflectliteValue.elem) Tryd.func82 (by kernel_rfl) (by kernel_rfl) (by kernel_rfl) (by kernel_rfl)
  have h37 := @run_callFunc_extern Tryd.prog 83 _ ReflectliteValue.set Tryd.func83 (by kernel_rfl) (by kernel_rfl) (by kernel_rfl) (by kernel_rfl)
  have tE := typeOfE
  have tU := typeOfU
  have mA := methodAssignableTo
  have aE := assignableE
  have aU := assignableU
  have vE := valueOfE
  have nA := noAs
  have hU := hasUn
  have mU := methodUn
  have hbl : b < w.heap.size := World.block_lt_of_cell? w ⟨b, 2, none⟩ hc
  have hcl : c < w.heap.size := World.block_lt_of_cell? w ⟨c, 2, none⟩ hw
  have hvl : va.block < w.heap.size := World.block_lt_of_cell? w va hv
  have htl : t.block < w.heap.size := World.block_lt_of_cell? w t ht0
  have hw1 : (w.alloc (.cells #[.pointer (some ⟨1, 143, none⟩), .pointer (some va), .int .u64 150] 147)).cell? ⟨c, 2, none⟩ = some (.iface 30 (.int .i64 n)) := by
    rw [World.cell?_alloc_lt _ _ ⟨c, 2, none⟩ hcl]; exact hw
  have hc1 : (w.alloc (.cells #[.pointer (some ⟨1, 143, none⟩), .pointer (some va), .int .u64 150] 147)).cell? ⟨b, 2, none⟩ = some (.iface 97 (.pointer (some ⟨c, 0, none⟩))) := by
    rw [World.cell?_alloc_lt _ _ ⟨b, 2, none⟩ hbl]; exact hc
  have el := elemVP va t (w.alloc (.cells #[.pointer (some ⟨1, 143, none⟩), .pointer (some va), .int .u64 150] 147)) (by rw [World.cell?_alloc_lt _ _ va hvl]; exact hv)
  have st := setE t ⟨w.heap.size + 1, 0, none⟩ n old ((w.alloc (.cells #[.pointer (some ⟨1, 143, none⟩), .pointer (some va), .int .u64 150] 147)).alloc (.cells #[.int .i64 n] 30))
    (by rw [World.cell?_alloc_at _ _ _ _ (by simp)]; rfl)
    (by rw [World.cell?_alloc_lt _ _ t (by simp; omega), World.cell?_alloc_lt _ _ t htl]; exact ht0)
    (by rw [World.frozen?_alloc_old _ _ t (by simp; omega), World.frozen?_alloc_old _ _ t (by omega)]; exact hf0)
  clear hw hc hv ht0 hf0 hbl hcl hvl htl
  go_enter Tryd.func81, Tryd.ntmps81
  go_wp2
  refine wp_loop_rounds 3 ?_
  rw [rounds_succ]
  go_wp2
  rw [rounds_succ]
  go_wp2
  rw [rounds_succ]
  go_wp2
  go_ret
  exact ⟨rfl, rfl⟩

/-- The error v wraps the number n, once or twice. -/
def Wr (w : World) (v : Value) (n : Int) : Prop :=
  (∃ b, v = .iface 97 (.pointer (some ⟨b, 0, none⟩)) ∧ w.cell? ⟨b, 2, none⟩ = some (.iface 30 (.int .i64 n))) ∨
  (∃ b c, v = .iface 97 (.pointer (some ⟨b, 0, none⟩)) ∧ w.cell? ⟨b, 2, none⟩ = some (.iface 97 (.pointer (some ⟨c, 0, none⟩))) ∧ w.cell? ⟨c, 2, none⟩ = some (.iface 30 (.int .i64 n)))
theorem Wr.isFault {w : World} {v : Value} {n : Int} (h : Wr w v n) : ∃ b, v = .iface 97 (.pointer (some ⟨b, 0, none⟩)) := by
  rcases h with ⟨b, h, _⟩ | ⟨b, c, h, _⟩ <;> exact ⟨b, h⟩
theorem Wr.below {w w' : World} {v : Value} {n : Int} (h : Wr w v n) (hb : Below w.heap.size w w') : Wr w' v n := by
  rcases h with ⟨b, e, h1⟩ | ⟨b, c, e, h1, h2⟩
  · exact .inl ⟨b, e, (hb.cell (p := ⟨b, 2, none⟩) (World.block_lt_of_cell? w ⟨b, 2, none⟩ h1)).trans h1⟩
  · exact .inr ⟨b, c, e, (hb.cell (p := ⟨b, 2, none⟩) (World.block_lt_of_cell? w ⟨b, 2, none⟩ h1)).trans h1, (hb.cell (p := ⟨c, 2, none⟩) (World.block_lt_of_cell? w ⟨c, 2, none⟩ h2)).trans h2⟩

theorem asw (v : Value) (va t : Addr) (n : Int) (old tg : Value) (w : World) (hw : Wr w v n)
    (hv : w.cell? va = some (.pointer (some t))) (ht0 : w.cell? t = some old) (hf0 : w.frozen? t = false) :
    Calls Tryd.prog 81 #[v, tg, tv va, tt] w fun ev w' => ev = .returned (.bool true) ∧
      w' = ((w.alloc (.cells #[.pointer (some ⟨1, 143, none⟩), .pointer (some va), .int .u64 150] 147)).alloc (.cells #[.int .i64 n] 30)).setCell t (.int .i64 n) := by
  rcases hw with ⟨b, rfl, h1⟩ | ⟨b, c, rfl, h1, h2⟩
  · exact as2 b va t n old tg w h1 hv ht0 hf0
  · exact as3 b c va t n old tg w h1 h2 hv ht0 hf0
end Go.Proofs.YtcakipojmkehgaaDoor

namespace Go.Proofs.YtcakipojmkehgaaDoor
open Go.RowKit Go.Extern.Stop Go.Stop Go.Extern

set_option maxHeartbeats 4000000 in
theorem asAny (v : Value) (t : Addr) (n : Int) (old : Value) (w : World) (hg : Gd w) (hw : Wr w v n) (ht0 : w.cell? t = some old) (hf0 : w.frozen? t = false) :
    Calls Tryd.prog 77 #[v, .iface 143 (.pointer (some t))] w fun ev w' => ev = .returned (.bool true) ∧ w'.cell? t = some (.int .i64 n) ∧ Below t.block w w' := by
  have h30 := @run_callFunc_extern Tryd.prog 78 _ (fun args => ReflectliteValue.unpack (args.getD 0 (.tuple #[]))) Tryd.func78 (by kernel_rfl) (by kernel_rfl) (by kernel_rfl) (by kernel_rfl)
  have h31 := @run_callFunc_extern Tryd.prog 79 _ (ReflectliteValue.methodAny (ReflectliteValue.valueError "reflectlite.Value.Type" 0) (fun t _ _ _ => ReflectliteType.toType t)) Tryd.func79 (by kernel_rfl) (by kernel_rfl) (by kernel_rfl) (by kernel_rfl)
  have h32 := @run_callFunc_extern Tryd.prog 80 _ (ReflectliteValue.method (ReflectliteValue.valueError "reflectlite.Value.IsNil" 0) ReflectliteValue.isNil) Tryd.func80 (by kernel_rfl) (by kernel_rfl) (by kernel_rfl) (by kernel_rfl)
  have h52 := @run_callFunc_extern Tryd.prog 98 _ (ReflectliteType.abiMethod fun t => do pure (.int .u8 (← Rtype.kind t))) Tryd.func98 (by kernel_rfl) (by kernel_rfl) (by kernel_rfl) (by kernel_rfl)
  have h64 := @run_callFunc_extern Tryd.prog 107 _ (ReflectliteType.method ReflectliteType.elem) Tryd.func107 (by kernel_rfl) (by kernel_rfl) (by kernel_rfl) (by kernel_rfl)
  have h65 := @run_callFunc_extern Tryd.prog 108 _ (ReflectliteType.relation "Implements" ReflectliteType.implements_) Tryd.func108 (by kernel_rfl) (by kernel_rfl) (by kernel_rfl) (by kernel_rfl)
  have vP := valueOfP
  have tP := typeP
  have mK := methodKind
  have mE := methodElem
  have mI := methodImplements
  have kP := kindP
  have kE := kindE
  have eP := elemP
  have iE := implementsE
  have nP := isNilP ⟨w.heap.size, 0, none⟩ t ((w.alloc (.cells #[.pointer (some t)] 143)).alloc (.cells #[.pointer (some ⟨1, 143, none⟩), .pointer (some ⟨w.heap.size, 0, none⟩), .int .u64 150] 147)) (by simp)
  have hlt := hg.pos
  have htl : t.block < w.heap.size := World.block_lt_of_cell? w t ht0
  have hb1 : Below w.heap.size w ((w.alloc (.cells #[.pointer (some t)] 143)).alloc (.cells #[.pointer (some ⟨1, 143, none⟩), .pointer (some ⟨w.heap.size, 0, none⟩), .int .u64 150] 147)) := ((Below.refl _ _).alloc (Nat.le_refl _) _).alloc (by simp) _
  have hg2 : ((w.alloc (.cells #[.pointer (some t)] 143)).alloc (.cells #[.pointer (some ⟨1, 143, none⟩), .pointer (some ⟨w.heap.size, 0, none⟩), .int .u64 150] 147)).cell? ⟨0, 0, none⟩ = some (.iface 116 (.agg #[.pointer (some ⟨1, 60, none⟩)])) := hg.below hb1 hlt
  have hW := Lib.hid (hw.below hb1)
  have hT := Lib.hid ((hb1.cell (p := t) htl).trans ht0)
  have hF := Lib.hid ((hb1.frozen (p := t) htl).trans hf0)
  obtain ⟨b, rfl⟩ := hw.isFault
  clear hw ht0 hf0 hg
  go_enter Tryd.func77, Tryd.ntmps77
  go_wp2_with (first | (go_at_call 81; refine (asw _ ⟨w.heap.size, 0, none⟩ t n old _ _ hW.out (by simp) hT.out hF.out).mono ?_; rintro e w' ⟨rfl, rfl⟩) | go_in)
  go_ret
  refine ⟨rfl, World.cell?_setCell_same _ _ _ (u := old) ?_, ?_⟩
  · rw [World.cell?_alloc_lt _ _ t (by simp; omega), World.cell?_alloc_lt _ _ t (by simp; omega)]; exact hT.out
  · exact (((hb1.mono (Nat.le_of_lt htl)).alloc (by simp; omega) _).alloc (by simp; omega) _).setCell (Nat.le_refl _) _

set_option maxHeartbeats 1000000 in
theorem errno_nil (w : World) : Calls Tryd.prog 72 #[.nilIface] w fun e w' => e = .returned (.int .i64 0) ∧ Below w.heap.size w w' := by
  go_enter Tryd.func72, Tryd.ntmps72
  go_wp2_with (go_at_call 77; refine (as_nil _ _).mono ?_; rintro e w' ⟨rfl, rfl⟩)
  go_ret
  exact ⟨rfl, (Below.refl _ _).alloc (Nat.le_refl _) _⟩

set_option maxHeartbeats 1000000 in
theorem errno_wr (v : Value) (n : Int) (w : World) (hg : Gd w) (hw : Wr w v n) : Calls Tryd.prog 72 #[v] w fun e w' => e = .returned (.int .i64 n) ∧ Below w.heap.size w w' := by
  have hb1 : Below w.heap.size w (w.alloc (.cells #[.int .i64 0] 30)) := (Below.refl _ _).alloc (Nat.le_refl _) _
  have hW := Lib.hid (hw.below hb1)
  have hG := Lib.hid (hg.below hb1 hg.pos)
  obtain ⟨b, rfl⟩ := hw.isFault
  clear hw hg
  go_enter Tryd.func72, Tryd.ntmps72
  go_wp2_with (go_at_call 77; refine (asAny _ ⟨w.heap.size, 0, none⟩ n (.int .i64 0) _ hG.out hW.out (by simp) (by simp)).mono ?_; rintro e w' ⟨rfl, hc, hb⟩)
  go_ret
  exact ⟨rfl, hb1.trans hb⟩
end Go.Proofs.YtcakipojmkehgaaDoor

