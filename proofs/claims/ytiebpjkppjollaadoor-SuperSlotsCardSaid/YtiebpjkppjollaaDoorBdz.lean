
/- Put together: Dec, Zer. Conditions: each theorem's own. -/
import Derived.Test.YtiebpjkppjollaaDoorProg
import Derived.WalkKit
import Derived.WalkSpells
import Derived.WalkLawsBesides
import Derived.Lib.Hide
import Derived.OwnWalk
import Derived.IntWalk
import Derived.Laws.BytesArg
import Derived.Test.YtiebpjkppjollaaDoorBpm
namespace Go.Proofs.YtiebpjkppjollaaDoor
open Go Go.RowKit

def bytesD (l : List Int) : List UInt8 := l.map fun n => UInt8.ofNat n.toNat
def strD (l : List Int) : ByteArray := ⟨(bytesD l).toArray⟩
theorem infoB : (Tryd.prog.info? 5).map (fun i => (i.zero, i.size, i.bytes)) = some (some (.int .u8 0), 1, 1) := by kernel_rfl
theorem convD_nil (w : World) : (convert 45 9 (.slice none 0 0)).run Tryd.prog w = .ok (.string ⟨#[]⟩) w := by kernel_rfl
theorem convD {w : World} {base n : Nat} {v : Value} {l : List Int} (h : w.ownsRow base 5 1 v n (l.map (Value.int .u8))) :
    (convert 45 9 v).run Tryd.prog w = .ok (.string (strD l)) w := by
  have hl : l.length = n := by have := h.1; simpa using this
  rcases h.2 with ⟨rfl, h0⟩ | ⟨g, cap, cur, rfl, _⟩
  · have : l = [] := List.eq_nil_of_length_eq_zero (by omega)
    subst this
    exact convD_nil w
  · rw [run_convert_bytes_string w 45 9 5 _ _ _ Tryd.underlying45 Tryd.underlying5 Tryd.underlying9]
    have hc := h.cells (g := g) rfl
    have hld := run_loadCells_list (P := Tryd.prog) (w := w) ⟨g, 0, none⟩ (l.map (Value.int .u8)) hc
    rw [List.length_map, hl] at hld
    rw [run_bytesToString w _ n cap l (by simpa using hld), foldl_push_bytes]
    simp [bytesD, strD]

/-- 'append([]byte{d}, out...)'. -/
theorem preD {w0 W : World} {ops : Array Oper} {rest : List Oper} {o : Oper} {a : Act} {Q : Exit → Act → World → Prop} (hgd : o.guard = none) (s x : Operand)
    (ho : o.op = .call { callee := .builtin .append, args := #[s, x], argTypes := #[45, 45] })
    (base : Nat) (v : Value) (n : Nat) (l : List Int) (d : Int) (hs : a.eval s = .slice (some ⟨W.heap.size, 0, none⟩) 1 1) (hx : a.eval x = v)
    (hown : W.ownsRow base 5 1 v n (l.map (Value.int .u8))) (hn : n ≤ 1000) (hbase : base ≤ W.heap.size) (hbel : Below base w0 W)
    (h : ∀ v' w', w'.ownsRow base 5 1 v' (n + 1) ((d :: l).map (Value.int .u8)) → Below base w0 w' → base ≤ w'.heap.size → wpList Tryd.prog ops Q rest (a.put o.dst v') w') :
    wpList Tryd.prog ops Q (o :: rest) a (W.alloc (.cells #[.int .u8 d] 5)) := by
  obtain ⟨i, hi, hz0, hz1, hz2⟩ := info_parts infoB
  have hl : l.length = n := by have := hown.1; simpa using this
  have hb := hbel.alloc hbase (.cells #[.int .u8 d] 5)
  have hd : (W.alloc (.cells #[.int .u8 d] 5)).ownsRow base 5 1 (.slice (some ⟨W.heap.size, 0, none⟩) 1 1) 1 [.int .u8 d] :=
    ⟨rfl, .inr ⟨W.heap.size, 1, _, rfl, hbase, heap_alloc_new W _, Nat.le_refl _, by unfold maxLen; omega, rfl, rfl⟩⟩
  have hown1 := hown.alloc (.cells #[.int .u8 d] 5)
  rcases hown.2 with ⟨rfl, h0⟩ | ⟨g, cap, cur, rfl, hbg, _⟩
  · have : l = [] := List.eq_nil_of_length_eq_zero (by omega)
    subst this
    subst h0
    refine wpList_plain hgd fun K' hK' => ?_
    have hrun := run_append_owned_none (P := Tryd.prog) _ base 45 o.type 5 i 1 Tryd.underlying45 hi _ 1 _ hd
    unfold Oper.wp
    simp [execOp, ho, resolve, invoke, builtin, hs, hx, hrun, Result.andThen]
    exact hK' _ _ (h _ _ (by simpa using hd) hb (by simp; omega))
  · refine wpList_append_own _ hgd s x 45 ho base 5 i (.int .u8 0) 1 1 Tryd.underlying45 hi hz0 hz1 hz2 rfl (by decide) _ 1 _ hs hd ⟨g, 0, none⟩ n cap (l.map (Value.int .u8)) hx (by simp [hl]) (hown1.cells rfl) (ints_oneCell _ _) ?_ ?_ ?_ ?_
    · unfold maxLen; omega
    · omega
    · simp; omega
    · intro v' w' h1 h2 _
      have hsz := h2.size
      simp at hsz
      refine h v' w' ?_ (hb.grown h2 (by simp; omega) (fun k hk => (hd.lt k hk).1)) (by omega)
      rw [Nat.add_comm]; exact h1

/-- A number's digits, as numbers of bytes. -/
def decF : Nat → Nat → List Int → List Int
  | 0, _, acc => acc
  | f + 1, n, acc => if n = 0 then acc else decF f (n / 10) (((48 + n % 10 : Nat) : Int) :: acc)
def decL (n : Nat) : List Int := if n = 0 then [48] else decF 20 n []
def decS (n : Nat) : ByteArray := strD (decL n)
/-- Where the loop stands: what is left of the number, and the digits that are done. -/
def DecR (n s : Nat) (ds : List Int) : Prop := (ds = [] ∧ s = n) ∨ (ds ≠ [] ∧ ∃ f, s < 10 ^ f ∧ decF f s ds = decL n)
theorem DecR.step {n s : Nat} {ds : List Int} (h : DecR n s ds) (hn : n < 10 ^ 20) (hs : 0 < s ∨ ds = []) : DecR n (s / 10) (((48 + s % 10 : Nat) : Int) :: ds) := by
  refine .inr ⟨by simp, ?_⟩
  rcases h with ⟨rfl, rfl⟩ | ⟨hd, f, hf, he⟩
  · by_cases h0 : s = 0
    · subst h0; exact ⟨0, by decide, rfl⟩
    · refine ⟨19, by omega, ?_⟩
      unfold decL
      rw [if_neg h0]
      conv => rhs; unfold decF
      rw [if_neg h0]
  · have hs' : 0 < s := by rcases hs with c | c; exact c; exact absurd c hd
    cases f with
    | zero => omega
    | succ f =>
      refine ⟨f, by rw [Nat.pow_succ] at hf; omega, ?_⟩
      rw [← he]
      conv => rhs; unfold decF
      rw [if_neg (by omega)]
theorem DecR.done {n : Nat} {ds : List Int} (h : DecR n 0 ds) (hd : ds ≠ []) : ds = decL n := by
  rcases h with ⟨c, _⟩ | ⟨_, f, _, he⟩
  · exact absurd c hd
  · rw [← he]; cases f <;> simp [decF]
theorem DecR.len {n s : Nat} {ds : List Int} (h : DecR n s ds) : ds.length ≤ 21 := by
  have h1 : ∀ f m acc, acc.length ≤ (decF f m acc).length := by
    intro f
    induction f with
    | zero => intro m acc; exact Nat.le_refl _
    | succ f ih =>
      intro m acc
      unfold decF
      split
      · exact Nat.le_refl _
      · have := ih (m / 10) (((48 + m % 10 : Nat) : Int) :: acc)
        simp at this ⊢; omega
  have h2 : ∀ f m acc, (decF f m acc).length ≤ acc.length + f := by
    intro f
    induction f with
    | zero => intro m acc; exact Nat.le_refl _
    | succ f ih =>
      intro m acc
      unfold decF
      split
      · omega
      · have := ih (m / 10) (((48 + m % 10 : Nat) : Int) :: acc)
        simp at this ⊢; omega
  rcases h with ⟨rfl, _⟩ | ⟨_, f, _, he⟩
  · simp
  · have h3 := h1 f s ds
    rw [he] at h3
    have h4 : (decL n).length ≤ 21 := by
      unfold decL
      split
      · simp
      · have := h2 20 n []; simp at this; omega
    omega

theorem rowD_shape {w : World} {base n : Nat} {v : Value} {xs : List Value} (h : w.ownsRow base 5 1 v n xs) : ∃ ao cap, v = .slice ao n cap := by
  rcases h.2 with ⟨rfl, h0⟩ | ⟨g, cap, _, rfl, _⟩
  · exact ⟨none, 0, by rw [h0]⟩
  · exact ⟨_, cap, rfl⟩

end Go.Proofs.YtiebpjkppjollaaDoor

namespace Go.Proofs.YtiebpjkppjollaaDoor
open Go Go.RowKit

abbrev zkObj (k : Nat) : Obj := .cells (madeCells #[.int .u8 0] k) 5
theorem zk_made (k : Nat) (hk : k ≤ 1000) (W : World) : (Instr.makeSlice 45 (.int .i64 (k : Int)) (.int .i64 (k : Int))).run Tryd.prog W = .ok (.slice (some ⟨W.heap.size, 0, none⟩) k k) (W.alloc (zkObj k)) := by
  obtain ⟨i, hi, hz0, hz1, hz2⟩ := info_parts infoB
  have := run_make (P := Tryd.prog) W 45 5 i (.int .u8 0) Tryd.underlying45 hi hz0 .i64 .i64 k k (by omega) (Int.le_refl _) (by rw [hz2]; omega) (by omega)
  rw [hz1, Int.toNat_natCast] at this
  rw [this, Nat.mul_one]
  rfl
theorem zk_own (k : Nat) (hk : k ≤ 1000) (W : World) : (W.alloc (zkObj k)).ownsRow 0 5 1 (.slice (some ⟨W.heap.size, 0, none⟩) k k) k ((List.replicate k (0 : Int)).map (Value.int .u8)) := by
  have hl : (madeCells #[.int .u8 0] k).toList = List.replicate k (.int .u8 0) := toList_madeCells_one _ _
  have hs : (madeCells #[.int .u8 0] k).size = k := by rw [← Array.length_toList, hl, List.length_replicate]
  refine ⟨by simp, .inr ⟨W.heap.size, k, _, rfl, Nat.zero_le _, heap_alloc_new W _, Nat.le_refl _, by unfold maxLen; omega, by omega, ?_⟩⟩
  rw [hl, List.map_replicate, Nat.mul_one, List.take_of_length_le (by simp)]
theorem zk_conv (k : Nat) (hk : k ≤ 1000) (W : World) : (convert 45 9 (.slice (some ⟨W.heap.size, 0, none⟩) k k)).run Tryd.prog (W.alloc (zkObj k)) = .ok (.string (zerN k)) (W.alloc (zkObj k)) := by
  have h := convD (zk_own k hk W)
  rw [h]
  unfold strD bytesD zerN
  rw [List.map_replicate]
  rfl
theorem zk_conv_drew (k : Nat) (hk : k ≤ 1000) (W : World) : (convert 45 9 (.slice (some ⟨W.heap.size, 0, none⟩) k k)).run Tryd.prog (W.alloc (zkObj k)).drew = .ok (.string (zerN k)) (W.alloc (zkObj k)).drew := by
  obtain ⟨a, b⟩ := zk_own k hk W
  have h2 : (W.alloc (zkObj k)).drew.ownsRow 0 5 1 (.slice (some ⟨W.heap.size, 0, none⟩) k k) k ((List.replicate k (0 : Int)).map (Value.int .u8)) := ⟨a, b⟩
  have h := convD h2
  rw [h]
  unfold strD bytesD zerN
  rw [List.map_replicate]
  rfl
end Go.Proofs.YtiebpjkppjollaaDoor

