/- The reference's Decimal answers a number's digits (numbers that are not negative). No other condition. -/
import Derived.Test.YtlnliphejjfdeaaProg
import Derived.WalkKit
import Derived.WalkSpells
import Derived.WalkLawsBesides
import Derived.Lib.Hide
import Derived.OwnWalk
import Derived.IntWalk
import Derived.Laws.BytesArg
namespace Go.Proofs.Ytlnliphejjfdeaa
open Go Go.RowKit

def bytesD (l : List Int) : List UInt8 := l.map fun n => UInt8.ofNat n.toNat
def strD (l : List Int) : ByteArray := ⟨(bytesD l).toArray⟩
theorem infoB : (Try.prog.info? 5).map (fun i => (i.zero, i.size, i.bytes)) = some (some (.int .u8 0), 1, 1) := by kernel_rfl
theorem convD_nil (w : World) : (convert 62 9 (.slice none 0 0)).run Try.prog w = .ok (.string ⟨#[]⟩) w := by kernel_rfl
theorem convD {w : World} {base n : Nat} {v : Value} {l : List Int} (h : w.ownsRow base 5 1 v n (l.map (Value.int .u8))) :
    (convert 62 9 v).run Try.prog w = .ok (.string (strD l)) w := by
  have hl : l.length = n := by have := h.1; simpa using this
  rcases h.2 with ⟨rfl, h0⟩ | ⟨g, cap, cur, rfl, _⟩
  · have : l = [] := List.eq_nil_of_length_eq_zero (by omega)
    subst this
    exact convD_nil w
  · rw [run_convert_bytes_string w 62 9 5 _ _ _ Try.underlying62 Try.underlying5 Try.underlying9]
    have hc := h.cells (g := g) rfl
    have hld := run_loadCells_list (P := Try.prog) (w := w) ⟨g, 0, none⟩ (l.map (Value.int .u8)) hc
    rw [List.length_map, hl] at hld
    rw [run_bytesToString w _ n cap l (by simpa using hld), foldl_push_bytes]
    simp [bytesD, strD]

/-- 'append([]byte{d}, out...)'. -/
theorem preD {w0 W : World} {ops : Array Oper} {rest : List Oper} {o : Oper} {a : Act} {Q : Exit → Act → World → Prop} (hgd : o.guard = none) (s x : Operand)
    (ho : o.op = .call { callee := .builtin .append, args := #[s, x], argTypes := #[62, 62] })
    (base : Nat) (v : Value) (n : Nat) (l : List Int) (d : Int) (hs : a.eval s = .slice (some ⟨W.heap.size, 0, none⟩) 1 1) (hx : a.eval x = v)
    (hown : W.ownsRow base 5 1 v n (l.map (Value.int .u8))) (hn : n ≤ 1000) (hbase : base ≤ W.heap.size) (hbel : Below base w0 W)
    (h : ∀ v' w', w'.ownsRow base 5 1 v' (n + 1) ((d :: l).map (Value.int .u8)) → Below base w0 w' → base ≤ w'.heap.size → wpList Try.prog ops Q rest (a.put o.dst v') w') :
    wpList Try.prog ops Q (o :: rest) a (W.alloc (.cells #[.int .u8 d] 5)) := by
  obtain ⟨i, hi, hz0, hz1, hz2⟩ := info_parts infoB
  have hl : l.length = n := by have := hown.1; simpa using this
  have hb := hbel.alloc hbase (.cells #[.int .u8 d] 5)
  have hd : (W.alloc (.cells #[.int .u8 d] 5)).ownsRow base 5 1 (.slice (some ⟨W.heap.size, 0, none⟩) 1 1) 1 [.int .u8 d] :=
    ⟨rfl, .inr ⟨W.heap.size, 1, _, rfl, hbase, heap_alloc_new W _, Nat.le_refl _, by unfold maxLen; omega, rfl, rfl⟩⟩
  have hown1 := hown.alloc (.cells #[.int .u8 d] 5)
  rcases hown.2 with ⟨rfl, h0⟩ | ⟨g, cap, cur, rfl, hbg, _⟩
  · have : l = [] := List.eq_nil_of_length_eq_zero (by omega)
    subst this
    subst h0
    refine wpList_plain hgd fun K' hK' => ?_
    have hrun := run_append_owned_none (P := Try.prog) _ base 62 o.type 5 i 1 Try.underlying62 hi _ 1 _ hd
    unfold Oper.wp
    simp [execOp, ho, resolve, invoke, builtin, hs, hx, hrun, Result.andThen]
    exact hK' _ _ (h _ _ (by simpa using hd) hb (by simp; omega))
  · refine wpList_append_own _ hgd s x 62 ho base 5 i (.int .u8 0) 1 1 Try.underlying62 hi hz0 hz1 hz2 rfl (by decide) _ 1 _ hs hd ⟨g, 0, none⟩ n cap (l.map (Value.int .u8)) hx (by simp [hl]) (hown1.cells rfl) (ints_oneCell _ _) ?_ ?_ ?_ ?_
    · unfold maxLen; omega
    · omega
    · simp; omega
    · intro v' w' h1 h2 _
      have hsz := h2.size
      simp at hsz
      refine h v' w' ?_ (hb.grown h2 (by simp; omega) (fun k hk => (hd.lt k hk).1)) (by omega)
      rw [Nat.add_comm]; exact h1

/-- A number's digits, as numbers of bytes. -/
def decF : Nat → Nat → List Int → List Int
  | 0, _, acc => acc
  | f + 1, n, acc => if n = 0 then acc else decF f (n / 10) (((48 + n % 10 : Nat) : Int) :: acc)
def decL (n : Nat) : List Int := if n = 0 then [48] else decF 20 n []
def decS (n : Nat) : ByteArray := strD (decL n)
/-- Where the loop stands: what is left of the number, and the digits that are done. -/
def DecR (n s : Nat) (ds : List Int) : Prop := (ds = [] ∧ s = n) ∨ (ds ≠ [] ∧ ∃ f, s < 10 ^ f ∧ decF f s ds = decL n)
theorem DecR.step {n s : Nat} {ds : List Int} (h : DecR n s ds) (hn : n < 10 ^ 20) (hs : 0 < s ∨ ds = []) : DecR n (s / 10) (((48 + s % 10 : Nat) : Int) :: ds) := by
  refine .inr ⟨by simp, ?_⟩
  rcases h with ⟨rfl, rfl⟩ | ⟨hd, f, hf, he⟩
  · by_cases h0 : s = 0
    · subst h0; exact ⟨0, by decide, rfl⟩
    · refine ⟨19, by omega, ?_⟩
      unfold decL
      rw [if_neg h0]
      conv => rhs; unfold decF
      rw [if_neg h0]
  · have hs' : 0 < s := by rcases hs with c | c; exact c; exact absurd c hd
    cases f with
    | zero => omega
    | succ f =>
      refine ⟨f, by rw [Nat.pow_succ] at hf; omega, ?_⟩
      rw [← he]
      conv => rhs; unfold decF
      rw [if_neg (by omega)]
theorem DecR.done {n : Nat} {ds : List Int} (h : DecR n 0 ds) (hd : ds ≠ []) : ds = decL n := by
  rcases h with ⟨c, _⟩ | ⟨_, f, _, he⟩
  · exact absurd c hd
  · rw [← he]; cases f <;> simp [decF]
theorem DecR.len {n s : Nat} {ds : List Int} (h : DecR n s ds) : ds.length ≤ 21 := by
  have h1 : ∀ f m acc, acc.length ≤ (decF f m acc).length := by
    intro f
    induction f with
    | zero => intro m acc; exact Nat.le_refl _
    | succ f ih =>
      intro m acc
      unfold decF
      split
      · exact Nat.le_refl _
      · have := ih (m / 10) (((48 + m % 10 : Nat) : Int) :: acc)
        simp at this ⊢; omega
  have h2 : ∀ f m acc, (decF f m acc).length ≤ acc.length + f := by
    intro f
    induction f with
    | zero => intro m acc; exact Nat.le_refl _
    | succ f ih =>
      intro m acc
      unfold decF
      split
      · omega
      · have := ih (m / 10) (((48 + m % 10 : Nat) : Int) :: acc)
        simp at this ⊢; omega
  rcases h with ⟨rfl, _⟩ | ⟨_, f, _, he⟩
  · simp
  · have h3 := h1 f s ds
    rw [he] at h3
    have h4 : (decL n).length ≤ 21 := by
      unfold decL
      split
      · simp
      · have := h2 20 n []; simp at this; omega
    omega

theorem rowD_shape {w : World} {base n : Nat} {v : Value} {xs : List Value} (h : w.ownsRow base 5 1 v n xs) : ∃ ao cap, v = .slice ao n cap := by
  rcases h.2 with ⟨rfl, h0⟩ | ⟨g, cap, _, rfl, _⟩
  · exact ⟨none, 0, by rw [h0]⟩
  · exact ⟨_, cap, rfl⟩

set_option maxHeartbeats 2000000 in
theorem dec_any (n : Nat) (w : World) (hn : n ≤ 1000000000) :
    Calls Try.prog 24 #[.int .i64 (n : Int)] w fun e w' => e = .returned (.string (decS n)) ∧ Below w.heap.size w w' := by
  have hbel := Below.refl w.heap.size w
  have hneg : decide ((n : Int) < 0) = false := by simp
  go_enter Try.func24, Try.ntmps24
  go_wp2
  go_loopw [3, 4] (fun z v wr => ∃ (s : Nat) (ds : List Int) (ao : Option Addr) (cap : Nat), s ≤ 1000000000 ∧ z = .int .u64 (s : Int) ∧ v = .slice ao ds.length cap ∧ DecR n s ds ∧ wr.ownsRow w.heap.size 5 1 (.slice ao ds.length cap) ds.length (ds.map (Value.int .u8)) ∧ Below w.heap.size w wr ∧ w.heap.size ≤ wr.heap.size) (fun z v _ => (intOf z).toNat + (match v with | Value.slice _ k _ => if k = 0 then 1 else 0 | _ => 0))
  case atStart => exact ⟨n, [], none, 0, hn, rfl, rfl, .inl ⟨rfl, rfl⟩, World.ownsRow_nil _ _ _ _, hbel, Nat.le_refl _⟩
  case round =>
    clear hbel
    obtain ⟨s, ds, ao, cap, hs, rfl, rfl, hr, hown, hbel, hsz⟩ := hrel
    have hlen := hr.len
    have hb8 : IntKind.u8.wrap (48 + (s : Int) % 10) = 48 + (s : Int) % 10 := by rw [IntKind.wrap_u8]; omega
    have Hr := Lib.hid hr
    clear hr
    by_cases hpos : 0 < s
    · go_wp2_with (at_builtin; refine preD rfl _ _ rfl w.heap.size (.slice ao ds.length cap) ds.length ds (48 + (s : Int) % 10) rfl rfl hown (by omega) hsz hbel ?_; intro v' w' h1 h2 h3; obtain ⟨ao', cap', hv'⟩ := rowD_shape h1; rw [hv'] at h1; rw [hv'])
      go_roundw
      case rel => exact ⟨s / 10, (48 + (s : Int) % 10) :: ds, ao', cap', by omega, by go_num, rfl, by have := Hr.out.step (by omega) (.inl hpos); simpa using this, h1, h2, h3⟩
      case measure => simp [intOf]; omega
    · obtain rfl : s = 0 := by omega
      by_cases hd : ds = []
      · subst hd
        have hao : ao = none ∧ cap = 0 ∨ ∃ g, ao = some ⟨g, 0, none⟩ := by
          rcases hown.2 with ⟨e, _⟩ | ⟨g, _, _, e, _⟩
          · simp at e; exact .inl e
          · simp at e; exact .inr ⟨g, e.1⟩
        go_wp2_with (at_builtin; refine preD rfl _ _ rfl w.heap.size (.slice ao 0 cap) 0 [] 48 rfl rfl hown (by omega) hsz hbel ?_; intro v' w' h1 h2 h3; obtain ⟨ao', cap', hv'⟩ := rowD_shape h1; rw [hv'] at h1; rw [hv'])
        go_roundw
        case rel => exact ⟨0, [48], ao', cap', by omega, by go_num, rfl, by have := Hr.out.step (by omega) (.inr rfl); simpa using this, h1, h2, h3⟩
        case measure => simp [intOf]
      · have hl : 0 < ds.length := List.length_pos_iff.2 hd
        have hdone := Hr.out.done hd
        have hcv := convD hown
        have hres : strD ds = decS n := by rw [hdone]; rfl
        rw [hres] at hcv
        clear hdone hres hd
        have hlz : ((ds.length : Int) == 0) = false := by rw [beq_eq_false_iff_ne]; omega
        go_wp2
        go_ret
        exact ⟨rfl, hbel⟩
end Go.Proofs.Ytlnliphejjfdeaa
