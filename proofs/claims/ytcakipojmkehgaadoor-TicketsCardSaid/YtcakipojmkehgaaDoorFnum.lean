/- field.Num answers a number's bytes, and ErrFieldForm where it is none. No condition. -/
import Derived.Test.YtcakipojmkehgaaDoorProg
import Derived.WalkKit
import Derived.WalkSpells
import Derived.WalkLawsBesides
import Derived.Lib.Hide
import Derived.Test.YtcakipojmkehgaaDoorBfp
import Derived.Test.YtcakipojmkehgaaDoorShelf
import Derived.Laws.BytesArg
namespace Go.Proofs.YtcakipojmkehgaaDoor
open Go.RowKit

theorem info5 : (Tryd.prog.info? 5).map (fun i => (i.zero, i.size, i.bytes)) = some (some (.int .u8 0), 1, 1) := by kernel_rfl

theorem app1 {w0 W : World} {ops : Array Oper} {rest : List Oper} {o : Oper} {a : Act} {Q : Exit → Act → World → Prop} (hgd : o.guard = none) (s x : Operand)
    (ho : o.op = .call { callee := .builtin .append, args := #[s, x], argTypes := #[96, 96] })
    (base : Nat) (v : Value) (n : Nat) (xs : List Value) (c : Int) (hs : a.eval s = v) (hx : a.eval x = .slice (some ⟨W.heap.size, 0, none⟩) 1 1)
    (hown : W.ownsRow base 5 1 v n xs) (hn : n ≤ 140737488300000) (hbase : base ≤ W.heap.size) (hbel : Below base w0 W)
    (h : ∀ v' w', w'.ownsRow base 5 1 v' (n + 1) (xs ++ [.int .u8 c]) → Below base w0 w' → base ≤ w'.heap.size → wpList Tryd.prog ops Q rest (a.put o.dst v') w') :
    wpList Tryd.prog ops Q (o :: rest) a (W.alloc (.cells #[.int .u8 c] 5)) := by
  obtain ⟨i, hi, hz0, hz1, hz2⟩ := info_parts info5
  refine wpList_append_own _ hgd s x 96 ho base 5 i (.int .u8 0) 1 1 Tryd.underlying96 hi hz0 hz1 hz2 rfl (by decide) v n xs hs (hown.alloc _) ⟨W.heap.size, 0, none⟩ 1 1 [.int .u8 c] hx rfl (cell_one_new _ _ _) ?_ ?_ ?_ ?_ ?_
  · intro u hu; simp at hu; subst hu; rfl
  · unfold maxLen; omega
  · omega
  · simp; omega
  · intro v' w' h1 h2 _
    have hb := hbel.alloc hbase (.cells #[.int .u8 c] 5)
    have hsz := h2.size
    simp at hsz
    refine h v' w' h1 (hb.grown h2 (by simp; omega) (fun k hk => (hown.lt k hk).1)) (by omega)


/-- What appending k bytes leaves. -/
def AppP (base n : Nat) (xs : List Value) (news : List Int) (w : World) (e : Ending) (w' : World) : Prop :=
  ∃ v', e = .returned v' ∧ w'.ownsRow base 5 1 v' (n + news.length) (xs ++ news.map (Value.int .u8)) ∧ Below base w w' ∧ base ≤ w'.heap.size

theorem len_num (x L : Int) (w : World) (h0 : 0 ≤ x) (h1 : x ≤ 1073741823) (hL : (Lib.bitLen x.toNat : Int) = L) :
    Calls Tryd.prog 69 #[.int .u64 x] w fun e w' => e = .returned (.int .i64 L) ∧ w' = w := by
  subst hL; exact Tryd.bits_Len x w h0 (by omega)

set_option maxHeartbeats 2000000 in
theorem app_num (v : Value) (x : Int) (base n : Nat) (xs : List Value) (w : World) (hown : w.ownsRow base 5 1 v n xs) (hbase : base ≤ w.heap.size) (hn : n ≤ 140737488200000)
    (hx0 : 0 ≤ x) (hx1 : x ≤ 1073741823) : Calls Tryd.prog 64 #[v, .int .i64 x] w (AppP base n xs (numL x) w) := by
  obtain ⟨hL1, c0, c1, c2, c3, c4⟩ := bitLen_cases x hx0 hx1
  obtain ⟨L, hL⟩ : ∃ L, (Lib.bitLen x.toNat : Int) = L := ⟨_, rfl⟩
  have hL0 : 0 ≤ L := by omega
  have HL := Lib.hid hL
  rw [hL] at hL1 c0 c1 c2 c3 c4
  clear hL
  have hbel := Below.refl base w
  have hlen : ∀ (w : World), Calls Tryd.prog 69 #[.int .u64 x] w fun e w' => e = .returned (.int .i64 L) ∧ w' = w := fun w => len_num x L w hx0 hx1 HL.out
  have Hlen := Lib.hid hlen
  clear hlen
  by_cases h0 : x = 0
  · subst h0
    have hq := c0 rfl
    clear c0 c1 c2 c3 c4
    have e : numL 0 = [0] := rfl
    rw [e]
    clear e
    go_enter Tryd.func64, Tryd.ntmps64
    go_wp2_with (first | (go_at_call 69; refine (Hlen.out _).mono ?_; rintro e w' ⟨rfl, rfl⟩) | (at_builtin; refine app1 rfl _ _ rfl base _ _ _ _ rfl rfl (by assumption) (by omega) (by assumption) (by assumption) ?_; intro v' w' h1 h2 h3))
    go_ret
    exact ⟨_, rfl, by simpa using h1, h2, h3⟩
  by_cases h8 : x < 256
  · have hq := c1 (by omega) h8
    clear c0 c1 c2 c3 c4
    have e : numL x = [1, x] := by unfold numL; rw [if_neg h0, if_pos h8]
    rw [e]
    clear e
    have h0' : 0 < x := by omega
    clear h0
    go_enter Tryd.func64, Tryd.ntmps64
    go_wp2_with (first | (go_at_call 69; refine (Hlen.out _).mono ?_; rintro e w' ⟨rfl, rfl⟩) | (at_builtin; refine app1 rfl _ _ rfl base _ _ _ _ rfl rfl (by assumption) (by omega) (by assumption) (by assumption) ?_; intro v' w' h1 h2 h3))
    go_ret
    exact ⟨_, rfl, by simpa using h1, h2, h3⟩
  by_cases h16 : x < 65536
  · have hq := c2 (by omega) h16
    clear c0 c1 c2 c3 c4
    have e : numL x = [2, x / 256, x % 256] := by unfold numL; rw [if_neg h0, if_neg h8, if_pos h16]
    rw [e]
    clear e
    have h0' : 256 ≤ x := by omega
    clear h0 h8
    go_enter Tryd.func64, Tryd.ntmps64
    go_wp2_with (first | (go_at_call 69; refine (Hlen.out _).mono ?_; rintro e w' ⟨rfl, rfl⟩) | (at_builtin; refine app1 rfl _ _ rfl base _ _ _ _ rfl rfl (by assumption) (by omega) (by assumption) (by assumption) ?_; intro v' w' h1 h2 h3))
    go_ret
    exact ⟨_, rfl, by simpa using h1, h2, h3⟩
  by_cases h24 : x < 16777216
  · have hq := c3 (by omega) h24
    clear c0 c1 c2 c3 c4
    have e : numL x = [3, x / 65536, x / 256 % 256, x % 256] := by unfold numL; rw [if_neg h0, if_neg h8, if_neg h16, if_pos h24]
    rw [e]
    clear e
    have h0' : 65536 ≤ x := by omega
    clear h0 h8 h16
    go_enter Tryd.func64, Tryd.ntmps64
    go_wp2_with (first | (go_at_call 69; refine (Hlen.out _).mono ?_; rintro e w' ⟨rfl, rfl⟩) | (at_builtin; refine app1 rfl _ _ rfl base _ _ _ _ rfl rfl (by assumption) (by omega) (by assumption) (by assumption) ?_; intro v' w' h1 h2 h3))
    go_ret
    exact ⟨_, rfl, by simpa using h1, h2, h3⟩
  · have hq := c4 (by omega)
    clear c0 c1 c2 c3 c4
    have e : numL x = [4, x / 16777216, x / 65536 % 256, x / 256 % 256, x % 256] := by unfold numL; rw [if_neg h0, if_neg h8, if_neg h16, if_neg h24]
    rw [e]
    clear e
    have h0' : 16777216 ≤ x := by omega
    clear h0 h8 h16 h24
    go_enter Tryd.func64, Tryd.ntmps64
    go_wp2_with (first | (go_at_call 69; refine (Hlen.out _).mono ?_; rintro e w' ⟨rfl, rfl⟩) | (at_builtin; refine app1 rfl _ _ rfl base _ _ _ _ rfl rfl (by assumption) (by omega) (by assumption) (by assumption) ?_; intro v' w' h1 h2 h3))
    go_ret
    exact ⟨_, rfl, by simpa using h1, h2, h3⟩

theorem conv_nil (w : World) : (convert 96 9 (.slice none 0 0)).run Tryd.prog w = .ok (.string ⟨#[]⟩) w := by kernel_rfl
/-- string(b) of a row of bytes that the call owns. -/
theorem conv_own {w : World} {base n : Nat} {v : Value} {l : List Int} (h : w.ownsRow base 5 1 v n (l.map (Value.int .u8))) :
    (convert 96 9 v).run Tryd.prog w = .ok (.string ⟨(bytesOf l).toArray⟩) w := by
  have hl : l.length = n := by have := h.1; simpa using this
  rcases h.2 with ⟨rfl, h0⟩ | ⟨g, cap, cur, rfl, _⟩
  · have : l = [] := List.eq_nil_of_length_eq_zero (by omega)
    subst this
    exact conv_nil w
  · rw [run_convert_bytes_string w 96 9 5 _ _ _ Tryd.underlying96 Tryd.underlying5 Tryd.underlying9]
    have hc := h.cells (g := g) rfl
    have hld := run_loadCells_list (P := Tryd.prog) (w := w) ⟨g, 0, none⟩ (l.map (Value.int .u8)) hc
    rw [List.length_map, hl] at hld
    rw [run_bytesToString w _ n cap l (by simpa using hld), foldl_push_bytes]
    simp [bytesOf]

set_option maxHeartbeats 1000000 in
/-- field.Num. -/
theorem fnum (x : Int) (w : World) (hx0 : -9223372036854775808 ≤ x) (hx1 : x ≤ 9223372036854775807) :
    Calls Tryd.prog 53 #[.int .i64 x] w fun e w' => e = .returned (.tuple #[.string (numS x), .int .i64 (numE x)]) ∧ Below w.heap.size w w' := by
  by_cases h : 0 ≤ x ∧ x ≤ 1073741823
  · obtain ⟨h0, h1⟩ := h
    rw [numS_ok h0 h1, numE_ok h0 h1]
    go_enter Tryd.func53, Tryd.ntmps53
    go_wp2_with (go_at_call 64; refine (app_num _ x w.heap.size 0 [] w (World.ownsRow_nil _ _ _ _) (Nat.le_refl _) (by omega) h0 h1).mono ?_; rintro e w' ⟨v', rfl, hown, hb, hs⟩; have hcv := conv_own hown; clear hown)
    go_ret2
    exact ⟨rfl, hb⟩
  · by_cases h0 : x < 0
    · rw [numS_bad (.inl h0), numE_bad (.inl h0)]
      go_enter Tryd.func53, Tryd.ntmps53
      go_wp2
      go_ret2
      exact ⟨rfl, Below.refl _ _⟩
    · have h1 : 1073741823 < x := by omega
      have h2 : 0 ≤ x := by omega
      rw [numS_bad (.inr h1), numE_bad (.inr h1)]
      clear h h0
      go_enter Tryd.func53, Tryd.ntmps53
      go_wp2
      go_ret2
      exact ⟨rfl, Below.refl _ _⟩
end Go.Proofs.YtcakipojmkehgaaDoor
