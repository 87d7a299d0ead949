/- Put together: Parts3, Parts4. Conditions: each theorem's own. -/
import Derived.Test.YtiebpjkppjollaaDoorBpa
import Derived.Test.YtiebpjkppjollaaDoorBfg
import Derived.Test.YtiebpjkppjollaaDoorGr
import Derived.Test.YtiebpjkppjollaaDoorRegT
import Derived.OwnWalk
import Derived.Outline
import Derived.StillTailTactics
namespace Go.Proofs.YtiebpjkppjollaaDoor
open Go Go.RowKit

def updR (r : Nat → Int) (j : Nat) (v : Int) : Nat → Int := fun i => if i = j then v else r i
/-- What has been read behind j places, and where the next begins. -/
def stP (s : ByteArray) (U : Nat) (a0 : Int) : Nat → Option ((Nat → Int) × Int)
  | 0 => some (fun _ => 0, a0)
  | j + 1 => match stP s U a0 j with
    | none => none
    | some (r, a) => if pT U (j : Nat) then (if getE s a = 0 then some (updR r j (getX s a), getTo s a) else none) else some (r, a)
theorem stP_none {s : ByteArray} {U : Nat} {a0 : Int} {j : Nat} (h : stP s U a0 j = none) (m : Nat) : stP s U a0 (j + m) = none := by
  induction m with
  | zero => exact h
  | succ m ih => rw [← Nat.add_assoc, stP, ih]
theorem stP_go {s : ByteArray} {U : Nat} {a0 : Int} {j n : Nat} {r : Nat → Int} {a : Int} (h : stP s U a0 j = some (r, a)) : (pT U (j : Nat) = false → stP s U a0 (j + 1) = some (r, a)) ∧ (pT U (j : Nat) = true → getE s a = 0 → stP s U a0 (j + 1) = some (updR r j (getX s a), getTo s a)) ∧ (pT U (j : Nat) = true → getE s a ≠ 0 → j < n → stP s U a0 n = none) := by
  refine ⟨fun h1 => ?_, fun h1 h2 => ?_, fun h1 h2 h3 => ?_⟩
  · rw [stP, h]; simp only [h1]; rfl
  · rw [stP, h]; simp only [h1, if_pos h2, if_true]
  · have : stP s U a0 (j + 1) = none := by rw [stP, h]; simp only [h1, if_neg h2, if_true]
    have := stP_none this (n - (j + 1))
    rwa [show j + 1 + (n - (j + 1)) = n by omega] at this
theorem stP_bd {s : ByteArray} {U : Nat} {a0 : Int} (h0 : 0 ≤ a0) (h1 : a0 ≤ s.size) (j : Nat) : ∀ r a, stP s U a0 j = some (r, a) → 0 ≤ a ∧ a ≤ s.size := by
  induction j with
  | zero => intro r a h; rw [stP] at h; obtain ⟨_, rfl⟩ := Prod.mk.inj (Option.some.inj h); exact ⟨h0, h1⟩
  | succ j ih =>
    intro r a h
    rw [stP] at h
    cases hs : stP s U a0 j with
    | none => rw [hs] at h; cases h
    | some y =>
      obtain ⟨r', a'⟩ := y
      rw [hs] at h
      simp only at h
      split at h
      · split at h
        · rename_i hE
          obtain ⟨_, rfl⟩ := Prod.mk.inj (Option.some.inj h)
          obtain ⟨_, _, b2, b3, b4⟩ := get_bd hE
          omega
        · cases h
      · obtain ⟨_, rfl⟩ := Prod.mk.inj (Option.some.inj h)
        exact ih r' _ hs
theorem stP_of {s : ByteArray} {U : Nat} {a0 : Int} {j : Nat} (r : Nat → Int) (a : Int) {b : Bool} (h : stP s U a0 j = some (r, a)) (hb : pT U (j : Nat) = b) : stP s U a0 (j + 1) = if b then (if getE s a = 0 then some (updR r j (getX s a), getTo s a) else none) else some (r, a) := by
  rw [stP, h]; simp only [hb]
theorem stP_zero (s : ByteArray) (a : Int) (n : Nat) (hp : ∀ j : Nat, j < n → pT 0 j = false) (j : Nat) (hj : j ≤ n) : stP s 0 a j = some (fun _ => 0, a) := by
  induction j with
  | zero => rfl
  | succ j ih =>
    rw [stP, ih (by omega)]
    simp only [hp j (by omega)]; rfl

def rowL (l : List Int) : Nat → Int := fun j => l.getD j 0
/-- A row's cells. -/
def arrN (n : Nat) (r : Nat → Int) : Array Value := ((List.range n).map fun i => Value.int .i64 (r i)).toArray
theorem arrN_get (n : Nat) (r : Nat → Int) (j : Nat) (hj : j < n) : (arrN n r)[j]? = some (.int .i64 (r j)) := by
  unfold arrN; simp [hj]
theorem arrN_size (n : Nat) (r : Nat → Int) : (arrN n r).size = n := by unfold arrN; simp
theorem arrN_set (n : Nat) (r : Nat → Int) (j : Nat) (hj : j < n) (v : Int) : ∀ i, ((arrN n (updR r j v))[i]? = if i = j then some (.int .i64 v) else (arrN n r)[i]?) := by
  intro i
  by_cases h : i < n
  · rw [arrN_get _ _ _ h]
    unfold updR
    split
    · rfl
    · rw [arrN_get _ _ _ h]
  · have h0 : ∀ r, (arrN n r)[i]? = none := fun r => Array.getElem?_eq_none (by rw [arrN_size]; omega)
    rw [h0, h0, if_neg (by omega)]
theorem Blk.set {W : World} {b : Nat} {c c' : Array Value} (h : Blk W b c) (i : Nat) (v : Value) (hi : i < c.size) (hc : ∀ j, (c'[j]? = if j = i then some v else c[j]?)) : Blk (W.setCell ⟨b, i, none⟩ v) b c' := by
  refine ⟨fun j => ?_, fun j => ?_, by simpa using h.lt⟩
  · rw [hc j]
    split
    · rename_i e; subst e
      have h0 : W.cell? ⟨b, j, none⟩ = some c[j] := by rw [h.cell j, Array.getElem?_eq_getElem hi]
      exact World.cell?_setCell_same _ _ _ h0
    · rename_i e
      have hn : (⟨b, i, none⟩ : Addr) ≠ ⟨b, j, none⟩ := by intro c; cases c; exact e rfl
      exact (World.cell?_setCell_other _ _ _ _ hn).trans (h.cell j)
  · exact (World.frozen?_setCell _ _ _ _).trans (h.froz j)
theorem Blk.far {W : World} {b : Nat} {c : Array Value} (h : Blk W b c) (a : Addr) (v : Value) (hb : a.block ≠ b) : Blk (W.setCell a v) b c :=
  ⟨fun j => (World.cell?_setCell_other _ _ _ _ (by intro c; subst c; exact hb rfl)).trans (h.cell j), fun j => (World.frozen?_setCell _ _ _ _).trans (h.froz j), by simpa using h.lt⟩
theorem Gr.set {w W : World} (h : Gr w W) (hg : Gd w) (a : Addr) (v : Value) (ha : w.heap.size ≤ a.block) : Gr w (W.setCell a v) := by
  have hb : Below w.heap.size w (W.setCell a v) := h.below.setCell ha v
  exact ⟨hb, hg.below hb hg.pos⟩
/-- What Get answers. -/
def PostG (s : ByteArray) (U n : Nat) (a0 : Int) (w : World) (ev : Ending) (w' : World) : Prop := Below w.heap.size w w' ∧
  ((∃ r a b, stP s U a0 n = some (r, a) ∧ ev = .returned (.tuple #[.slice (some ⟨b, 0, none⟩) n n, .int .i64 a, .int .i64 0]) ∧ w.heap.size ≤ b ∧ Blk w' b (arrN n r))
   ∨ (stP s U a0 n = none ∧ ∃ er : Int, er ≠ 0 ∧ ev = .returned (.tuple #[.slice none 0 0, .int .i64 0, .int .i64 er])))
theorem infoI : (Tryd.prog.info? 3).map (fun i => (i.zero, i.size, i.bytes)) = some (some (.int .i64 0), 1, 8) := by kernel_rfl
theorem arrN_made (n : Nat) : madeCells #[.int .i64 0] n = arrN n fun _ => 0 := by
  apply Array.toList_inj.1
  rw [toList_madeCells_one]
  unfold arrN
  simp only [List.map_const', List.length_range]
theorem make_row (n : Nat) (hn : n ≤ 32) (w : World) : (Instr.makeSlice 52 (.int .i64 (n : Int)) (.int .i64 (n : Int))).run Tryd.prog w = .ok (.slice (some ⟨w.heap.size, 0, none⟩) n n) (w.alloc (.cells (arrN n fun _ => 0) 3)) := by
  obtain ⟨i, hi, hz0, hz1, hz2⟩ := info_parts infoI
  have := run_make (P := Tryd.prog) w 52 3 i (.int .i64 0) Tryd.underlying52 hi hz0 .i64 .i64 n n (by omega) (Int.le_refl _) (by rw [hz2]; omega) (by omega)
  rw [hz1, Int.toNat_natCast] at this
  rw [this, ← arrN_made, Nat.mul_one]
  rfl

set_option maxRecDepth 100000 in
set_option maxHeartbeats 8000000 in
theorem pGet (s : ByteArray) (U n : Nat) (a0 : Int) (w : World) (hn : n ≤ 32) (hs : s.size ≤ 9223372036854770000) (h0 : 0 ≤ a0) (h1 : a0 ≤ s.size) (hg : Gd w) :
    Calls Tryd.prog 90 #[.int .u64 U, .string s, .int .i64 a0, .int .i64 n] w (PostG s U n a0 w) := by
  have hr := Gr.refl hg
  have HG := Lib.hid hg
  have HB := Lib.hid (fun j r a => stP_bd (s := s) (U := U) (a0 := a0) h0 h1 j r a)
  have HH := Lib.hid (fun (j : Int) w j0 j1 => pHas U j w j0 j1)
  have H0 : Hid (stP s U a0 0 = some (fun _ => 0, a0)) := Lib.hid rfl
  have hmk := make_row n hn w
  clear hg h0 h1
  go_enter Tryd.func90, Tryd.ntmps90
  go_wp2
  have kx := Blk.new w (arrN n fun _ => 0) 3
  replace hr := hr.alloc (.cells (arrN n fun _ => 0) 3)
  go_loopw [2, 18] (fun a i wr => ∃ (j : Nat) (r : Nat → Int) (at' : Int), j ≤ n ∧ i = .int .i64 j ∧ a = .int .i64 at' ∧ stP s U a0 j = some (r, at') ∧ Gr w wr ∧ Blk wr w.heap.size (arrN n r)) (fun _ i _ => n - (intOf i).toNat)
  case atStart => exact ⟨0, _, _, by omega, rfl, rfl, H0.out, hr, kx⟩
  case round =>
    clear hr kx
    obtain ⟨j, r, a, hj, rfl, rfl, hst, hr, kx⟩ := hrel
    have HS := Lib.hid hst
    obtain ⟨A0, A1⟩ := HB.out j r a hst
    have HGo := Lib.hid (stP_go (n := n) hst)
    have HF := Lib.hid (fun w hg => fget s a w hs (by omega) (by omega) hg)
    have hlx := kx.lt
    clear hst
    by_cases hlt : j < n
    · have HHj := Lib.hid (fun w => HH.out (j : Int) w (by omega) (by omega))
      cases hT : pT U (j : Int)
      · rw [hT] at HHj
        have HT := Lib.hid hT
        clear hT
        go_wp2_with (go_at_call 85; (with_reducible refine (HHj.out _).mono ?_); rintro e w2 ⟨rfl, rfl⟩)
        go_roundw
        case rel => exact ⟨j + 1, r, a, by omega, by go_num, rfl, HGo.out.1 HT.out, hr, kx⟩
        case measure => simp [intOf]; omega
      · rw [hT] at HHj
        have HT := Lib.hid hT
        clear hT
        by_cases hE : getE s a = 0
        · have HE := Lib.hid hE
          rw [hE] at HF
          have hst2 := Lib.hid (HGo.out.2.1 HT.out hE)
          have hupd := Lib.hid (arrN_set n r j hlt (getX s a))
          clear hE
          generalize getX s a = x at *
          generalize getTo s a = a2 at *
          have hA := Lib.hid (arrN_get n r j hlt)
          go_wp2_with (first
            | (go_at_call 85; (with_reducible refine (HHj.out _).mono ?_); rintro e w2 ⟨rfl, rfl⟩)
            | (go_at_call 61; (with_reducible refine (HF.out _ hr.good).mono ?_); rintro e w2 ⟨rfl, hb⟩; replace hr := hr.step hb; replace kx := kx.step hb; have e2 := (kx.cell j).trans hA.out; have g2 := kx.froz j; have l3 := kx.lt; clear hb))
          go_roundw
          case rel => exact ⟨j + 1, updR r j x, a2, by omega, by go_num, rfl, hst2.out, hr.set HG.out _ _ (Nat.le_refl _), kx.set j _ (by rw [arrN_size]; exact hlt) hupd.out⟩
          case measure => simp [intOf]; omega
        · have hx : (getE s a != 0) = true := by simpa using hE
          have HE := Lib.hid hE
          have hst2 := Lib.hid (HGo.out.2.2 HT.out hE hlt)
          clear hE
          generalize getX s a = x at *
          generalize getTo s a = a2 at *
          generalize getE s a = er at *
          have hA := Lib.hid (arrN_get n r j hlt)
          go_wp2_with (first
            | (go_at_call 85; (with_reducible refine (HHj.out _).mono ?_); rintro e w2 ⟨rfl, rfl⟩)
            | (go_at_call 61; (with_reducible refine (HF.out _ hr.good).mono ?_); rintro e w2 ⟨rfl, hb⟩; replace hr := hr.step hb; replace kx := kx.step hb; have e2 := (kx.cell j).trans hA.out; have g2 := kx.froz j; have l3 := kx.lt; clear hb))
          refine bodyPost_ret (v := .tuple #[.slice none 0 0, .int .i64 0, .int .i64 er]) (by simp [results, Tryd.results90, go_sem]) rfl ⟨?_, .inr ⟨hst2.out, er, HE.out, rfl⟩⟩
          repeat (with_reducible refine Below.setCell ?_ (by simp; try omega) _)
          with_reducible exact hr.below
    · obtain rfl : j = n := by omega
      go_wp2
      refine bodyPost_ret (v := .tuple #[.slice (some ⟨w.heap.size, 0, none⟩) j j, .int .i64 a, .int .i64 0]) (by simp [results, Tryd.results90, go_sem]) rfl ⟨hr.below, .inl ⟨r, a, w.heap.size, HS.out, rfl, Nat.le_refl _, kx⟩⟩
theorem pGet_no (s : ByteArray) (U n : Nat) (a0 : Int) (w : World) (hn : n ≤ 32) (hs : s.size ≤ 9223372036854770000) (h0 : 0 ≤ a0) (h1 : a0 ≤ s.size) (h : stP s U a0 n = none) (hg : Gd w) :
    Calls Tryd.prog 90 #[.int .u64 U, .string s, .int .i64 a0, .int .i64 n] w fun e w' => ∃ er : Int, (er != 0) = true ∧ e = .returned (.tuple #[.slice none 0 0, .int .i64 0, .int .i64 er]) ∧ Below w.heap.size w w' := by
  refine (pGet s U n a0 w hn hs h0 h1 hg).mono fun e w' ⟨hb, h2⟩ => ?_
  rcases h2 with ⟨r, a, b, h3, _⟩ | ⟨_, er, h4, rfl⟩
  · rw [h] at h3; cases h3
  · exact ⟨er, by simpa using h4, rfl, hb⟩
theorem pGet_yes (s : ByteArray) (U n : Nat) (a0 : Int) (r : Nat → Int) (a : Int) (w : World) (hn : n ≤ 32) (hs : s.size ≤ 9223372036854770000) (h0 : 0 ≤ a0) (h1 : a0 ≤ s.size) (h : stP s U a0 n = some (r, a)) (hg : Gd w) :
    Calls Tryd.prog 90 #[.int .u64 U, .string s, .int .i64 a0, .int .i64 n] w fun e w' => ∃ b, e = .returned (.tuple #[.slice (some ⟨b, 0, none⟩) n n, .int .i64 a, .int .i64 0]) ∧ Below w.heap.size w w' ∧ w.heap.size ≤ b ∧ Blk w' b (arrN n r) := by
  refine (pGet s U n a0 w hn hs h0 h1 hg).mono fun e w' ⟨hb, h2⟩ => ?_
  rcases h2 with ⟨r', a', b, h3, rfl, hx, kx⟩ | ⟨h3, _⟩
  · rw [h] at h3
    obtain ⟨rfl, rfl⟩ := Prod.mk.inj (Option.some.inj h3)
    exact ⟨b, rfl, hb, hx, kx⟩
  · rw [h] at h3; cases h3
end Go.Proofs.YtiebpjkppjollaaDoor

namespace Go.Proofs.YtiebpjkppjollaaDoor
open Go Go.RowKit

theorem pGetN_no (s : ByteArray) (U n : Nat) (N a0 : Int) (w : World) (hn : n ≤ 32) (hN : N = (n : Int)) (hs : s.size ≤ 9223372036854770000) (h0 : 0 ≤ a0) (h1 : a0 ≤ s.size) (h : stP s U a0 n = none) (hg : Gd w) :
    Calls Tryd.prog 90 #[.int .u64 U, .string s, .int .i64 a0, .int .i64 N] w fun e w' => ∃ er : Int, (er != 0) = true ∧ e = .returned (.tuple #[.slice none 0 0, .int .i64 0, .int .i64 er]) ∧ Below w.heap.size w w' := by
  subst hN; exact pGet_no s U n a0 w hn hs h0 h1 h hg
theorem pGetN_yes (s : ByteArray) (U n : Nat) (N a0 : Int) (r : Nat → Int) (a : Int) (w : World) (hn : n ≤ 32) (hN : N = (n : Int)) (hs : s.size ≤ 9223372036854770000) (h0 : 0 ≤ a0) (h1 : a0 ≤ s.size) (h : stP s U a0 n = some (r, a)) (hg : Gd w) :
    Calls Tryd.prog 90 #[.int .u64 U, .string s, .int .i64 a0, .int .i64 N] w fun e w' => ∃ b, e = .returned (.tuple #[.slice (some ⟨b, 0, none⟩) n n, .int .i64 a, .int .i64 0]) ∧ Below w.heap.size w w' ∧ w.heap.size ≤ b ∧ Blk w' b (arrN n r) := by
  subst hN; exact pGet_yes s U n a0 r a w hn hs h0 h1 h hg
end Go.Proofs.YtiebpjkppjollaaDoor

