/- Put together: Rcb1, Rcb2, Rcb3. Conditions: each theorem's own. -/
import Derived.Test.YtiebpjkppjollaaDoorRcaw
import Derived.Test.YtiebpjkppjollaaDoorKflat
import Derived.Test.YtiebpjkppjollaaDoorBfp
import Derived.Laws.IdiomStrings
import Derived.Laws.BitsAllLaws
import Derived.IntWalk
import Derived.Laws.BitsLemmas
import Derived.RegionTactic
import Derived.Deep.RegionWith
namespace Go.Proofs.YtiebpjkppjollaaDoor
open Go Go.RowKit

theorem xor_u8 (b c : Nat) (hb : b < 256) (hc : c < 256) : bits .xor .u8 (b : Int) (c : Int) = ((b ^^^ c : Nat) : Int) := by
  have hx : b ^^^ c < 2 ^ 8 := Nat.xor_lt_two_pow (by omega) (by omega)
  show IntKind.u8.wrap ((BitVec.ofInt 8 (b : Int) ^^^ BitVec.ofInt 8 (c : Int)).toNat : Int) = _
  rw [BitVec.toNat_xor, BitVec.ofInt_natCast, BitVec.ofInt_natCast, BitVec.toNat_ofNat, BitVec.toNat_ofNat, Nat.mod_eq_of_lt (by omega), Nat.mod_eq_of_lt (by omega), IntKind.wrap_u8']
  omega
theorem xor_ne (b c : Nat) (h : c ≠ 0) : b ^^^ c ≠ b := by
  intro e
  have h1 : b ^^^ (b ^^^ c) = b ^^^ b := by rw [e]
  rw [← Nat.xor_assoc, Nat.xor_self, Nat.zero_xor] at h1
  exact h h1
def turnB (s : ByteArray) (k d : Nat) : ByteArray := ⟨s.data.setIfInBounds k (UInt8.ofNat d)⟩
theorem turnB_size (s : ByteArray) (k d : Nat) : (turnB s k d).size = s.size := by
  show (s.data.setIfInBounds k (UInt8.ofNat d)).size = s.data.size
  exact Array.size_setIfInBounds
theorem turnB_bV (s : ByteArray) (k d : Nat) (hd : d < 256) : bV (turnB s k d) = (bV s).set k (.int .u8 (d : Int)) := by
  unfold turnB bV
  rw [Array.toList_setIfInBounds, List.map_set]
  congr 2
  rw [UInt8.toNat_ofNat']
  omega
/-- A byte of it. -/
def byteK (s : ByteArray) (k : Nat) : Nat := (s.data.toList.getD k 0).toNat
theorem byteK_lt (s : ByteArray) (k : Nat) : byteK s k < 256 := UInt8.toNat_lt _
theorem bV_at {s : ByteArray} {k : Nat} (h : k < s.size) : (bV s)[k]? = some (.int .u8 (byteK s k : Int)) := by
  have h2 : k < s.data.toList.length := by rw [← Lib.size_eq]; exact h
  unfold bV byteK
  simp [List.getD, List.getElem?_eq_getElem h2]
theorem turnB_ne {s : ByteArray} {k d : Nat} (h : k < s.size) (hd : d < 256) (hne : d ≠ byteK s k) : turnB s k d ≠ s := by
  intro e
  have h1 := congrArg bV e
  rw [turnB_bV s k d hd] at h1
  have h2 := congrArg (fun l : List Value => l[k]?) h1
  simp only [bV_at h, List.getElem?_set_self (show k < (bV s).length by rw [bV_len]; exact h), Option.some.injEq, Value.int.injEq, true_and] at h2
  omega
theorem bytesRow_at (s : ByteArray) (cap j : Nat) (h : j < s.size) : (bytesRow s cap)[j]? = (bV s)[j]? := by
  have h2 : j < s.data.size := h
  unfold bytesRow bV
  rw [Array.getElem?_append_left (by simpa using h2)]
  simp [Array.getElem?_map]
theorem bytesRow_size (s : ByteArray) (cap : Nat) : s.size ≤ (bytesRow s cap).size := by
  unfold bytesRow
  rw [Array.size_append, Array.size_map]
  show s.data.size ≤ _
  omega
abbrev bOb (s : ByteArray) (W : World) : Obj := .cells (bytesRow s (grownCap W 64 0 5)) 5 ((bytesRow s (grownCap W 64 0 5)).size, (bytesRow s (grownCap W 64 0 5)).size + 1)
theorem conv_b (s : ByteArray) (hs : s.size = 64) (W : World) : (convert 9 45 (.string s)).run Tryd.prog W = .ok (.slice (some ⟨W.heap.size, 0, none⟩) 64 (grownCap W 64 0 5)) (W.drew.alloc (bOb s W)) := by
  have h := run_bytes_of_string (P := Tryd.prog) W 9 45 5 s Tryd.underlying9 Tryd.underlying45 Tryd.underlying5
  rw [hs] at h
  exact h
theorem bob_heap (s : ByteArray) (W : World) : (W.drew.alloc (bOb s W)).heap[W.heap.size]? = some (bOb s W) := heap_alloc_new W.drew _
theorem bob_bel (s : ByteArray) (W : World) : Below W.heap.size W (W.drew.alloc (bOb s W)) := (bdrew W).alloc (Nat.le_refl _) _
theorem bob_cell (s : ByteArray) (hs : s.size = 64) (W : World) (j : Nat) (hj : j < 64) : (W.drew.alloc (bOb s W)).cell? ⟨W.heap.size, j, none⟩ = (bV s)[j]? := by
  rw [cell_of_row _ W.heap.size j _ _ _ (bob_heap s W)]
  exact bytesRow_at s _ j (by omega)
theorem bob_byte (s : ByteArray) (hs : s.size = 64) (k : Nat) (hk : k < 64) (X : World) (n : Nat) (hn : X.heap.size = n) : (X.alloc (bOb s X)).cell? ⟨n, k, none⟩ = some (.int .u8 (byteK s k : Int)) := by
  subst hn
  have := bob_cell s hs X k hk
  rw [show (X.drew.alloc (bOb s X)).cell? ⟨X.heap.size, k, none⟩ = (X.alloc (bOb s X)).cell? ⟨X.heap.size, k, none⟩ from rfl] at this
  rw [this]; exact bV_at (by omega)
theorem bob_free (s : ByteArray) (hs : s.size = 64) (k : Nat) (hk : k < 64) (X : World) (n : Nat) (hn : X.heap.size = n) : (X.alloc (bOb s X)).frozen? ⟨n, k, none⟩ = false := by
  subst hn
  have h := bytesRow_size s (grownCap X 64 0 5)
  unfold World.frozen?
  simp only [heap_alloc_new X, bOb]
  rw [Bool.eq_false_iff]
  intro c
  simp at c
  omega
theorem bob_conv (s : ByteArray) (hs : s.size = 64) (k : Nat) (hk : k < 64) (d : Nat) (hd : d < 256) (X : World) (n : Nat) (hn : X.heap.size = n) : (convert 45 9 (.slice (some ⟨n, 0, none⟩) 64 (grownCap X 64 0 5))).run Tryd.prog (((X.alloc (bOb s X)).setCell ⟨n, k, none⟩ (.int .u8 (d : Int))).drew) =
    .ok (.string (turnB s k d)) (((X.alloc (bOb s X)).setCell ⟨n, k, none⟩ (.int .u8 (d : Int))).drew) := by
  subst hn
  have hb := bob_byte s hs k hk X _ rfl
  rw [run_convert_bytes_string _ 45 9 5 _ _ _ Tryd.underlying45 Tryd.underlying5 Tryd.underlying9]
  have hld := run_loadCells_list (P := Tryd.prog) (w := ((X.alloc (bOb s X)).setCell ⟨X.heap.size, k, none⟩ (.int .u8 (d : Int))).drew) ⟨X.heap.size, 0, none⟩ (bV (turnB s k d)) (fun j v hv => by
    rw [Addr.add_mid, Nat.zero_add]
    show ((X.alloc (bOb s X)).setCell ⟨X.heap.size, k, none⟩ (.int .u8 (d : Int))).cell? ⟨X.heap.size, j, none⟩ = some v
    have hj : j < 64 := by
      have := (List.getElem?_eq_some_iff.1 hv).1
      rw [bV_len, turnB_size, hs] at this
      exact this
    rw [turnB_bV s k d hd] at hv
    by_cases e : k = j
    · subst e
      rw [List.getElem?_set_self (by rw [bV_len, hs]; exact hj)] at hv
      rw [World.cell?_setCell_same _ _ _ hb]
      exact hv
    · rw [List.getElem?_set_ne e] at hv
      rw [World.cell?_setCell_other _ _ _ _ (by intro c; cases c; exact e rfl)]
      exact (bob_cell s hs X j hj).trans hv)
  have e : bV (turnB s k d) = ((turnB s k d).data.toList.map fun b => (b.toNat : Int)).map (Value.int .u8) := by simp [bV]
  rw [bV_len, turnB_size, hs, e] at hld
  rw [run_bytesToString _ _ 64 _ _ hld, foldl_push_bytes]
  simp [Function.comp_def]
theorem bob_turn (s : ByteArray) (k : Nat) (d : Int) (X : World) (n : Nat) (hn : X.heap.size = n) : Below X.heap.size X (((X.alloc (bOb s X)).setCell ⟨n, k, none⟩ (.int .u8 d)).drew) := by
  subst hn
  exact (((balloc X (bOb s X)).setCell (Nat.le_refl _) (p := ⟨X.heap.size, k, none⟩) (.int .u8 d)).trans ((bdrew _).mono (by simp [World.setCell])))
/-- Of one record's book no other sector is found. -/
theorem one9 {r : Rc} (h : rcE 9 [] r = 0) : rcN 9 [] r = (idx (rcT 9 [] r) r.tm : Nat) ∧ (rcT 9 [] r).length = 1 ∧ ∀ u seq prev, u ≠ rcS 9 [] r → rgR (rcT 9 [] r) u seq prev = Rc.zero ∧ rgN (rcT 9 [] r) u seq prev = 0 ∧ rgE (rcT 9 [] r) u seq prev = 900 := by
  obtain ⟨h1, h2, h3, h4⟩ := put_in h
  have l1 := rcT_len (most := 9) (ts := []) r
  refine ⟨h3, ?_, fun u seq prev hu => find_no ?_ seq prev⟩
  · have := List.length_pos_of_mem h2
    simp only [List.length_nil] at l1
    omega
  · cases hf : rcFind (rcT 9 [] r) u with
    | none => rfl
    | some z =>
      obtain ⟨q, own⟩ := z
      obtain ⟨a, _, c, d⟩ := (rcFind_iff _ u q own).1 hf
      obtain ⟨hm, ho⟩ := ckI_in d
      rcases rcT_mem hm with e | e
      · cases e
      · have hr := Rc.tm_inj a h1 e
        subst hr
        exact absurd (by rw [c, ho, h4, h3]) hu
end Go.Proofs.YtiebpjkppjollaaDoor

namespace Go.Proofs.YtiebpjkppjollaaDoor
open Go Go.RowKit

theorem At.holdN {C : Ass} {w0 w : World} (hC : C.Good) (h : At w0 C w) (n : Nat) (hn : w.heap.size = n) (c : Array Value) (T : TypeId) : At w0 ((ownA n c T).star C) (w.alloc (.cells c T)) := by
  subst hn; exact h.hold hC c T
abbrev r11 (x0 x1 x2 x3 x4 x5 x6 x7 x8 x9 x10 : Int) : Array Value := #[.int .i64 x0, .int .i64 x1, .int .i64 x2, .int .i64 x3, .int .i64 x4, .int .i64 x5, .int .i64 x6, .int .i64 x7, .int .i64 x8, .int .i64 x9, .int .i64 x10]
set_option maxRecDepth 100000 in
set_option maxHeartbeats 8000000 in
theorem rback_no (x0 x1 x2 x3 x4 x5 x6 x7 x8 x9 x10 ai yi : Int) (T : List ByteArray)
    (ha : ∀ p : Nat, DoesG Tryd.prog (bookA p 9 []) 14 #[.pointer (some ⟨p, 0, none⟩), .agg (r11 x0 x1 x2 x3 x4 x5 x6 x7 x8 x9 x10)] (.returned (.tuple #[.string ⟨#[]⟩, .int .i64 0, .int .i64 900])) (bookA p 9 T))
    (w : World) (hg : Gd w) : Calls Tryd.prog 4 #[.agg (r11 x0 x1 x2 x3 x4 x5 x6 x7 x8 x9 x10), .int .i64 ai, .int .i64 yi] w fun e w' => e = .returned (.bool true) ∧ Below w.heap.size w w' := by
  have HA := Lib.hid ha
  have hr := (Gr.refl hg).alloc (.cells (r11 x0 x1 x2 x3 x4 x5 x6 x7 x8 x9 x10) 34)
  have HW := Lib.hid (awake9 _ hr.good)
  have kb : Blk (w.alloc (.cells (r11 x0 x1 x2 x3 x4 x5 x6 x7 x8 x9 x10) 34)) w.heap.size (r11 x0 x1 x2 x3 x4 x5 x6 x7 x8 x9 x10) := Blk.new _ _ _
  clear ha hg
  go_enter Tryd.func4, Tryd.ntmps4
  go_wp2_with (first
    | (go_at_call 13; (with_reducible refine (HW.out).mono ?_); rintro e w1 ⟨rfl, hb⟩; replace hr := hr.step hb; replace kb := kb.step hb; clear hb)
    | (go_at_call 12; (with_reducible refine (twin_none 9 _ (by omega) (by omega)).mono ?_); rintro e w2 ⟨p, q, rfl, hb⟩; have hS := At.start hb; have e1 := (kb.step hS.bel).cell; clear hb)
    | (go_at_call 14; (with_reducible refine (At.op1G (HA.out _) (refA_good _ _ _) emp_good hr.good hS).mono ?_); rintro e w3 ⟨rfl, hS1⟩)
    | (go_at_call 16; (with_reducible refine (lnum _ _).mono ?_); rintro e w1 ⟨rfl, rfl⟩))
  go_ret
  exact ⟨rfl, hr.below.trans (hS1.bel.mono hr.below.size)⟩
theorem At.poke11 {b : Nat} {T : TypeId} {C : Ass} {w0 w : World} (hC : C.Good) (h : At w0 ((ownA b (r11 0 0 0 0 0 0 0 0 0 0 0) T).star C) w) : At w0 ((ownA b (r11 0 0 0 0 0 0 0 0 0 0 0) T).star C) (((((((((((w.setCell ⟨b, 0, Option.none⟩ (.int .i64 0)).setCell ⟨b, 1, Option.none⟩ (.int .i64 0)).setCell ⟨b, 2, Option.none⟩ (.int .i64 0)).setCell ⟨b, 3, Option.none⟩ (.int .i64 0)).setCell ⟨b, 4, Option.none⟩ (.int .i64 0)).setCell ⟨b, 5, Option.none⟩ (.int .i64 0)).setCell ⟨b, 6, Option.none⟩ (.int .i64 0)).setCell ⟨b, 7, Option.none⟩ (.int .i64 0)).setCell ⟨b, 8, Option.none⟩ (.int .i64 0)).setCell ⟨b, 9, Option.none⟩ (.int .i64 0)).setCell ⟨b, 10, Option.none⟩ (.int .i64 0)) := by
  have h1 := ((((((((((h.poke hC 0 (.int .i64 0)).poke hC 1 (.int .i64 0)).poke hC 2 (.int .i64 0)).poke hC 3 (.int .i64 0)).poke hC 4 (.int .i64 0)).poke hC 5 (.int .i64 0)).poke hC 6 (.int .i64 0)).poke hC 7 (.int .i64 0)).poke hC 8 (.int .i64 0)).poke hC 9 (.int .i64 0)).poke hC 10 (.int .i64 0)
  simpa only [r11, List.setIfInBounds_toArray, List.set_cons_zero, List.set_cons_succ] using h1
abbrev zr : Value := .agg (r11 0 0 0 0 0 0 0 0 0 0 0)
set_option maxRecDepth 100000 in
set_option maxHeartbeats 8000000 in
theorem rback_yes (x0 x1 x2 x3 x4 x5 x6 x7 x8 x9 x10 ai yi o : Int) (S : ByteArray) (T : List ByteArray) (k m d : Nat) (h64 : S.size = 64) (hk : k < 64) (hkk : (IntKind.u64.wrap ai).tmod 64 = (k : Int)) (hm : m ≤ 127) (hmm : bits .and .i64 yi 127 = (m : Int)) (hd : d < 256)
    (hx : bits .xor .u8 (byteK S k : Int) (1 + (m : Int)) = (d : Int)) (l0 : 1 ≤ x0) (u0 : x0 ≤ 1073741823) (l2 : 0 ≤ x2) (u2 : x2 ≤ 1073741823) (hT : T.length = 1)
    (ha : ∀ p : Nat, DoesG Tryd.prog (bookA p 9 []) 14 #[.pointer (some ⟨p, 0, none⟩), .agg (r11 x0 x1 x2 x3 x4 x5 x6 x7 x8 x9 x10)] (.returned (.tuple #[.string S, .int .i64 o, .int .i64 0])) (bookA p 9 T))
    (h1 : ∀ p : Nat, DoesG Tryd.prog (bookA p 9 T) 17 #[.pointer (some ⟨p, 0, none⟩), .string S, .int .i64 x0, .int .i64 x2] (.returned (.tuple #[.agg (r11 x0 x1 x2 x3 x4 x5 x6 x7 x8 x9 x10), .int .i64 o, .int .i64 0])) (bookA p 9 T))
    (h2 : ∀ p : Nat, DoesG Tryd.prog (bookA p 9 T) 17 #[.pointer (some ⟨p, 0, none⟩), .string S, .int .i64 (x0 + 1), .int .i64 x2] (.returned (.tuple #[zr, .int .i64 0, .int .i64 901])) (bookA p 9 T))
    (h3 : ∀ p : Nat, DoesG Tryd.prog (bookA p 9 T) 17 #[.pointer (some ⟨p, 0, none⟩), .string S, .int .i64 x0, .int .i64 (x2 + 1)] (.returned (.tuple #[zr, .int .i64 0, .int .i64 901])) (bookA p 9 T))
    (h4 : ∀ p : Nat, DoesG Tryd.prog (bookA p 9 T) 17 #[.pointer (some ⟨p, 0, none⟩), .string (turnB S k d), .int .i64 x0, .int .i64 x2] (.returned (.tuple #[zr, .int .i64 0, .int .i64 900])) (bookA p 9 T))
    (h5 : ∀ p : Nat, DoesG Tryd.prog (bookA p 9 T) 17 #[.pointer (some ⟨p, 0, none⟩), .string (S.extract 1 64), .int .i64 x0, .int .i64 x2] (.returned (.tuple #[zr, .int .i64 0, .int .i64 900])) (bookA p 9 T))
    (w : World) (hg : Gd w) : Calls Tryd.prog 4 #[.agg (r11 x0 x1 x2 x3 x4 x5 x6 x7 x8 x9 x10), .int .i64 ai, .int .i64 yi] w fun e w' => e = .returned (.bool true) ∧ Below w.heap.size w w' := by
  have HA := Lib.hid ha
  have H1 := Lib.hid h1
  have H2 := Lib.hid h2
  have H3 := Lib.hid h3
  have H4 := Lib.hid h4
  have H5 := Lib.hid h5
  have HL := Lib.hid (fun p => (dlen p 9 T).g)
  rw [hT] at HL
  have hr := (Gr.refl hg).alloc (.cells (r11 x0 x1 x2 x3 x4 x5 x6 x7 x8 x9 x10) 34)
  have HW := Lib.hid (awake9 _ hr.good)
  have kb : Blk (w.alloc (.cells (r11 x0 x1 x2 x3 x4 x5 x6 x7 x8 x9 x10) 34)) w.heap.size (r11 x0 x1 x2 x3 x4 x5 x6 x7 x8 x9 x10) := Blk.new _ _ _
  have c1 := conv_b S h64
  have C2 := Lib.hid (bob_byte S h64 k hk)
  have C3 := Lib.hid (bob_free S h64 k hk)
  have C4 := Lib.hid (bob_conv S h64 k hk d hd)
  have HB := Lib.hid (bob_turn S k (d : Int))
  clear ha h1 h2 h3 h4 h5 hg hT
  generalize byteK S k = B at *
  generalize turnB S k d = U at *
  go_enter Tryd.func4, Tryd.ntmps4
  go_wp2_with (first
    | (go_at_call 13; (with_reducible refine (HW.out).mono ?_); rintro e w1 ⟨rfl, hb⟩; replace hr := hr.step hb; replace kb := kb.step hb; clear hb)
    | (go_at_call 12; (with_reducible refine (twin_none 9 _ (by omega) (by omega)).mono ?_); rintro e w2 ⟨p, q, rfl, hb⟩; have hS := At.start hb; have e1 := (kb.step hS.bel).cell; clear hb)
    | (go_at_call 14; (with_reducible refine (At.op1G (HA.out _) (refA_good _ _ _) emp_good hr.good hS).mono ?_); rintro e w3 ⟨rfl, hS1⟩; replace hS := hS1; clear hS1; have e1 := (kb.step hS.bel).cell)
    | (go_at_call 17; first
        | ((with_reducible refine (At.op1G (H1.out _) (refA_good _ _ _) emp_good hr.good hS).mono ?_); rintro e w4 ⟨rfl, hS1⟩; replace hS := hS1.hold ((refA_good _ _ _).star (good1 _ _ _)) (r11 x0 x1 x2 x3 x4 x5 x6 x7 x8 x9 x10) 34; clear hS1; have e1 := (kb.step hS.bel).cell; obtain ⟨e2, f2, l2⟩ := hS.own)
        | ((with_reducible refine (At.op2G (H2.out _) (ownA_good _ _ _) (refA_good _ _ _) emp_good hr.good hS).mono ?_); rintro e w5 ⟨rfl, hS1⟩; replace hS := hS1.lay1 ((ownA_good _ _ _).star ((refA_good _ _ _).star (good1 _ _ _))) (.cells (r11 0 0 0 0 0 0 0 0 0 0 0) 34); clear hS1; have e1 := (kb.step hS.bel).cell; obtain ⟨e2, f2, l2⟩ := hS.own)
        | ((with_reducible refine (At.op2G (H3.out _) (ownA_good _ _ _) (refA_good _ _ _) emp_good hr.good hS).mono ?_); rintro e w6 ⟨rfl, hS1⟩; replace hS := hS1.lay1 ((ownA_good _ _ _).star ((refA_good _ _ _).star (good1 _ _ _))) (.cells (r11 0 0 0 0 0 0 0 0 0 0 0) 34); clear hS1; have e1 := (kb.step hS.bel).cell; obtain ⟨e2, f2, l2⟩ := hS.own; have c2 := C2.out (w6.alloc (.cells (r11 0 0 0 0 0 0 0 0 0 0 0) 34)) (w6.heap.size + 1) (by simp); have c3 := C3.out (w6.alloc (.cells (r11 0 0 0 0 0 0 0 0 0 0 0) 34)) (w6.heap.size + 1) (by simp); have c4 := C4.out (w6.alloc (.cells (r11 0 0 0 0 0 0 0 0 0 0 0) 34)) (w6.heap.size + 1) (by simp); have c5 := HB.out (w6.alloc (.cells (r11 0 0 0 0 0 0 0 0 0 0 0) 34)) (w6.heap.size + 1) (by simp); have hS7 := hS.lay ((ownA_good _ _ _).star ((refA_good _ _ _).star (good1 _ _ _))) c5; have HS7 := Lib.hid hS7; have e3 := (kb.step hS7.bel).cell; clear c5 hS7)
        | ((with_reducible refine (At.op2G (H4.out _) (ownA_good _ _ _) (refA_good _ _ _) emp_good hr.good HS7.out).mono ?_); rintro e w7 ⟨rfl, hS1⟩; have hS8a := hS1.lay1 ((ownA_good _ _ _).star ((refA_good _ _ _).star (good1 _ _ _))) (.cells (r11 0 0 0 0 0 0 0 0 0 0 0) 34); have hS8 := hS8a.lay ((ownA_good _ _ _).star ((refA_good _ _ _).star (good1 _ _ _))) (bdrew _); have hS8b := (hS8a.holdN ((ownA_good _ _ _).star ((refA_good _ _ _).star (good1 _ _ _))) (w7.heap.size + 1) (by simp) (r11 0 0 0 0 0 0 0 0 0 0 0) 34).lay ((ownA_good _ _ _).star ((ownA_good _ _ _).star ((refA_good _ _ _).star (good1 _ _ _)))) (bdrew _); clear hS1 hS8a; have e1 := (kb.step hS8.bel).cell; obtain ⟨e2, f2, l2⟩ := hS8.own; have e8 := (kb.step hS8b.bel).cell; obtain ⟨e9, f9, l9⟩ := hS8b.drop.own; obtain ⟨e7, f7, l7⟩ := hS8b.own; have HS8 := Lib.hid hS8; have HS8b := Lib.hid hS8b; clear hS8 hS8b))
    | (go_at_call 16; (with_reducible refine (lnum _ _).mono ?_); rintro e w1 ⟨rfl, rfl⟩))
  (go_region_with (first
        | (go_at_call 17; first
            | ((with_reducible refine (At.op2G (H5.out _) (ownA_good _ _ _) (refA_good _ _ _) emp_good hr.good HS8.out).mono ?_); rintro e w8 ⟨rfl, hS1⟩; have hS9 := hS1.hold ((ownA_good _ _ _).star ((refA_good _ _ _).star (good1 _ _ _))) (r11 0 0 0 0 0 0 0 0 0 0 0) 34; clear hS1; have e1 := (kb.step hS9.bel).cell; obtain ⟨e2, f2, l2⟩ := hS9.own; obtain ⟨e3, f3, l3⟩ := hS9.drop.own)
            | ((with_reducible refine (At.op3G (H5.out _) (ownA_good _ _ _) (ownA_good _ _ _) (refA_good _ _ _) emp_good hr.good HS8b.out).mono ?_); rintro e w8 ⟨rfl, hS9b⟩; have e1 := (kb.step hS9b.bel).cell; obtain ⟨e2, f2, l2⟩ := hS9b.own; obtain ⟨e3, f3, l3⟩ := hS9b.drop.own))))
  all_goals
    first
      | (have hP := At.poke11 ((ownA_good _ _ _).star ((refA_good _ _ _).star (good1 _ _ _))) hS9b)
      | (have hP := hS9)
    have e1 := (kb.step hP.bel).cell
    obtain ⟨e2, f2, l2⟩ := hP.own
    obtain ⟨e3, f3, l3⟩ := hP.drop.own
    go_wp2_with (first
      | (go_at_call 16; (with_reducible refine (lnum _ _).mono ?_); rintro e w9 ⟨rfl, rfl⟩)
      | (go_at_call 20; (with_reducible refine (At.op3G (HL.out _) (ownA_good _ _ _) (ownA_good _ _ _) (refA_good _ _ _) emp_good hr.good hP).mono ?_); rintro e w9 ⟨rfl, hP1⟩))
    go_ret
    exact ⟨rfl, hr.below.trans (hP1.bel.mono hr.below.size)⟩
end Go.Proofs.YtiebpjkppjollaaDoor

namespace Go.Proofs.YtiebpjkppjollaaDoor
open Go Go.RowKit

theorem one9_all {r : Rc} (h : rcE 9 [] r = 0) : r.may = true ∧ okNum (rcN 9 [] r) = true ∧ ckI (rcT 9 [] r) true r.tm (rcN 9 [] r) = true ∧ rcS 9 [] r = r.sec (rcN 9 [] r) := by
  obtain ⟨h1, h2, h3, h4⟩ := put_in h
  have l1 := rcT_len (most := 9) (ts := []) r
  simp only [List.length_nil] at l1
  exact ⟨h1, by rw [h3]; exact idx_ok h2 (by omega), by rw [h3]; exact ckI_of h2, h4⟩
theorem rback_walk (r : Rc) (ai yi : Int) (w : World) (hg : Gd w) : Calls Tryd.prog 4 #[r.val, .int .i64 ai, .int .i64 yi] w fun e w' => e = .returned (.bool true) ∧ Below w.heap.size w w' := by
  have pa := fun p => dpput p 9 [] r (by decide)
  by_cases e : rcE 9 [] r = 0
  · obtain ⟨_, hT, hno⟩ := one9 e
    obtain ⟨hm, ho, hc, hs⟩ := one9_all e
    have h64 : (rcS 9 [] r).size = 64 := by rw [hs]; exact r.sec_size _
    have pg := fun p u a b (hu : u.size ≤ 9223372036854770000) => dpget p 9 (rcT 9 [] r) u a b hu
    have f := fun a b => (find_of hm ho hc a b).2
    rw [← hs] at f
    obtain ⟨m1, m2, _, _, m5, _⟩ := (Rc.may_iff r).1 hm
    obtain ⟨s0, s1⟩ := (okNum_iff _).1 m2
    obtain ⟨s4, s5⟩ := (okNum_iff _).1 m5
    rw [e] at pa
    obtain ⟨k, hkk, hk⟩ : ∃ k : Nat, (IntKind.u64.wrap ai).tmod 64 = (k : Int) ∧ k < 64 := by
      have h0 : 0 ≤ IntKind.u64.wrap ai := by rw [IntKind.wrap_u64]; omega
      refine ⟨((IntKind.u64.wrap ai).tmod 64).toNat, ?_, ?_⟩
      · rw [Int.tmod_eq_emod_of_nonneg h0]; omega
      · rw [Int.tmod_eq_emod_of_nonneg h0]; omega
    have hmm := i64_mask yi 7 (by omega)
    rw [show ((2 ^ 7 - 1 : Nat) : Int) = 127 from by decide, show ((2 ^ 7 : Nat) : Int) = 128 from by decide] at hmm
    obtain ⟨m, hm'⟩ : ∃ m : Nat, yi % 128 = (m : Int) := ⟨(yi % 128).toNat, by omega⟩
    rw [hm'] at hmm
    have hm127 : m ≤ 127 := by omega
    have hB := byteK_lt (rcS 9 [] r) k
    have hx := xor_u8 (byteK (rcS 9 [] r) k) (1 + m) hB (by omega)
    rw [show ((1 + m : Nat) : Int) = 1 + (m : Int) by omega] at hx
    have hd : byteK (rcS 9 [] r) k ^^^ (1 + m) < 256 := by
      have := Nat.xor_lt_two_pow (n := 8) (x := byteK (rcS 9 [] r) k) (y := 1 + m) (by omega) (by omega)
      simpa using this
    have hne := turnB_ne (s := rcS 9 [] r) (k := k) (by omega) hd (xor_ne _ _ (by omega))
    have hsz := turnB_size (rcS 9 [] r) k (byteK (rcS 9 [] r) k ^^^ (1 + m))
    have g1 := fun p => pg p (rcS 9 [] r) r.seq r.prev (by omega)
    have g2 := fun p => pg p (rcS 9 [] r) (r.seq + 1) r.prev (by omega)
    have g3 := fun p => pg p (rcS 9 [] r) r.seq (r.prev + 1) (by omega)
    have g4 := fun p => pg p (turnB (rcS 9 [] r) k (byteK (rcS 9 [] r) k ^^^ (1 + m))) r.seq r.prev (by omega)
    have g5 := fun p => pg p ((rcS 9 [] r).extract 1 64) r.seq r.prev (by rw [ByteArray.size_extract]; omega)
    obtain ⟨a1, a2, a3⟩ := (f r.seq r.prev).1 ⟨rfl, rfl⟩
    obtain ⟨b1, b2, b3⟩ := (f (r.seq + 1) r.prev).2 (fun c => by omega)
    obtain ⟨c1, c2, c3⟩ := (f r.seq (r.prev + 1)).2 (fun c => by omega)
    obtain ⟨d1, d2, d3⟩ := hno _ r.seq r.prev hne
    obtain ⟨i1, i2, i3⟩ := hno ((rcS 9 [] r).extract 1 64) r.seq r.prev (fun c => by
      have := congrArg ByteArray.size c
      rw [ByteArray.size_extract] at this
      omega)
    rw [a1, a2, a3] at g1
    rw [b1, b2, b3] at g2
    rw [c1, c2, c3] at g3
    rw [d1, d2, d3] at g4
    rw [i1, i2, i3] at g5
    clear a1 a2 a3 b1 b2 b3 c1 c2 c3 d1 d2 d3 i1 i2 i3 f pg hno hs hc ho hm
    obtain ⟨x0, x1, x2, ⟨x3, x4, x5, x6, x7, x8, x9, x10⟩⟩ := r
    exact rback_yes x0 x1 x2 x3 x4 x5 x6 x7 x8 x9 x10 ai yi _ _ _ k m _ h64 hk hkk hm127 hmm hd hx m1 s1 s4 s5 hT pa g1 g2 g3 g4 g5 w hg
  · rw [(put_no e).1, (put_no e).2.1, (put_no e).2.2] at pa
    obtain ⟨x0, x1, x2, ⟨x3, x4, x5, x6, x7, x8, x9, x10⟩⟩ := r
    exact rback_no x0 x1 x2 x3 x4 x5 x6 x7 x8 x9 x10 ai yi _ pa w hg
end Go.Proofs.YtiebpjkppjollaaDoor

