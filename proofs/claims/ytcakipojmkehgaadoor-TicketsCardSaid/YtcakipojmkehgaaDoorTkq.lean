/- Package ticket's ask, errno, read, open: what they answer. Conditions: the epoch may be, the handle of the type error, the texts' sizes. -/
import Derived.Test.YtcakipojmkehgaaDoorTkp
import Derived.Test.YtcakipojmkehgaaDoorBlks
import Derived.Deep.RegionWith
namespace Go.Proofs.YtcakipojmkehgaaDoor
open Go Go.RowKit

theorem tkask (p : Nat) (most : Int) (ts : List ByteArray) (e : Int) (he : okNum e = true) (w : World) (F : List Nat) (h : bookA p most ts w F) :
    Calls Tryd.prog 58 #[.pointer (some ⟨p, 0, none⟩), .int .i64 e] w fun r w' => r = .returned (.tuple #[.int .i64 (fnd ts (epK e)), .bool (isB ts (epK e))]) ∧ Below w.heap.size w w' := by
  obtain ⟨e0, e1⟩ := (okNum_iff e).1 he
  obtain ⟨g1, g2, g3⟩ := rg_new (most := 1) (ts := []) e0 e1 (by simp) (by simp)
  have hk := fun q => pgkey q 1 [] e (by omega) (by omega)
  rw [g1, g2, g3] at hk
  have hk' : ∀ q, Does Tryd.prog (bookA q 1 []) 38 #[.pointer (some ⟨q, 0, none⟩), .int .i64 e] (.returned (.tuple #[.int .i64 0, .int .i64 0])) (bookA q 1 [epK e]) := hk
  have ht : ∀ q, Does Tryd.prog (bookA q 1 [epK e]) 33 #[.pointer (some ⟨q, 0, none⟩), .int .i64 0] (.returned (.tuple #[.string (epK e), .int .i64 0])) (bookA q 1 [epK e]) := fun q => dterm q 1 [epK e] 0
  have hf : ∀ W, Below w.heap.size w W → Calls Tryd.prog 17 #[.pointer (some ⟨p, 0, none⟩), .string (epK e)] W fun r w' => r = .returned (.tuple #[.int .i64 (fnd ts (epK e)), .bool (isB ts (epK e))]) ∧ W = w' := fun W hb =>
    bfind p most ts (epK e) W F ((bookA_good p most ts).below h hb) (by have := (okT_iff _).1 (epK_ok e); unfold maxLen; omega)
  generalize fnd ts (epK e) = X at *
  generalize isB ts (epK e) = B at *
  generalize epK e = T at *
  have HK := Lib.hid hk'
  have HT := Lib.hid ht
  have HF := Lib.hid hf
  clear hk hk' ht hf g1 g2 g3 h
  go_enter Tryd.func58, Tryd.ntmps58
  go_wp2_with (first
    | (go_at_call 20; (with_reducible refine (bnew_ok 1 _ (by omega) (by omega)).mono ?_); rintro r w1 ⟨q, rfl, hS⟩)
    | (go_at_call 38; (with_reducible refine (Becomes.op (HK.out _) hS).mono ?_); rintro r w2 ⟨rfl, hS2⟩; replace hS := hS2; clear hS2)
    | (go_at_call 33; (with_reducible refine (Becomes.op (HT.out _) hS).mono ?_); rintro r w3 ⟨rfl, hS2⟩; replace hS := hS2; clear hS2)
    | (go_at_call 17; (with_reducible refine (HF.out _ hS.nil).mono ?_); rintro r w4 ⟨rfl, rfl⟩))
  go_ret2
  exact ⟨rfl, hS.nil⟩

/-- The ticket's number for what befell a layer beneath it. -/
def tkEn (n : Int) : Int := if n = 0 then 0 else if n = 1 then 1 else if n = 1500 ∨ n = 1400 ∨ n = 300 then 1500 else 1501
set_option maxHeartbeats 1000000 in
theorem tkerr {W : World} {v : Value} {n : Int} (h : Er W v n) (hn : okN n ∨ n = 1 ∨ n = 1500 ∨ n = 1400 ∨ n = 300) : Calls Tryd.prog 24 #[v] W fun e w' => e = .returned (.int .i64 (tkEn n)) ∧ W = w' := by
  have H := fun (m : Int) (hm : m ≠ 0) => Lib.hid (eris h hm)
  rcases h with ⟨rfl, rfl⟩ | ⟨h0, b, rfl, h1⟩
  · clear H
    go_enter Tryd.func24, Tryd.ntmps24
    go_wp2
    go_ret
    exact ⟨rfl, rfl⟩
  · have H1 := H 1 (by decide)
    have H2 := H 1500 (by decide)
    have H3 := H 1400 (by decide)
    have H4 := H 300 (by decide)
    clear H h1
    rcases hn with (rfl | rfl | rfl | rfl | rfl | rfl) | rfl | rfl | rfl | rfl
    · exact absurd rfl h0
    all_goals
      clear h0
      go_enter Tryd.func24, Tryd.ntmps24
      go_wp2_with (go_at_call 42; (first | with_reducible refine H1.out.mono ?_ | with_reducible refine H2.out.mono ?_ | with_reducible refine H3.out.mono ?_ | with_reducible refine H4.out.mono ?_); rintro e w' ⟨rfl, rfl⟩)
      go_ret
      exact ⟨rfl, rfl⟩
theorem tker_nil {w : World} {v : Value} (h : Er w v 0) : v = .nilIface := by
  rcases h with ⟨_, h⟩ | ⟨h0, _⟩
  · exact h
  · exact absurd rfl h0
theorem tker_ne {w : World} {v : Value} {n : Int} (h : Er w v n) (hn : ¬ n = 0) : ∃ b, v = .iface 97 (.pointer (some ⟨b, 0, none⟩)) ∧ w.cell? ⟨b, 2, none⟩ = some (.iface 30 (.int .i64 n)) := by
  rcases h with ⟨h0, _⟩ | ⟨_, h⟩
  · exact absurd h0 hn
  · exact h
theorem tker_mk {w : World} {b : Nat} {n : Int} (hn : n ≠ 0) (h : w.cell? ⟨b, 2, none⟩ = some (.iface 30 (.int .i64 n))) : Er w (.iface 97 (.pointer (some ⟨b, 0, none⟩))) n := .inr ⟨hn, b, rfl, h⟩

theorem tkflt (s : ByteArray) (a n : Int) (w : World) : Calls Tryd.prog 36 #[.string s, .int .i64 a, .iface 30 (.int .i64 n)] w fun e w' => ∃ b, e = .returned (.iface 97 (.pointer (some ⟨b, 0, none⟩))) ∧ w'.cell? ⟨b, 2, none⟩ = some (.iface 30 (.int .i64 n)) ∧ Below w.heap.size w w' := by
  refine (fltnew s a _ _ w).mono ?_
  rintro e w' ⟨rfl, rfl⟩
  exact ⟨_, rfl, by simp, (Below.refl _ _).alloc (Nat.le_refl _) _⟩
/- read -/
def tkVal (s : ByteArray) (j : Nat) : Int := if tkQ s j = 0 then tkX s j else 0
/-- The first n numbers, then zeros. -/
def tkC (s : ByteArray) (n : Nat) : Array Value := #[.int .i64 (if 0 < n then tkX s 0 else 0), .int .i64 (if 1 < n then tkX s 1 else 0), .int .i64 (if 2 < n then tkX s 2 else 0), .int .i64 (if 3 < n then tkX s 3 else 0), .int .i64 (if 4 < n then tkX s 4 else 0)]
theorem tkC_set (s : ByteArray) (n : Nat) (hn : n < 5) (j : Nat) : (tkC s (n + 1))[j]? = if j = n then some (.int .i64 (tkX s n)) else (tkC s n)[j]? := by
  have h5 : (tkC s (n + 1)).size = 5 := rfl
  have h5' : (tkC s n).size = 5 := rfl
  by_cases hj : j < 5
  · match n, hn, j, hj with
    | 0, _, 0, _ => rfl
    | 0, _, 1, _ => rfl
    | 0, _, 2, _ => rfl
    | 0, _, 3, _ => rfl
    | 0, _, 4, _ => rfl
    | 1, _, 0, _ => rfl
    | 1, _, 1, _ => rfl
    | 1, _, 2, _ => rfl
    | 1, _, 3, _ => rfl
    | 1, _, 4, _ => rfl
    | 2, _, 0, _ => rfl
    | 2, _, 1, _ => rfl
    | 2, _, 2, _ => rfl
    | 2, _, 3, _ => rfl
    | 2, _, 4, _ => rfl
    | 3, _, 0, _ => rfl
    | 3, _, 1, _ => rfl
    | 3, _, 2, _ => rfl
    | 3, _, 3, _ => rfl
    | 3, _, 4, _ => rfl
    | 4, _, 0, _ => rfl
    | 4, _, 1, _ => rfl
    | 4, _, 2, _ => rfl
    | 4, _, 3, _ => rfl
    | 4, _, 4, _ => rfl
  · rw [if_neg (by omega), Array.getElem?_eq_none (by omega), Array.getElem?_eq_none (by omega)]
theorem tkC_at (s : ByteArray) (n : Nat) (hn : n < 5) : (tkC s n)[n]? = some (.int .i64 0) := by
  match n, hn with
  | 0, _ => rfl
  | 1, _ => rfl
  | 2, _ => rfl
  | 3, _ => rfl
  | 4, _ => rfl
/-- Within read: the result's block, the body's, the row of places. -/
structure TR (w W : World) (c : Array Value) : Prop where
  gr : Gr w W
  b0 : Blk W w.heap.size #[.int .i64 0, .int .i64 0, .int .i64 0, .int .i64 0, .int .i64 0]
  b1 : Blk W (w.heap.size + 1) c
  b2 : Blk W (w.heap.size + 1 + 1) #[.pointer (some ⟨w.heap.size + 1, 0, none⟩), .pointer (some ⟨w.heap.size + 1, 1, none⟩), .pointer (some ⟨w.heap.size + 1, 2, none⟩), .pointer (some ⟨w.heap.size + 1, 3, none⟩), .pointer (some ⟨w.heap.size + 1, 4, none⟩)]
theorem TR.start {w : World} (hg : Gd w) : TR w (((w.alloc (.cells #[.int .i64 0, .int .i64 0, .int .i64 0, .int .i64 0, .int .i64 0] 34)).alloc (.cells #[.int .i64 0, .int .i64 0, .int .i64 0, .int .i64 0, .int .i64 0] 34)).alloc (.cells #[.pointer (some ⟨w.heap.size + 1, 0, none⟩), .pointer (some ⟨w.heap.size + 1, 1, none⟩), .pointer (some ⟨w.heap.size + 1, 2, none⟩), .pointer (some ⟨w.heap.size + 1, 3, none⟩), .pointer (some ⟨w.heap.size + 1, 4, none⟩)] 128)) #[.int .i64 0, .int .i64 0, .int .i64 0, .int .i64 0, .int .i64 0] :=
  ⟨((Gr.refl hg).alloc _).alloc _ |>.alloc _, ((Blk.new _ _ _).alloc _).alloc _, (Blk.new' _ _ (by simp) _ _).alloc _, Blk.new' _ _ (by simp) _ _⟩
theorem TR.step {w W W' : World} {c : Array Value} (h : TR w W c) (hb : Below W.heap.size W W') : TR w W' c := ⟨h.gr.step hb, h.b0.step hb, h.b1.step hb, h.b2.step hb⟩
theorem TR.set {w W : World} {c c' : Array Value} (hg : Gd w) (h : TR w W c) (i : Nat) (v : Value) (hi : i < c.size) (hc : ∀ j, (c'[j]? = if j = i then some v else c[j]?)) : TR w (W.setCell ⟨w.heap.size + 1, i, none⟩ v) c' :=
  ⟨h.gr.set hg _ _ (by simp), h.b0.far _ _ (by simp), h.b1.set i v hi hc, h.b2.far _ _ (by simp)⟩
theorem ptr_at (q n : Nat) (hn : n < 5) : (#[.pointer (some ⟨q, 0, none⟩), .pointer (some ⟨q, 1, none⟩), .pointer (some ⟨q, 2, none⟩), .pointer (some ⟨q, 3, none⟩), .pointer (some ⟨q, 4, none⟩)] : Array Value)[n]? = some (.pointer (some ⟨q, n, none⟩)) := by
  match n, hn with
  | 0, _ => rfl
  | 1, _ => rfl
  | 2, _ => rfl
  | 3, _ => rfl
  | 4, _ => rfl
theorem tkA_bd (s : ByteArray) : ∀ n, (∀ j, j < n → tkQ s j = 0) → 0 ≤ tkA s n ∧ tkA s n ≤ s.size
  | 0, _ => ⟨Int.le_refl 0, by show (0 : Int) ≤ _; omega⟩
  | n + 1, h => by
    have h0 := h n (by omega)
    obtain ⟨_, _, b0, b1, b2⟩ := get_bd (show getE s (tkA s n) = 0 from h0)
    show 0 ≤ getTo s (tkA s n) ∧ getTo s (tkA s n) ≤ s.size
    omega
theorem tkN_at {s : ByteArray} {n : Nat} (hn : n < 5) (h : ∀ j, j < n → tkQ s j = 0) (hq : tkQ s n ≠ 0) : tkN s = tkQ s n ∧ tkG s = none := by
  unfold tkN tkG
  match n, hn with
  | 0, _ => exact ⟨by rw [if_pos hq], by rw [if_neg (fun c => hq c.1)]⟩
  | 1, _ =>
    have h0 := h 0 (by omega)
    exact ⟨by simp [h0, hq], by rw [if_neg (fun c => hq c.2.1)]⟩
  | 2, _ =>
    have h0 := h 0 (by omega)
    have h1 := h 1 (by omega)
    exact ⟨by simp [h0, h1, hq], by rw [if_neg (fun c => hq c.2.2.1)]⟩
  | 3, _ =>
    have h0 := h 0 (by omega)
    have h1 := h 1 (by omega)
    have h2 := h 2 (by omega)
    exact ⟨by simp [h0, h1, h2, hq], by rw [if_neg (fun c => hq c.2.2.2.1)]⟩
  | 4, _ =>
    have h0 := h 0 (by omega)
    have h1 := h 1 (by omega)
    have h2 := h 2 (by omega)
    have h3 := h 3 (by omega)
    exact ⟨by simp [h0, h1, h2, h3, hq], by rw [if_neg (fun c => hq c.2.2.2.2.1)]⟩
theorem tkN_end {s : ByteArray} (h : ∀ j, j < 5 → tkQ s j = 0) : (tkA s 5 = s.size ∧ (tkBd s).may = true → tkN s = 0 ∧ tkG s = some (tkBd s)) ∧ (¬ (tkA s 5 = s.size ∧ (tkBd s).may = true) → tkN s = 1501 ∧ tkG s = none) := by
  have h0 := h 0 (by omega)
  have h1 := h 1 (by omega)
  have h2 := h 2 (by omega)
  have h3 := h 3 (by omega)
  have h4 := h 4 (by omega)
  refine ⟨fun c => ⟨?_, ?_⟩, fun c => ⟨?_, ?_⟩⟩
  · unfold tkN; simp [h0, h1, h2, h3, h4, c]
  · unfold tkG; rw [if_pos ⟨h0, h1, h2, h3, h4, c.1, c.2⟩]
  · unfold tkN
    rw [if_neg (by simp [h0]), if_neg (by simp [h1]), if_neg (by simp [h2]), if_neg (by simp [h3]), if_neg (by simp [h4]), if_neg c]
  · unfold tkG; rw [if_neg (fun d => c ⟨d.2.2.2.2.2.1, d.2.2.2.2.2.2⟩)]
theorem five_far {W : World} {q b : Nat} {v : Value} (x0 x1 x2 x3 x4 : Value) {c : Array Value} (h : W.cell? ⟨b, 2, none⟩ = some v) (hq : Blk W q c) (hc : c[2]? ≠ some v) :
    (((((W.setCell ⟨q, 0, none⟩ x0).setCell ⟨q, 1, none⟩ x1).setCell ⟨q, 2, none⟩ x2).setCell ⟨q, 3, none⟩ x3).setCell ⟨q, 4, none⟩ x4).cell? ⟨b, 2, none⟩ = some v := by
  have hne : b ≠ q := by
    rintro rfl
    exact hc ((hq.cell 2).symm.trans h)
  have far : ∀ (W : World) i x, (W.setCell ⟨q, i, none⟩ x).cell? ⟨b, 2, none⟩ = W.cell? ⟨b, 2, none⟩ := fun W i x => World.cell?_setCell_other _ _ _ _ (by intro c; cases c; exact hne rfl)
  rw [far, far, far, far, far]
  exact h
set_option maxRecDepth 100000 in
set_option maxHeartbeats 8000000 in
theorem tkread (s : ByteArray) (w : World) (hs : s.size ≤ 9223372036854770000) (hg : Gd w) :
    Calls Tryd.prog 60 #[.string s] w fun e w' => ∃ v, e = .returned (.tuple #[((tkG s).getD .zero).val, v]) ∧ Er w' v (tkN s) ∧ Below w.heap.size w w' := by
  have hT := TR.start hg
  have HG := Lib.hid hg
  have HB := Lib.hid (tkA_bd s)
  have HN := Lib.hid (fun (n : Nat) (a : n < 5) b c => tkN_at (s := s) (n := n) a b c)
  have HE := Lib.hid (tkN_end (s := s))
  have HGet := Lib.hid (fun a (a0 : 0 ≤ a) (a1 : a ≤ (s.size : Int)) W (hg : Gd W) => fget s a W hs (by omega) (by omega) hg)
  clear hg
  go_enter Tryd.func60, Tryd.ntmps60
  go_wp2
  go_loopw [5, 20] (fun a i wr => ∃ n : Nat, n ≤ 5 ∧ i = .int .i64 n ∧ a = .int .i64 (tkA s n) ∧ (∀ j, j < n → tkQ s j = 0) ∧ TR w wr (tkC s n)) (fun _ i _ => 5 - (intOf i).toNat)
  case atStart => exact ⟨0, by omega, rfl, rfl, fun j hj => absurd hj (by omega), hT⟩
  case round =>
    clear hT
    obtain ⟨n, hn, rfl, rfl, hall, hT⟩ := hrel
    obtain ⟨a0, a1⟩ := HB.out n hall
    have HA := Lib.hid hall
    clear hall
    by_cases hlt : n < 5
    · have hcell := (hT.b2.cell n).trans (ptr_at _ n hlt)
      have hG := HGet.out _ a0 a1
      have hE := HN.out n hlt HA.out
      have hX : getX s (tkA s n) = tkX s n := rfl
      have hTo : getTo s (tkA s n) = tkA s (n + 1) := rfl
      have hset := tkC_set s n hlt
      rw [hX, hTo, show getE s (tkA s n) = tkQ s n from rfl] at hG
      by_cases hq : tkQ s n = 0
      · rw [hq] at hG
        have HQ := Lib.hid hq
        have HS := Lib.hid hset
        have HG2 := Lib.hid hG
        clear hq hG hE hset hX hTo
        have h5 : n < (tkC s n).size := hlt
        have HC1 := Lib.hid (tkC_at s n hlt)
        have Hst := Lib.hid (fun W v (h : TR w W (tkC s n)) hc => TR.set (c' := tkC s (n + 1)) HG.out h n v h5 hc)
        clear h5
        generalize tkX s n = X at *
        generalize tkC s n = C at *
        generalize hA1 : tkA s (n + 1) = A1 at *
        generalize tkA s n = A0 at *
        go_wp2_with (first
          | (go_at_call 68; (with_reducible refine (HG2.out _ hT.gr.good).mono ?_); rintro e w1 ⟨rfl, hb⟩; replace hT := hT.step hb; clear hb)
          | (go_at_call 39; (with_reducible refine (fltof _ _ _ _).mono ?_); rintro e w2 ⟨er, rfl, hEr, hb⟩; obtain rfl := tker_nil hEr; clear hEr; replace hT := hT.step hb; clear hb; have g1 := hT.b1.froz n; have l1 := hT.b1.lt; have c1 := (hT.b1.cell n).trans HC1.out))
        go_roundw
        case rel => exact ⟨n + 1, by omega, by go_num, by rw [hA1], fun j hj => (by
          by_cases e : j = n
          · subst e; exact HQ.out
          · exact HA.out j (by omega)), Hst.out _ _ hT HS.out⟩
        case measure => simp [intOf]; omega
      · obtain ⟨hN, hNone⟩ := hE hq
        have HN0 := Lib.hid hN
        have HN1 := Lib.hid hNone
        generalize tkQ s n = Q at *
        have HQ := Lib.hid hq
        have HG2 := Lib.hid hG
        clear hq hG hN hNone hset hX hTo hE
        generalize tkX s n = X at *
        generalize tkC s n = C at *
        generalize tkA s (n + 1) = A1 at *
        generalize tkA s n = A0 at *
        go_wp2_with (first
          | (go_at_call 68; (with_reducible refine (HG2.out _ hT.gr.good).mono ?_); rintro e w1 ⟨rfl, hb⟩; replace hT := hT.step hb; clear hb)
          | (go_at_call 39; (with_reducible refine (fltof _ _ _ _).mono ?_); rintro e w2 ⟨er, rfl, hEr, hb⟩; obtain ⟨fb, rfl, hfc⟩ := tker_ne hEr HQ.out; clear hEr; replace hT := hT.step hb; clear hb; have e0 := hT.b0.cell; have g0 := hT.b0.froz; have l0 := hT.b0.lt))
        refine bodyPost_ret (v := .tuple #[.agg #[.int .i64 0, .int .i64 0, .int .i64 0, .int .i64 0, .int .i64 0], .iface 97 (.pointer (some ⟨fb, 0, none⟩))]) (by simp [results, Tryd.results60, go_sem, e0]) rfl ⟨_, by rw [HN1.out]; rfl, ?_, ?_⟩
        · rw [HN0.out]; exact tker_mk HQ.out (five_far _ _ _ _ _ hfc hT.b0 (by simp))
        · repeat (with_reducible refine Below.setCell ?_ (by simp) _)
          with_reducible exact hT.gr.below
    · obtain rfl : n = 5 := by omega
      obtain ⟨y1, y2⟩ := HE.out HA.out
      clear HN HE HB HGet
      have e0 := hT.b0.cell
      have g0 := hT.b0.froz
      have l0 := hT.b0.lt
      have e1 : ∀ i, wr.cell? ⟨w.heap.size + 1, i, none⟩ = (#[.int .i64 (tkX s 0), .int .i64 (tkX s 1), .int .i64 (tkX s 2), .int .i64 (tkX s 3), .int .i64 (tkX s 4)] : Array Value)[i]? := hT.b1.cell
      have hM := tkmay (tkBd s)
      unfold tkBd Bd.val at hM
      unfold tkBd at y1 y2
      generalize tkA s 5 = A0 at *
      by_cases hz : A0 = s.size
      · subst hz
        rw [eq_self, true_and] at y1 y2
        have hbox := hT.b1
        have HST := Lib.hid (fun W (h : Below wr.heap.size wr W) => hT.step h)
        cases hm : (Bd.mk (tkX s 0) (tkX s 1) (tkX s 2) (tkX s 3) (tkX s 4)).may with
        | true =>
          obtain ⟨y3, y4⟩ := y1 hm
          rw [hm] at hM
          have HN0 := Lib.hid y3
          have HN1 := Lib.hid y4
          have HM := Lib.hid hM
          clear y1 y2 y3 y4 hM hm
          go_wp2_with (go_at_call 37; (with_reducible refine (HM.out _).mono ?_); rintro e w2 ⟨rfl, hb⟩; replace hT := HST.out _ hb; have e2 : ∀ i, w2.cell? ⟨w.heap.size + 1, i, none⟩ = (#[.int .i64 (tkX s 0), .int .i64 (tkX s 1), .int .i64 (tkX s 2), .int .i64 (tkX s 3), .int .i64 (tkX s 4)] : Array Value)[i]? := hT.b1.cell; have e0 := hT.b0.cell; have g0 := hT.b0.froz; have l0 := hT.b0.lt)
          refine bodyPost_ret (v := .tuple #[.agg #[.int .i64 (tkX s 0), .int .i64 (tkX s 1), .int .i64 (tkX s 2), .int .i64 (tkX s 3), .int .i64 (tkX s 4)], .nilIface]) (by simp [results, Tryd.results60, go_sem, e0]) rfl ⟨_, by rw [HN1.out]; rfl, ?_, ?_⟩
          · rw [HN0.out]; exact .inl ⟨rfl, rfl⟩
          · repeat (with_reducible refine Below.setCell ?_ (by simp) _)
            with_reducible exact hT.gr.below
        | false =>
          obtain ⟨y3, y4⟩ := y2 (by rw [hm]; simp)
          rw [hm] at hM
          have HN0 := Lib.hid y3
          have HN1 := Lib.hid y4
          have HM := Lib.hid hM
          clear y1 y2 y3 y4 hM hm
          go_wp2_with (first
            | (go_at_call 37; (with_reducible refine (HM.out _).mono ?_); rintro e w2 ⟨rfl, hb⟩; replace hT := HST.out _ hb; have e2 : ∀ i, w2.cell? ⟨w.heap.size + 1, i, none⟩ = (#[.int .i64 (tkX s 0), .int .i64 (tkX s 1), .int .i64 (tkX s 2), .int .i64 (tkX s 3), .int .i64 (tkX s 4)] : Array Value)[i]? := hT.b1.cell; have e0 := hT.b0.cell; have g0 := hT.b0.froz; have l0 := hT.b0.lt)
            | (go_at_call 36; (with_reducible refine (tkflt _ _ _ _).mono ?_); rintro e w3 ⟨fb, rfl, hfc, hb⟩; replace hT := hT.step hb; have e0 := hT.b0.cell; have g0 := hT.b0.froz; have l0 := hT.b0.lt; clear hb))
          refine bodyPost_ret (v := .tuple #[.agg #[.int .i64 0, .int .i64 0, .int .i64 0, .int .i64 0, .int .i64 0], .iface 97 (.pointer (some ⟨fb, 0, none⟩))]) (by simp [results, Tryd.results60, go_sem, e0]) rfl ⟨_, by rw [HN1.out]; rfl, ?_, ?_⟩
          · rw [HN0.out]; exact tker_mk (by decide) (five_far _ _ _ _ _ hfc hT.b0 (by simp))
          · repeat (with_reducible refine Below.setCell ?_ (by simp) _)
            with_reducible exact hT.gr.below
      · obtain ⟨y3, y4⟩ := y2 (fun c => hz c.1)
        have HN0 := Lib.hid y3
        have HN1 := Lib.hid y4
        have hz1 : (A0 != (s.size : Int)) = true := by simpa using hz
        clear y1 y2 y3 y4 hM
        go_wp2_with (go_at_call 36; (with_reducible refine (tkflt _ _ _ _).mono ?_); rintro e w3 ⟨fb, rfl, hfc, hb⟩; replace hT := hT.step hb; have e0 := hT.b0.cell; have g0 := hT.b0.froz; have l0 := hT.b0.lt; clear hb)
        refine bodyPost_ret (v := .tuple #[.agg #[.int .i64 0, .int .i64 0, .int .i64 0, .int .i64 0, .int .i64 0], .iface 97 (.pointer (some ⟨fb, 0, none⟩))]) (by simp [results, Tryd.results60, go_sem, e0]) rfl ⟨_, by rw [HN1.out]; rfl, ?_, ?_⟩
        · rw [HN0.out]; exact tker_mk (by decide) (five_far _ _ _ _ _ hfc hT.b0 (by simp))
        · repeat (with_reducible refine Below.setCell ?_ (by simp) _)
          with_reducible exact hT.gr.below
end Go.Proofs.YtcakipojmkehgaaDoor
