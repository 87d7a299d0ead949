/- packet.Get answers the packet whose bytes came in, and ErrPacketForm where they are none. Conditions: the text's size, and errors.errorType holds the handle of the type error. -/
import Derived.Test.YtheeblhlhdeghaaDoorPpread
import Derived.Test.YtheeblhlhdeghaaDoorFget
import Derived.Test.YtheeblhlhdeghaaDoorFtext
import Derived.Test.YtheeblhlhdeghaaDoorGr
import Derived.Outline
namespace Go.Proofs.YtheeblhlhdeghaaDoor
open Go Go.RowKit

def arr7 (r : Nat → Int) : Array Value := #[.int .i64 (r 0), .int .i64 (r 1), .int .i64 (r 2), .int .i64 (r 3), .int .i64 (r 4), .int .i64 (r 5), .int .i64 (r 6)]
theorem Blk.set {W : World} {b : Nat} {c c' : Array Value} (h : Blk W b c) (i : Nat) (v : Value) (hi : i < c.size) (hc : ∀ j, (c'[j]? = if j = i then some v else c[j]?)) : Blk (W.setCell ⟨b, i, none⟩ v) b c' := by
  refine ⟨fun j => ?_, fun j => ?_, by simpa using h.lt⟩
  · rw [hc j]
    split
    · rename_i e; subst e
      have h0 : W.cell? ⟨b, j, none⟩ = some c[j] := by rw [h.cell j, Array.getElem?_eq_getElem hi]
      exact World.cell?_setCell_same _ _ _ h0
    · rename_i e
      have hn : (⟨b, i, none⟩ : Addr) ≠ ⟨b, j, none⟩ := by intro c; cases c; exact e rfl
      exact (World.cell?_setCell_other _ _ _ _ hn).trans (h.cell j)
  · exact (World.frozen?_setCell _ _ _ _).trans (h.froz j)
theorem Blk.far {W : World} {b : Nat} {c : Array Value} (h : Blk W b c) (a : Addr) (v : Value) (hb : a.block ≠ b) : Blk (W.setCell a v) b c :=
  ⟨fun j => (World.cell?_setCell_other _ _ _ _ (by intro c; subst c; exact hb rfl)).trans (h.cell j), fun j => (World.frozen?_setCell _ _ _ _).trans (h.froz j), by simpa using h.lt⟩
theorem arr7_set (r : Nat → Int) (j : Nat) (hj : j < 7) (v : Int) : ∀ i, ((arr7 (updR r j v))[i]? = if i = j then some (.int .i64 v) else (arr7 r)[i]?) := by
  intro i
  have h7 : i < 7 ∨ 7 ≤ i := by omega
  rcases h7 with h7 | h7
  · have : (arr7 (updR r j v))[i]? = some (.int .i64 (updR r j v i)) := by
      match i, h7 with
      | 0, _ | 1, _ | 2, _ | 3, _ | 4, _ | 5, _ | 6, _ => rfl
    have h2 : (arr7 r)[i]? = some (.int .i64 (r i)) := by
      match i, h7 with
      | 0, _ | 1, _ | 2, _ | 3, _ | 4, _ | 5, _ | 6, _ => rfl
    rw [this, h2]
    unfold updR
    split <;> rfl
  · rw [Array.getElem?_eq_none (by show 7 ≤ i; exact h7), if_neg (by omega), Array.getElem?_eq_none (by show 7 ≤ i; exact h7)]

theorem arr7_get (r : Nat → Int) (j : Nat) (hj : j < 7) : (arr7 r)[j]? = some (.int .i64 (r j)) := by
  match j, hj with
  | 0, _ | 1, _ | 2, _ | 3, _ | 4, _ | 5, _ | 6, _ => rfl

theorem pjoin (k a b c d e f g : Int) (s : ByteArray) (w : World) : Calls Tryd.prog 31 #[.int .i64 k, .agg #[.int .i64 a, .int .i64 b, .int .i64 c, .int .i64 d, .int .i64 e, .int .i64 f, .int .i64 g], .string s] w fun ev w' => ev = .returned (.agg #[.int .i64 k, .int .i64 a, .int .i64 f, .int .i64 b, .int .i64 e, .int .i64 g, .int .i64 c, .int .i64 d, .string s]) ∧ Below w.heap.size w w' := by
  go_enter Tryd.func31, Tryd.ntmps31
  go_wp2
  refine bodyPost_ret (v := .agg #[.int .i64 k, .int .i64 a, .int .i64 f, .int .i64 b, .int .i64 e, .int .i64 g, .int .i64 c, .int .i64 d, .string s]) (by simp [results, Tryd.results31, go_sem]) rfl ⟨rfl, ?_⟩
  repeat (first | exact Below.refl _ _ | refine Below.setCell ?_ (by simp) _ | refine Below.alloc ?_ (by simp) _)

/-- What read answers. -/
def PostR (s : ByteArray) (w : World) (ev : Ending) (w' : World) : Prop := Below w.heap.size w w' ∧
  ((∃ p b, rdP s = some (p, b) ∧ ev = .returned (.tuple #[p.val, .int .i64 b, .int .i64 0])) ∨ (rdP s = none ∧ ∃ er : Int, er ≠ 0 ∧ ev = .returned (.tuple #[Pk.zero.val, .int .i64 0, .int .i64 er])))

set_option maxRecDepth 100000 in
set_option maxHeartbeats 4000000 in
theorem pread_bad (s : ByteArray) (w : World) (hs : s.size ≤ 9223372036854770000) (hg : Gd w) (hE : getE s 0 ≠ 0) : Calls Tryd.prog 22 #[.string s] w (PostR s w) := by
  have P2 := Lib.hid (fun w hg => fget s 0 w hs (by omega) (by omega) hg)
  have hr := Gr.refl hg
  have hn : rdP s = none := by unfold rdP; rw [if_neg hE]
  have HN := Lib.hid hn
  have hx : (getE s 0 != 0) = true := by simpa using hE
  have HE := Lib.hid hE
  clear hn hE hg
  generalize getE s 0 = er at *
  generalize getX s 0 = x at *
  generalize getTo s 0 = t at *
  go_enter Tryd.func22, Tryd.ntmps22
  go_wp2_with (go_at_call 29; (with_reducible refine (P2.out _ (hr.alloc _).good).mono ?_); rintro e w1 ⟨rfl, hb⟩; replace hr := (hr.alloc _).step hb; have k := (Blk.new _ _ _).step hb; have e1 := k.cell; have g1 := k.froz; have l1 := k.lt; clear hb)
  refine bodyPost_ret (v := .tuple #[Pk.zero.val, .int .i64 0, .int .i64 er]) (by simp [results, Tryd.results22, go_sem, Pk.zero, Pk.val, e1]) rfl ⟨?_, .inr ⟨HN.out, er, HE.out, rfl⟩⟩
  repeat (with_reducible refine Below.setCell ?_ (by simp) _)
  with_reducible exact hr.below
theorem Gr.set {w W : World} (h : Gr w W) (hg : Gd w) (a : Addr) (v : Value) (ha : w.heap.size ≤ a.block) : Gr w (W.setCell a v) := by
  have hb : Below w.heap.size w (W.setCell a v) := h.below.setCell ha v
  exact ⟨hb, hg.below hb hg.pos⟩

set_option maxRecDepth 100000 in
set_option maxHeartbeats 8000000 in
theorem pread_ok (s : ByteArray) (w : World) (hs : s.size ≤ 9223372036854770000) (hg : Gd w) (hE : getE s 0 = 0) : Calls Tryd.prog 22 #[.string s] w (PostR s w) := by
  have P2 := fun w hg => fget s 0 w hs (by omega) (by omega) hg
  rw [hE] at P2
  have P2 := Lib.hid P2
  have hr := Gr.refl hg
  have HG := Lib.hid hg
  have hn : rdP s = endP s (getX s 0) (pU (getX s 0)) (stP s (pU (getX s 0)) (getTo s 0) 7) := by unfold rdP; rw [if_pos hE]
  have HN := Lib.hid hn
  have hb0 := get_bd hE
  have HB := Lib.hid (fun j r a => stP_bd (s := s) (U := pU (getX s 0)) (a0 := getTo s 0) (by omega) (by omega) j r a)
  have HNm := Lib.hid (fun w => pnamed (getX s 0) w)
  have HW := Lib.hid (fun (j : Int) w j0 j1 => pwith (pU (getX s 0)) j w j0 j1)
  have H0 : Hid (stP s (pU (getX s 0)) (getTo s 0) 0 = some (fun _ => 0, getTo s 0)) := Lib.hid rfl
  clear hn hE hg hb0
  generalize pU (getX s 0) = U at *
  generalize getX s 0 = k at *
  generalize getTo s 0 = a0 at *
  go_enter Tryd.func22, Tryd.ntmps22
  go_wp2_with (first
    | (go_at_call 29; (with_reducible refine (P2.out _ (hr.alloc _).good).mono ?_); rintro e w1 ⟨rfl, hb⟩; replace hr := (hr.alloc _).step hb; have kr := (Blk.new _ _ _).step hb; have l1 := kr.lt; clear hb)
    | (go_at_call 15; (with_reducible refine (HNm.out _).mono ?_); rintro e w2 ⟨rfl, rfl⟩))
  have kx := Blk.new w1 (arr7 fun _ => 0) 46
  replace kr := kr.alloc (.cells (arr7 fun _ => 0) 46)
  replace hr := hr.alloc (.cells (arr7 fun _ => 0) 46)
  have l2 : w.heap.size < w1.heap.size := l1
  generalize w1.heap.size = bx at *
  go_loopw [6, 24] (fun a i wr => ∃ (j : Nat) (r : Nat → Int) (at' : Int), j ≤ 7 ∧ i = .int .i64 j ∧ a = .int .i64 at' ∧ stP s U a0 j = some (r, at') ∧ Gr w wr ∧ Blk wr w.heap.size #[.int .i64 0, .int .i64 0, .int .i64 0, .int .i64 0, .int .i64 0, .int .i64 0, .int .i64 0, .int .i64 0, .string ⟨#[]⟩] ∧ Blk wr bx (arr7 r)) (fun _ i _ => 7 - (intOf i).toNat)
  case atStart => exact ⟨0, _, _, by omega, rfl, rfl, H0.out, hr, kr, kx⟩
  case round =>
    clear hr kr kx l1
    obtain ⟨j, r, a, hj, rfl, rfl, hst, hr, kr, kx⟩ := hrel
    have HS := Lib.hid hst
    obtain ⟨A0, A1⟩ := HB.out j r a hst
    have HGo := Lib.hid (stP_go hst)
    have HF := Lib.hid (fun w hg => fget s a w hs (by omega) (by omega) hg)
    have hl := kr.lt
    have hlx := kx.lt
    clear hst
    by_cases hlt : j < 7
    · have HMj := Lib.hid (fun w => HW.out (j : Int) w (by omega) (by omega))
      cases hT : pT U (j : Int)
      · rw [hT] at HMj
        have HT := Lib.hid hT
        clear hT
        go_wp2_with (go_at_call 18; (with_reducible refine (HMj.out _).mono ?_); rintro e w2 ⟨rfl, rfl⟩)
        go_roundw
        case rel => exact ⟨j + 1, r, a, by omega, by go_num, rfl, HGo.out.1 HT.out, hr, kr, kx⟩
        case measure => simp [intOf]; omega
      · rw [hT] at HMj
        have HT := Lib.hid hT
        clear hT
        by_cases hE : getE s a = 0
        · have HE := Lib.hid hE
          rw [hE] at HF
          have hst2 := Lib.hid (HGo.out.2.1 HT.out hE)
          have hupd := Lib.hid (arr7_set r j hlt (getX s a))
          clear hE
          generalize getX s a = x at *
          generalize getTo s a = a2 at *
          have hA := Lib.hid (arr7_get r j hlt)
          go_wp2_with (first
            | (go_at_call 18; (with_reducible refine (HMj.out _).mono ?_); rintro e w2 ⟨rfl, rfl⟩)
            | (go_at_call 29; (with_reducible refine (HF.out _ hr.good).mono ?_); rintro e w2 ⟨rfl, hb⟩; replace hr := hr.step hb; replace kr := kr.step hb; replace kx := kx.step hb; have e2 := (kx.cell j).trans hA.out; have g2 := kx.froz j; have l3 := kx.lt; clear hb))
          go_roundw
          case rel => exact ⟨j + 1, updR r j x, a2, by omega, by go_num, rfl, hst2.out, hr.set HG.out _ _ (Nat.le_of_lt l2), kr.far _ _ (Nat.ne_of_gt l2), kx.set j _ hlt hupd.out⟩
          case measure => simp [intOf]; omega
        · have hx : (getE s a != 0) = true := by simpa using hE
          have HE := Lib.hid hE
          have hst2 := Lib.hid (HGo.out.2.2 HT.out hE hlt)
          clear hE
          generalize getX s a = x at *
          generalize getTo s a = a2 at *
          generalize getE s a = er at *
          go_wp2_with (first
            | (go_at_call 18; (with_reducible refine (HMj.out _).mono ?_); rintro e w2 ⟨rfl, rfl⟩)
            | (go_at_call 29; (with_reducible refine (HF.out _ hr.good).mono ?_); rintro e w2 ⟨rfl, hb⟩; replace hr := hr.step hb; replace kr := kr.step hb; replace kx := kx.step hb; have e1 := kr.cell; have g1 := kr.froz; have hA := Lib.hid (arr7_get r j hlt); have e2 := (kx.cell j).trans hA.out; have g2 := kx.froz j; have l3 := kx.lt; clear hb))
          refine bodyPost_ret (v := .tuple #[Pk.zero.val, .int .i64 0, .int .i64 er]) (by simp [results, Tryd.results22, go_sem, Pk.zero, Pk.val, e1]) rfl ⟨?_, .inr ⟨by rw [HN.out, hst2.out]; rfl, er, HE.out, rfl⟩⟩
          repeat (with_reducible refine Below.setCell ?_ (by simp; try omega) _)
          with_reducible exact hr.below
    · obtain rfl : j = 7 := by omega
      have HMj := Lib.hid (fun w => HW.out 7 w (by omega) (by omega))
      have HJ := Lib.hid (fun d w => pjoin k (r 0) (r 1) (r 2) (r 3) (r 4) (r 5) (r 6) d w)
      have HTx := fun w hg => fgett s a w hs (by omega) (by omega) hg
      cases hT : pT U 7
      · rw [hT] at HMj
        have hres : rdP s = some (joinP k r ⟨#[]⟩, a) := by rw [HN.out, HS.out]; simp only [endP, hT]; rfl
        have HR := Lib.hid hres
        have kx' : Blk wr bx #[.int .i64 (r 0), .int .i64 (r 1), .int .i64 (r 2), .int .i64 (r 3), .int .i64 (r 4), .int .i64 (r 5), .int .i64 (r 6)] := kx
        have e1 := kx'.cell
        have g1 := kx'.froz
        clear hT hres kx HTx
        go_wp2_with (first
          | (go_at_call 18; (with_reducible refine (HMj.out _).mono ?_); rintro e w2 ⟨rfl, rfl⟩)
          | (go_at_call 31; (with_reducible refine (HJ.out _ _).mono ?_); rintro e w2 ⟨rfl, hb⟩; replace hr := hr.step hb; replace kr := kr.step hb; have e2 := kr.cell; have g2 := kr.froz; clear hb))
        refine bodyPost_ret (v := .tuple #[(joinP k r ⟨#[]⟩).val, .int .i64 a, .int .i64 0]) (by simp [results, Tryd.results22, go_sem, joinP, Pk.val, e2]) rfl ⟨?_, .inl ⟨_, _, HR.out, rfl⟩⟩
        repeat (with_reducible refine Below.setCell ?_ (by simp) _)
        with_reducible exact hr.below
      · rw [hT] at HMj
        by_cases hE : txtE s a = 0
        · rw [hE] at HTx
          have HTx := Lib.hid HTx
          have hres : rdP s = some (joinP k r (txtS s a), txtTo s a) := by rw [HN.out, HS.out]; simp only [endP, hT, hE]; rfl
          have HR := Lib.hid hres
          clear hT hres hE
          generalize txtS s a = d at *
          generalize txtTo s a = a2 at *
          go_wp2_with (first
            | (go_at_call 18; (with_reducible refine (HMj.out _).mono ?_); rintro e w2 ⟨rfl, rfl⟩)
            | (go_at_call 30; (with_reducible refine (HTx.out _ hr.good).mono ?_); rintro e w2 ⟨rfl, hb⟩; replace hr := hr.step hb; replace kr := kr.step hb; replace kx := kx.step hb; have kx' : Blk w2 bx #[.int .i64 (r 0), .int .i64 (r 1), .int .i64 (r 2), .int .i64 (r 3), .int .i64 (r 4), .int .i64 (r 5), .int .i64 (r 6)] := kx; have e1 := kx'.cell; have g1 := kx'.froz; clear hb)
            | (go_at_call 31; (with_reducible refine (HJ.out _ _).mono ?_); rintro e w3 ⟨rfl, hb⟩; replace hr := hr.step hb; replace kr := kr.step hb; have e2 := kr.cell; have g2 := kr.froz; clear hb))
          refine bodyPost_ret (v := .tuple #[(joinP k r d).val, .int .i64 a2, .int .i64 0]) (by simp [results, Tryd.results22, go_sem, joinP, Pk.val, e2]) rfl ⟨?_, .inl ⟨_, _, HR.out, rfl⟩⟩
          repeat (with_reducible refine Below.setCell ?_ (by simp) _)
          with_reducible exact hr.below
        · have hx : (txtE s a != 0) = true := by simpa using hE
          have HE := Lib.hid hE
          have HTx := Lib.hid HTx
          have hres : rdP s = none := by rw [HN.out, HS.out]; simp only [endP, hT, if_neg hE]; rfl
          have HR := Lib.hid hres
          clear hT hres hE
          generalize txtS s a = d at *
          generalize txtTo s a = a2 at *
          generalize txtE s a = er at *
          go_wp2_with (first
            | (go_at_call 18; (with_reducible refine (HMj.out _).mono ?_); rintro e w2 ⟨rfl, rfl⟩)
            | (go_at_call 30; (with_reducible refine (HTx.out _ hr.good).mono ?_); rintro e w2 ⟨rfl, hb⟩; replace hr := hr.step hb; replace kr := kr.step hb; have e2 := kr.cell; have g2 := kr.froz; clear hb))
          refine bodyPost_ret (v := .tuple #[Pk.zero.val, .int .i64 0, .int .i64 er]) (by simp [results, Tryd.results22, go_sem, Pk.zero, Pk.val, e2]) rfl ⟨?_, .inr ⟨HR.out, er, HE.out, rfl⟩⟩
          repeat (with_reducible refine Below.setCell ?_ (by simp) _)
          with_reducible exact hr.below
end Go.Proofs.YtheeblhlhdeghaaDoor
