/- Rows of half-open logins that the reference makes: parts of rows, rows laid behind rows; its Expire. Condition: the row's size. -/
import Derived.Test.YtikdnmbbiipbjaaHarow
import Derived.LoopN
namespace Go.Proofs.Ytikdnmbbiipbjaa
open Go Go.RowKit

theorem At.haIn {w0 w : World} {C : Ass} {ao : Option Addr} {n cap : Nat} {es : List Ha} (h : At w0 ((rowE THa 5 (.slice ao n cap) es.length (haCells es)).star C) w) (hn : n = es.length) (hf : es.length ≤ 3518437208883) : HaIn [] w ao n es := by
  subst hn
  refine ⟨rfl, ?_, by omega⟩
  by_cases h0 : es.length = 0
  · exact .inl h0
  · obtain ⟨g, rfl, _, _⟩ := ha_big h (by omega)
    obtain ⟨h1, h2⟩ := haAt_row h
    exact .inr ⟨g, 0, rfl, h1, by simp, h2⟩
theorem HaIn.on {w W : World} {ao : Option Addr} {n : Nat} {es : List Ha} (h : HaIn [] w ao n es) (hb : Below w.heap.size w W) : HaIn [] W ao n es := h.tn (Tn.ofBelow hb [])
/-- The cells of one of them, in every world that follows. -/
theorem HaIn.elem {w : World} {ao : Option Addr} {n : Nat} {es : List Ha} (h : HaIn [] w ao n es) {k : Nat} (hk : k < n) : ∃ b off a, ao = some ⟨b, off, none⟩ ∧ es.getD k Ha.none = a ∧ ∀ W, Below w.heap.size w W → W.cell? ⟨b, off + k * 5, none⟩ = some (.int .i64 a.h) ∧ W.cell? ⟨b, off + k * 5 + 1, none⟩ = some (.int .i64 a.u) ∧ W.cell? ⟨b, off + k * 5 + 2, none⟩ = some (.int .i64 a.c) ∧ W.cell? ⟨b, off + k * 5 + 3, none⟩ = some (.int .i64 a.s) ∧ W.cell? ⟨b, off + k * 5 + 4, none⟩ = some (.int .i64 a.t) := by
  obtain ⟨hlen, hrow, _⟩ := h
  rcases hrow with c | ⟨b, off, rfl, hat, _, hlb⟩
  · omega
  · exact ⟨b, off, _, rfl, rfl, fun W hW => (hat.same (hW.block b hlb)).elem (by rw [← hlen]; exact hk)⟩
/-- The first k of a row. -/
theorem HaAt.take {w : World} {b off : Nat} {es : List Ha} (h : HaAt w b off es) (k : Nat) : HaAt w b off (es.take k) := fun i u hu => h i u (by
  have e : haCells es = haCells (es.take k) ++ haCells (es.drop k) := by rw [← haCells_app, List.take_append_drop]
  rw [e]
  have hl : i < (haCells (es.take k)).length := by
    rcases Nat.lt_or_ge i (haCells (es.take k)).length with c | c
    · exact c
    · rw [List.getElem?_eq_none c] at hu; cases hu
  rw [List.getElem?_append_left hl]
  exact hu)
/-- Those behind the first k. -/
theorem HaAt.drop {w : World} {b off : Nat} {es : List Ha} (h : HaAt w b off es) {k : Nat} (hk : k ≤ es.length) : HaAt w b (off + k * 5) (es.drop k) := fun i u hu => by
  have e : haCells es = haCells (es.take k) ++ haCells (es.drop k) := by rw [← haCells_app, List.take_append_drop]
  have hl : (haCells (es.take k)).length = k * 5 := by rw [haCells_len, List.length_take, Nat.min_eq_left hk]
  rw [Nat.add_assoc]
  refine h (k * 5 + i) u ?_
  rw [e, List.getElem?_append_right (by omega), hl, show k * 5 + i - k * 5 = i by omega]
  exact hu
/-- A row laid behind a row of one's own. -/
theorem ha_grow {w0 W : World} {C : Ass} (hC : C.Good) {ao : Option Addr} {n cap : Nat} {es fs : List Ha} {b off k c : Nat} (hS : At w0 ((rowE THa 5 (.slice ao n cap) es.length (haCells es)).star C) W) (hat : HaAt W b off fs) (hk : k = fs.length) (hn : es.length + k ≤ 3518437208883) (ty : TypeId) :
    ∃ a2 c2 w2, (Builtin.append_ #[22, 22] ty #[.slice ao n cap, .slice (some ⟨b, off, none⟩) k c]).run Try.prog W = .ok (.slice a2 (n + k) c2) w2 ∧ At w0 ((rowE THa 5 (.slice a2 (n + k) c2) (es ++ fs).length (haCells (es ++ fs))).star C) w2 := by
  obtain ⟨v', w2, hrun, hrow, hgr, hnil, hlo⟩ := ha_runApp (es := fs) ty es hS.erow (some ⟨b, off, none⟩) k c hk hn (.inr ⟨_, _, rfl, hat⟩)
  have hlen : n = es.length := by
    obtain ⟨a3, c3, e3⟩ := rowE_shape hS.erow
    simp at e3
    exact e3.2.1
  obtain ⟨a2, c2, rfl⟩ := rowE_shape hrow
  rw [← hlen] at hrun hrow hlo
  refine ⟨a2, c2, w2, hrun, ?_⟩
  refine hS.appendedE hC hgr ?_ ?_
  · rw [haCells_app, List.length_append, ← hlen, ← hk]
    exact hrow
  · rcases hlo with e | e
    · exact .inl e
    · exact .inr ⟨_, Nat.le_refl _, e⟩
/-- A row that a call made. -/
def HaNew (w : World) (es : List Ha) (a2 : Option Addr) (c2 : Nat) (w' : World) : Prop := At w ((rowE THa 5 (.slice a2 es.length c2) es.length (haCells es)).star emp) w'
set_option maxRecDepth 100000 in
set_option maxHeartbeats 4000000 in
theorem rexpire {w : World} {ao : Option Addr} {n cap : Nat} {es : List Ha} (hes : HaIn [] w ao n es) (hn : n ≤ 3518437208878) (t : Int) :
    Calls Try.prog 15 #[.slice ao n cap, .int .i64 t] w fun e w' => ∃ a2 c2, e = .returned (.slice a2 (haLeft es t).length c2) ∧ HaNew w (haLeft es t) a2 c2 w' := by
  have HE := Lib.hid (fun k (hk : k < n) => hes.elem (k := k) hk)
  have HL := Lib.hid hes.len
  have hS0 := At.erow0 THa 5 (At.none (Below.refl w.heap.size w))
  have hfew := hes.few
  clear hes
  go_enter Try.func15, Try.ntmps15
  go_wp2
  go_loopw [5, 6] (fun s i wr => ∃ (k : Nat) (a3 : Option Addr) (c3 : Nat), k ≤ n ∧ i = .int .i64 (k : Int) ∧ s = .slice a3 (haLeft (es.take k) t).length c3 ∧ HaNew w (haLeft (es.take k) t) a3 c3 wr) (fun _ i _ => n - (intOf i).toNat)
  case atStart => exact ⟨0, none, 0, Nat.zero_le _, rfl, rfl, hS0⟩
  case round =>
    clear hS0
    obtain ⟨k, a3, c3, hk, rfl, rfl, hS⟩ := hrel
    by_cases hlt : k < n
    · obtain ⟨b, off, a, rfl, ha, hcell⟩ := HE.out k hlt
      obtain ⟨x0, x1, x2, x3, x4⟩ := hcell _ (At.bel hS)
      have hT := haLeft_take (k := k) (by rw [← HL.out]; exact hlt) ha t
      have hsmall : (haLeft (es.take k) t).length ≤ k := Nat.le_trans (haLeft_len _ _) (by rw [List.length_take]; omega)
      obtain ⟨f0, f1, f2, f3, f4⟩ := a
      dsimp only at x0 x1 x2 x3 x4 hT
      have HS := Lib.hid hS
      clear hS ha hcell
      by_cases hc : t < f4
      · rw [if_pos hc] at hT
        have HT := Lib.hid hT
        clear hT
        generalize haLeft (es.take k) t = ls at *
        have hfew2 : ls.length + 1 ≤ 3518437208883 := by omega
        go_wp2_with (at_builtin; refine ha_appLit emp_good rfl _ _ rfl a3 ls.length c3 ls [⟨f0, f1, f2, f3, f4⟩] 1 rfl rfl rfl rfl HS.out hfew2 ?_; intro a4 c4 w4 hS4; have H4 := Lib.hid hS4; clear hS4)
        go_roundw
        case rel => exact ⟨k + 1, a4, c4, by omega, by go_num, by rw [HT.out, List.length_append]; rfl, by rw [HT.out]; unfold HaNew; have h := H4.out; rw [List.length_append] at h ⊢; exact h⟩
        case measure => simp [intOf]; omega
      · rw [if_neg hc] at hT
        have HT := Lib.hid hT
        clear hT
        go_wp2
        go_roundw
        case rel => exact ⟨k + 1, a3, c3, by omega, by go_num, by rw [HT.out], by rw [HT.out]; exact HS.out⟩
        case measure => simp [intOf]; omega
    · obtain rfl : k = n := by omega
      have hltI : ¬ (k : Int) < (k : Int) := by omega
      have hfull : es.take k = es := by rw [HL.out, List.take_length]
      rw [hfull] at hS ⊢
      have HS := Lib.hid hS
      clear hS hfull
      go_wp2
      go_ret
      exact ⟨_, _, rfl, HS.out⟩
end Go.Proofs.Ytikdnmbbiipbjaa
