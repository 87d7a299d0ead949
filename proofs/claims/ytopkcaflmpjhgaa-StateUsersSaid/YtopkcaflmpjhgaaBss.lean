/- Put together: Ssp, Sus0. Conditions: each theorem's own. -/
import Derived.Test.YtopkcaflmpjhgaaBsn
import Derived.Test.YtopkcaflmpjhgaaBtw
namespace Go.Proofs.Ytopkcaflmpjhgaa
open Go
abbrev cfS : Cf := ⟨100, 2, 3, 3, 2, 20, 10, 15, 60, 8, 50, 1⟩
abbrev snSt (nx u0 u1 : Int) (l : List Se) (ad : List Pa) : St := ⟨1, 0, nx, [⟨0, 5, 6, 50, u0, 0, 0, 0, 0⟩, ⟨1, 7, 8, 60, u1, 0, 0, 0, 0⟩], l, ad, []⟩
structure SnI (k : Nat) (nx u0 u1 : Int) (l : List Se) (ad : List Pa) : Prop where
  len : l.length ≤ 3
  al : ad.length = 3
  am : ∀ a ∈ ad, a.may = true
  bz : ∀ j : Nat, j < 3 → ((ad.getD j .none).b = true ↔ ∃ x ∈ l, x.a = (j : Int))
  n0 : 0 ≤ nx
  n1 : nx ≤ (k : Int)
  el : ∀ x ∈ l, 0 ≤ x.s ∧ x.s < nx ∧ 0 ≤ x.a ∧ x.a ≤ 2 ∧ (x.u = 0 ∨ x.u = 1)
  up : l.Pairwise (fun x y => x.s < y.s)
  df : l.Pairwise (fun x y => x.a ≠ y.a)
  a0 : 0 ≤ u0
  a1 : u0 ≤ 255 * (k : Int)
  b0 : 0 ≤ u1
  b1 : u1 ≤ 255 * (k : Int)
theorem SnI.begin : SnI 0 0 0 0 [] (pnL 3) := by
  refine ⟨by decide, by decide, by decide, ?_, by decide, by decide, fun _ h => by simp at h, List.Pairwise.nil, List.Pairwise.nil, by decide, by decide, by decide, by decide⟩
  intro j hj
  have : j = 0 ∨ j = 1 ∨ j = 2 := by omega
  rcases this with rfl | rfl | rfl <;> simp [pnL, pnOk]
theorem poMay_of {k : Nat} {nx u0 u1 : Int} {l : List Se} {ad : List Pa} (h : SnI k nx u0 u1 l ad) : poMay ad = true := (poMay_iff ad).2 ⟨by rw [h.al]; decide, by rw [h.al]; decide, h.am⟩
theorem cfS_may : cfS.may = true := by decide
theorem sn_lease {k : Nat} {nx u0 u1 : Int} {l : List Se} {ad : List Pa} (h : SnI k nx u0 u1 l ad) (hk : k < 40) (hl : l.length < 3) {u a : Int} (hu : u = 0 ∨ u = 1) (ha0 : 0 ≤ a) (ha1 : a ≤ 2) (hf : ∀ x ∈ l, x.a ≠ a) :
    stAS cfS (snSt nx u0 u1 l ad) ⟨5, u, nx, a, 0, 0, 0, k⟩ = snSt (nx + 1) u0 u1 (l ++ [⟨nx, u, a, k⟩]) (ad.set a.toNat ⟨true, u, 0⟩) ∧ stAE cfS (snSt nx u0 u1 l ad) ⟨5, u, nx, a, 0, 0, 0, k⟩ = 0 ∧
    SnI (k + 1) (nx + 1) u0 u1 (l ++ [⟨nx, u, a, k⟩]) (ad.set a.toNat ⟨true, u, 0⟩) := by
  obtain ⟨n0, n1⟩ := And.intro h.n0 h.n1
  have ho : stOk cfS (snSt nx u0 u1 l ad) ⟨5, u, nx, a, 0, 0, 0, k⟩ = true := by
    have e : Ev.may ⟨5, u, nx, a, 0, 0, 0, k⟩ = true := by
      refine (Ev.may_iff _).2 ⟨(Ev.rng_iff _).2 ⟨?_, ?_, ?_, ?_, ?_, ?_, ?_, ?_, ?_, ?_, ?_⟩, rfl, rfl⟩
      all_goals first
        | (dsimp only; omega)
        | (unfold okNum; dsimp only; simp; omega)
        | rfl
    unfold stOk
    rw [cfS_may, e, show ((snSt nx u0 u1 l ad).ad.length : Int) = 3 by simp [h.al]]
    rfl
  have hb : (ad.getD a.toNat .none).b = false := by
    cases c : (ad.getD a.toNat .none).b with
    | false => rfl
    | true =>
      obtain ⟨x, hx, e⟩ := (h.bz a.toNat (by omega)).1 c
      exact absurd (by omega) (hf x hx)
  have hp : ptOk ad a u = true := by
    have e1 : poUser u = true := (poUser_iff u).2 (by omega)
    have e2 : decide (0 ≤ a) = true := decide_eq_true ha0
    have e3 : decide (a < (ad.length : Int)) = true := decide_eq_true (by rw [h.al]; omega)
    unfold ptOk
    rw [poMay_of h, e1, e2, e3, hb]
    rfl
  have hE : stEv cfS (snSt nx u0 u1 l ad) ⟨5, u, nx, a, 0, 0, 0, k⟩ = some (snSt (nx + 1) u0 u1 (l ++ [⟨nx, u, a, k⟩]) (ad.set a.toNat ⟨true, u, 0⟩)) := by
    have hU : (usAt (snSt nx u0 u1 l ad).us u).isSome = true := by rcases hu with rfl | rfl <;> rfl
    unfold stEv
    rw [if_neg (show ¬ (5 : Int) = 0 by decide), if_pos rfl, if_pos ⟨rfl, hU, by show ((l.length : Nat) : Int) < 3; omega, hp⟩]
  refine ⟨by unfold stAS; rw [ho, hE]; rfl, by unfold stAE; rw [ho, hE]; rfl, ?_⟩
  refine ⟨by simp; omega, by simp [h.al], ?_, ?_, by omega, by omega, ?_, ?_, ?_, h.a0, by have := h.a1; omega, h.b0, by have := h.b1; omega⟩
  · intro y hy
    rcases List.mem_or_eq_of_mem_set hy with c | rfl
    · exact h.am y c
    · rcases hu with rfl | rfl <;> decide
  · intro j hj
    by_cases c : a.toNat = j
    · subst c
      rw [show ((ad.set a.toNat ⟨true, u, 0⟩).getD a.toNat .none) = ⟨true, u, 0⟩ by simp [List.getD, h.al, hj]]
      refine ⟨fun _ => ⟨⟨nx, u, a, k⟩, by simp, by dsimp only; omega⟩, fun _ => rfl⟩
    · rw [show ((ad.set a.toNat ⟨true, u, 0⟩).getD j .none) = ad.getD j .none by simp [List.getD, c], h.bz j hj]
      constructor
      · rintro ⟨x, hx, e⟩
        exact ⟨x, by simp [hx], e⟩
      · rintro ⟨x, hx, e⟩
        rcases List.mem_append.1 hx with d | d
        · exact ⟨x, d, e⟩
        · obtain rfl : x = ⟨nx, u, a, k⟩ := by simpa using d
          dsimp only at e
          omega
  · intro x hx
    rcases List.mem_append.1 hx with d | d
    · have := h.el x d
      omega
    · obtain rfl : x = ⟨nx, u, a, k⟩ := by simpa using d
      dsimp only
      omega
  · refine List.pairwise_append.2 ⟨h.up, List.pairwise_singleton _ _, fun x hx y hy => ?_⟩
    obtain rfl : y = ⟨nx, u, a, k⟩ := by simpa using hy
    exact (h.el x hx).2.1
  · refine List.pairwise_append.2 ⟨h.df, List.pairwise_singleton _ _, fun x hx y hy => ?_⟩
    obtain rfl : y = ⟨nx, u, a, k⟩ := by simpa using hy
    exact hf x hx
theorem ixP_at {l : List Se} (hp : l.Pairwise (fun x y => x.s < y.s)) {j : Nat} (hj : j < l.length) (i : Nat) : ixP (fun x => decide (x.s = (l.getD j .none).s)) l i = some (i + j) := by
  induction l generalizing i j with
  | nil => simp at hj
  | cons a r ih =>
    obtain ⟨h1, h2⟩ := List.pairwise_cons.1 hp
    cases j with
    | zero => simp [ixP]
    | succ j =>
      have hj' : j < r.length := by simpa using hj
      have e : (r.getD j .none) = r[j] := by simp [List.getD, hj']
      have hlt : a.s < (r.getD j .none).s := h1 _ (e ▸ List.getElem_mem hj')
      have := ih h2 hj' (i + 1)
      simp only [ixP, List.getD_cons_succ]
      rw [if_neg (by simpa using (by omega : ¬ a.s = (r.getD j .none).s)), this]
      congr 1; omega
theorem mem_cut {l : List Se} {j : Nat} {x : Se} (hx : x ∈ l.take j ++ l.drop (j + 1)) : x ∈ l := by
  rcases List.mem_append.1 hx with d | d
  · exact List.mem_of_mem_take d
  · exact List.mem_of_mem_drop d
theorem cut_sub (l : List Se) (j : Nat) : (l.take j ++ l.drop (j + 1)).Sublist l := by
  have h : l.take j ++ l.drop j = l := List.take_append_drop j l
  have e : l.drop (j + 1) = (l.drop j).drop 1 := by rw [List.drop_drop]
  have := (List.Sublist.refl (l.take j)).append (List.drop_sublist 1 (l.drop j))
  rw [h, ← e] at this
  exact this
theorem cut_split {l : List Se} {j : Nat} (hj : j < l.length) : l = l.take j ++ l.getD j .none :: l.drop (j + 1) := by
  have e : l.getD j .none = l[j] := by simp [List.getD, hj]
  rw [e, ← List.drop_eq_getElem_cons hj, List.take_append_drop]
/-- What a user had, with more. -/
def snAdd (i : Int) (x u b : Int) : Int := if u = i then x + b else x
theorem sn_end {k : Nat} {nx u0 u1 : Int} {l : List Se} {ad : List Pa} (h : SnI k nx u0 u1 l ad) (hk : k < 40) {j : Nat} (hj : j < l.length) {x : Se} (hx : l.getD j .none = x) {b : Int} (hb0 : 0 ≤ b) (hb1 : b ≤ 255) :
    stAS cfS (snSt nx u0 u1 l ad) ⟨6, 0, x.s, 0, b, 0, 0, k⟩ = snSt nx (snAdd 0 u0 x.u b) (snAdd 1 u1 x.u b) (l.take j ++ l.drop (j + 1)) (ad.set x.a.toNat ⟨false, (ad.getD x.a.toNat .none).l, k⟩) ∧ stAE cfS (snSt nx u0 u1 l ad) ⟨6, 0, x.s, 0, b, 0, 0, k⟩ = 0 ∧
    SnI (k + 1) nx (snAdd 0 u0 x.u b) (snAdd 1 u1 x.u b) (l.take j ++ l.drop (j + 1)) (ad.set x.a.toNat ⟨false, (ad.getD x.a.toNat .none).l, k⟩) := by
  obtain ⟨n0, n1⟩ := And.intro h.n0 h.n1
  obtain ⟨v0, v1, v2, v3⟩ : 0 ≤ u0 ∧ u0 ≤ 255 * (k : Int) ∧ 0 ≤ u1 ∧ u1 ≤ 255 * (k : Int) := ⟨h.a0, h.a1, h.b0, h.b1⟩
  have hm : x ∈ l := by
    rw [← hx, show l.getD j .none = l[j] by simp [List.getD, hj]]
    exact List.getElem_mem hj
  obtain ⟨s0, s1, a0, a1, hu⟩ := h.el x hm
  have ho : stOk cfS (snSt nx u0 u1 l ad) ⟨6, 0, x.s, 0, b, 0, 0, k⟩ = true := by
    have e : Ev.may ⟨6, 0, x.s, 0, b, 0, 0, k⟩ = true := by
      refine (Ev.may_iff _).2 ⟨(Ev.rng_iff _).2 ⟨?_, ?_, ?_, ?_, ?_, ?_, ?_, ?_, ?_, ?_, ?_⟩, rfl, rfl⟩
      all_goals first
        | (dsimp only; omega)
        | (unfold okNum; dsimp only; simp; omega)
        | rfl
    unfold stOk
    rw [cfS_may, e, show ((snSt nx u0 u1 l ad).ad.length : Int) = 3 by simp [h.al]]
    rfl
  have hb : (ad.getD x.a.toNat .none).b = true := (h.bz x.a.toNat (by omega)).2 ⟨x, hm, by omega⟩
  have hp : pfOk ad x.a k = true := by
    have e2 : decide (0 ≤ x.a) = true := decide_eq_true a0
    have e3 : decide (x.a < (ad.length : Int)) = true := decide_eq_true (by rw [h.al]; omega)
    have e4 : decide (0 ≤ (k : Int)) = true := decide_eq_true (by omega)
    unfold pfOk
    rw [poMay_of h, e2, e3, e4, hb]
    rfl
  have hs : seAt l x.s = some j := by
    have := ixP_at h.up hj 0
    rw [hx, Nat.zero_add] at this
    exact this
  have hq : ∀ v : Int, 0 ≤ v → v ≤ 255 * (k : Int) → stSum v b = v + b := fun v p0 p1 => by unfold stSum; rw [if_neg (by omega)]
  have hE : stEv cfS (snSt nx u0 u1 l ad) ⟨6, 0, x.s, 0, b, 0, 0, k⟩ = some (snSt nx (snAdd 0 u0 x.u b) (snAdd 1 u1 x.u b) (l.take j ++ l.drop (j + 1)) (ad.set x.a.toNat ⟨false, (ad.getD x.a.toNat .none).l, k⟩)) := by
    unfold stEv
    rw [if_neg (show ¬ (6 : Int) = 0 by decide), if_neg (show ¬ (6 : Int) = 5 by decide), if_pos rfl]
    show (match seAt l x.s with | Option.none => Option.none | some k' => _) = _
    rw [hs]
    show (if pfOk ad (l.getD j .none).a k then _ else Option.none) = _
    rw [hx, hp, if_pos rfl]
    rcases hu with e | e
    · rw [e]
      show some (St.mk _ _ _ (List.set _ 0 ⟨0, 5, 6, 50, stSum u0 b, 0, 0, 0, 0⟩) _ _ _) = _
      rw [hq u0 v0 v1]
      rfl
    · rw [e]
      show some (St.mk _ _ _ (List.set _ 1 ⟨1, 7, 8, 60, stSum u1 b, 0, 0, 0, 0⟩) _ _ _) = _
      rw [hq u1 v2 v3]
      rfl
  refine ⟨by unfold stAS; rw [ho, hE]; rfl, by unfold stAE; rw [ho, hE]; rfl, ?_⟩
  have hlen : (l.take j ++ l.drop (j + 1)).length ≤ 3 := Nat.le_trans (cut_sub l j).length_le h.len
  refine ⟨hlen, by simp [h.al], ?_, ?_, n0, by omega, fun y hy => h.el y (mem_cut hy), h.up.sublist (cut_sub l j), h.df.sublist (cut_sub l j), ?_, ?_, ?_, ?_⟩
  · intro y hy
    rcases List.mem_or_eq_of_mem_set hy with c | rfl
    · exact h.am y c
    · have hz : (ad.getD x.a.toNat .none).may = true := by
        rw [show ad.getD x.a.toNat .none = ad[x.a.toNat]'(by rw [h.al]; omega) by simp [List.getD, h.al, show x.a.toNat < 3 by omega]]
        exact h.am _ (List.getElem_mem _)
      have := (Pa.may_iff _).1 hz
      exact (Pa.may_iff _).2 ⟨this.1, this.2.1, by dsimp only; omega⟩
  · intro i hi
    have hd := h.df
    rw [cut_split hj, hx] at hd
    obtain ⟨-, d2, d3⟩ := List.pairwise_append.1 hd
    obtain ⟨d4, -⟩ := List.pairwise_cons.1 d2
    have hne : ∀ y ∈ l.take j ++ l.drop (j + 1), y.a ≠ x.a := fun y hy => by
      rcases List.mem_append.1 hy with d | d
      · exact d3 y d x (by simp)
      · exact fun c => d4 y d c.symm
    by_cases c : x.a.toNat = i
    · subst c
      rw [show ((ad.set x.a.toNat ⟨false, (ad.getD x.a.toNat .none).l, k⟩).getD x.a.toNat .none) = ⟨false, (ad.getD x.a.toNat .none).l, k⟩ by simp [List.getD, h.al, hi]]
      refine ⟨fun c => (by cases c), fun ⟨y, hy, e⟩ => absurd (by omega) (hne y hy)⟩
    · rw [show ((ad.set x.a.toNat ⟨false, (ad.getD x.a.toNat .none).l, k⟩).getD i .none) = ad.getD i .none by simp [List.getD, c], h.bz i hi]
      constructor
      · rintro ⟨y, hy, e⟩
        refine ⟨y, ?_, e⟩
        have hy' := hy
        rw [cut_split hj, hx] at hy'
        rcases List.mem_append.1 hy' with d | d
        · exact List.mem_append.2 (.inl d)
        · rcases List.mem_cons.1 d with d | d
          · subst d; omega
          · exact List.mem_append.2 (.inr d)
      · rintro ⟨y, hy, e⟩
        exact ⟨y, mem_cut hy, e⟩
  all_goals (unfold snAdd; split <;> omega)
/-- The address that the walk takes: the last one that none has. -/
def snHas (l : List Se) (k : Int) : Bool := l.any (fun x => decide (x.a = k))
def snPick (l : List Se) : Int := if snHas l 2 then (if snHas l 1 then 0 else 1) else 2
theorem snHas_no {l : List Se} {k : Int} : snHas l k = false ↔ ∀ x ∈ l, x.a ≠ k := by simp [snHas]
theorem snPick_free {l : List Se} (hl : l.length < 3) : (∀ x ∈ l, x.a ≠ snPick l) ∧ 0 ≤ snPick l ∧ snPick l ≤ 2 := by
  unfold snPick
  match l, hl with
  | [], _ => simp [snHas]
  | [x], _ =>
    simp only [snHas, List.any_cons, List.any_nil, Bool.or_false, decide_eq_true_eq, List.mem_singleton, forall_eq]
    split <;> (try split) <;> omega
  | [x, y], _ =>
    simp only [snHas, List.any_cons, List.any_nil, Bool.or_false, Bool.or_eq_true, decide_eq_true_eq, List.mem_cons, List.not_mem_nil, or_false, forall_eq_or_imp, forall_eq]
    split <;> (try split) <;> omega
theorem SnI.sm {k : Nat} {nx u0 u1 : Int} {l : List Se} {ad : List Pa} (h : SnI k nx u0 u1 l ad) (hk : k ≤ 40) : (snSt nx u0 u1 l ad).sm 1 := by
  have h1 := h.len
  have h2 := h.al
  have h3 := h.a0
  have h4 := h.a1
  have h5 := h.b0
  have h6 := h.b1
  refine ⟨?_, by show l.length ≤ _; omega, by show ad.length ≤ _; omega, by show 0 + 1 ≤ _; decide, ⟨by show -9223372036854775808 ≤ (0 : Int); decide, ?_⟩, by show ∀ y ∈ ([] : List Int), _; simp⟩
  · show 2 + uFree _ ≤ _
    have := uFree_le (snSt nx u0 u1 l ad).us
    omega
  · intro x hx
    have hx' : x = ⟨0, 5, 6, 50, u0, 0, 0, 0, 0⟩ ∨ x = ⟨1, 7, 8, 60, u1, 0, 0, 0, 0⟩ := by simpa using hx
    rcases hx' with rfl | rfl <;> (dsimp only; omega)
/-- The same, one round on. -/
theorem SnI.next {k : Nat} {nx u0 u1 : Int} {l : List Se} {ad : List Pa} (h : SnI k nx u0 u1 l ad) : SnI (k + 1) nx u0 u1 l ad :=
  ⟨h.len, h.al, h.am, h.bz, h.n0, by have := h.n1; omega, h.el, h.up, h.df, h.a0, by have := h.a1; omega, h.b0, by have := h.b1; omega⟩
end Go.Proofs.Ytopkcaflmpjhgaa

namespace Go.Proofs.Ytopkcaflmpjhgaa
open Go Go.RowKit

/-- A state's user, wherever memory goes. -/
theorem STS.us {w0 V : World} {l : List Ob} {z : List (Sv × St)} {R : Ass} {h : Sv} {s : St} {i k : Nat} (q : At w0 (OB l (STS z R)) V) (hi : z[i]? = some (h, s)) (hm : s.sm k) {j : Nat} (hj : j < s.us.length) {a : Us} (ha : s.us.getD j Us.none = a) :
    ∃ b off, h.u = some ⟨b, off, Option.none⟩ ∧ ∀ W, Below V.heap.size V W → W.cell? ⟨b, off + j * 9, Option.none⟩ = some (.int .i64 a.u) ∧ W.cell? ⟨b, off + j * 9 + 1, Option.none⟩ = some (.int .i64 a.k) ∧ W.cell? ⟨b, off + j * 9 + 2, Option.none⟩ = some (.int .i64 a.s) ∧ W.cell? ⟨b, off + j * 9 + 3, Option.none⟩ = some (.int .i64 a.q) ∧ W.cell? ⟨b, off + j * 9 + 4, Option.none⟩ = some (.int .i64 a.used) ∧ W.cell? ⟨b, off + j * 9 + 5, Option.none⟩ = some (.int .i64 a.lf) ∧ W.cell? ⟨b, off + j * 9 + 6, Option.none⟩ = some (.int .i64 a.lu) ∧ W.cell? ⟨b, off + j * 9 + 7, Option.none⟩ = some (.int .i64 a.st) ∧ W.cell? ⟨b, off + j * 9 + 8, Option.none⟩ = some (.int .i64 a.g) := by
  subst ha
  obtain ⟨b, off, a, e1, e2, e3⟩ := us_el (STS.at q hi hm).us hj
  subst e2
  exact ⟨b, off, e1, e3⟩
end Go.Proofs.Ytopkcaflmpjhgaa

